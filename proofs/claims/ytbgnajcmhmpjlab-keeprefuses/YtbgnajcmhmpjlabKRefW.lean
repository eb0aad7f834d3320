/- The walk of KeepRefuses: it answers true, whatever shop, world and records it is given. -/
import Derived.Test.YtbgnajcmhmpjlabKAsk
namespace Go.Proofs.Ytbgnajcmhmpjlab
open Go.RowKit

set_option maxHeartbeats 8000000 in
set_option maxRecDepth 100000 in
theorem refuses_walk (no : Int) (ws : Nat → Int) (la : Option Addr) (ll lc : Nat) (l : List Stp) (w : World) (hl : StepsAt w la l) (hll : l.length = ll) :
    Calls Try.prog 5 #[.int .i64 no, .agg #[.int .i64 (ws 0), .int .i64 (ws 1), .int .i64 (ws 2), .int .i64 (ws 3), .int .i64 (ws 4), .int .i64 (ws 5)], .slice la ll lc] w fun e w' => e = .returned (.bool true) ∧ Below w.heap.size w w' := by
  by_cases hbig : 150 < ll
  · have hbig' : (150 : Int) < (ll : Int) := by omega
    clear hl hll hbig
    go_enter Try.func5, Try.ntmps5
    go_wp2_with fail
    refine (kbegun_any _).mono ?_
    rintro e w1 ⟨rfl, hb1⟩
    go_wp2_with fail
    go_ret
    exact ⟨rfl, after (by go_grown) hb1 (by simp)⟩
  · have hbig' : ¬ (150 : Int) < (ll : Int) := by omega
    have HB : Hid (ll ≤ 150) := by show _ ≤ _; omega
    clear hbig
    go_enter Try.func5, Try.ntmps5
    go_wp2_with fail
    refine (kbegun_any _).mono ?_
    rintro e w1 ⟨rfl, hb1⟩
    have hX := (box_new6 w ws 23).next hb1
    have hb2 : Below w.heap.size w w1 := after (by go_grown) hb1 (by simp)
    have x0 := hX.2 0 _ rfl
    have x1 := hX.2 1 _ rfl
    have x2 := hX.2 2 _ rfl
    have x3 := hX.2 3 _ rfl
    have x4 := hX.2 4 _ rfl
    have x5 := hX.2 5 _ rfl
    clear hb1 hX
    go_wp2_with fail
    refine (knew_any no ws _).mono ?_
    rintro e w2 ⟨hN, hb3⟩
    have hb4 : Below w.heap.size w w2 := after hb2 hb3 hb2.size
    clear x0 x1 x2 x3 x4 x5
    unfold NewKIs at hN
    by_cases hok : newOk no ws = true
    · rw [if_pos hok] at hN
      obtain ⟨q, O, rfl, hI, hO⟩ := hN
      have hL : KLive w (fun _ => False) w2 q no ws ⟨book0 no ws, []⟩ := ⟨⟨O, hI, fun k hk => ⟨Nat.le_trans hb2.size (hO k hk), fun q => q⟩⟩, hb4, fun _ q => q.elim⟩
      have HG0 : Hid (GoodK (book0 no ws) ⟨book0 no ws, []⟩) := goodK_new (good_new hok) rfl rfl
      have HT : Hid (StepsAt w la l) := hl
      clear hI hO hb2 hb3 hok hb4 hl
      go_wp2_with fail
      go_loopg [8] ll (fun g s8 wr => ∃ (k : Nat) (K : Kb), k ≤ ll ∧ g = ll - k ∧ s8 = .int .i64 k ∧ KLive w (fun _ => False) wr q no ws K ∧ Hid (GoodK (book0 no ws) K) ∧ Hid (K.rs.length ≤ k))
      case atStart => exact ⟨0, _, Nat.zero_le _, rfl, rfl, hL, HG0, Nat.le_refl _⟩
      case round =>
        obtain ⟨k, K, hk, rfl, rfl, hL1, HG, HL⟩ := hrel
        clear hL HG0
        by_cases hlt : k < ll
        · obtain ⟨x, hkx⟩ : ∃ x, l[k]? = some x := ⟨_, List.getElem?_eq_getElem (by omega)⟩
          obtain ⟨bl, ol, rfl, hbl, hcell⟩ := HT.out k x hkx
          have HCe : Hid (∀ W : World, Below w.heap.size w W → ∀ j v, x.cells[j]? = some v → W.cell? ⟨bl, ol + k * 5 + j, none⟩ = some v) := fun W hW j v hj => (hW.cell (p := ⟨bl, _, none⟩) hbl).trans (hcell j v hj)
          have j0 : (0 : Int) ≤ (k : Int) := by omega
          have j1 : (k : Int) < (ll : Int) := by omega
          have HKN : Hid (k < ll) := hlt
          have HLen : Hid (K.A.hs.length ≤ 150 ∧ K.rs.length ≤ 150) := by
            have := HG.out.hl
            have := HL.out
            have := HB.out
            exact ⟨by omega, by omega⟩
          clear hcell hkx hk hlt hbl
          go_upto_region 11 with fail
          go_cut [9, 10, 11] (fun s9 s10 s11 wx => Asked w wr (fun _ => False) q no ws K s9 s10 s11 wx)
          case first =>
            obtain ⟨p, c0, hql, hLs⟩ := hL1.shop
            have HK : Hid (∀ w', Below wr.heap.size wr w' → w'.cell? ⟨q, 0, none⟩ = some (.pointer (some ⟨p, 0, none⟩)) ∧ Below wr.heap.size wr w') := fun w' hb => ⟨((bcell hb).1 _ _ hql).trans c0, hb⟩
            have HC9 : Hid (∀ W : World, Below wr.heap.size wr W → Calls Try.prog 18 #[.pointer (some ⟨p, 0, none⟩)] W fun e w' => e = .returned (.agg #[.int .i64 (cnt6 K.A 0), .int .i64 (cnt6 K.A 1), .int .i64 (cnt6 K.A 2), .int .i64 (cnt6 K.A 3), .int .i64 (cnt6 K.A 4), .int .i64 (cnt6 K.A 5)]) ∧ Below W.heap.size W w') := fun W hW => (counts_live (hLs.next hW)).mono (fun e w' h => ⟨h.1, h.2.2⟩)
            have HC12 : Hid (∀ W : World, Below wr.heap.size wr W → Calls Try.prog 21 #[.pointer (some ⟨p, 0, none⟩)] W fun e w' => (∃ ga cap, e = .returned (.slice ga K.A.hs.length cap) ∧ HoldsAt w' ga K.A.hs ∧ (∀ a, ga = some a → W.heap.size ≤ a.block ∧ a.block < w'.heap.size)) ∧ Below W.heap.size W w') := fun W hW => (holds_live (hLs.next hW) (by have := HLen.out; omega)).mono (fun e w' h => ⟨h.1, h.2.2⟩)
            have HC19 : Hid (∀ W : World, Below wr.heap.size wr W → Calls Try.prog 28 #[.pointer (some ⟨q, 0, none⟩)] W fun e w' => (∃ ga cap, e = .returned (.slice ga K.rs.length cap) ∧ StepsAt w' ga K.rs ∧ (∀ a, ga = some a → W.heap.size ≤ a.block ∧ a.block < w'.heap.size)) ∧ Below W.heap.size W w') := fun W hW => (recs_live (hL1.next hW) (by have := HLen.out; omega)).mono (fun e w' h => by
              obtain ⟨⟨ga, cap, e1, e2, e3, _⟩, _, e4⟩ := h
              exact ⟨⟨ga, cap, e1, e2, e3⟩, e4⟩)
            have HL1 : Hid (KLive w (fun _ => False) wr q no ws K) := hL1
            clear hLs hL1
            go_region_held3 (fun w' => w'.cell? ⟨q, 0, none⟩ = some (.pointer (some ⟨p, 0, none⟩)) ∧ Below wr.heap.size wr w')
              (first | exact HK.out _ (by go_grown))
              (first | (go_at_call 18; refine Calls.mono (HC9.out _ (by go_grown)) ?_; rintro e w9 ⟨rfl, hb9⟩; have hw9 : Below wr.heap.size wr w9 := after (by go_grown) hb9 (by simp); have hz9 : wr.heap.size ≤ w9.heap.size := hw9.size; have hy9 := hb9.size; (try simp [Nat.add_one_le_iff] at hy9); obtain ⟨hc9, hf9⟩ := bcell hb9) | (go_at_call 21; refine Calls.mono (HC12.out _ (by go_grown)) ?_; rintro e w10 ⟨⟨ga, capa, rfl, hA10, hf10⟩, hb10⟩; have HA10 : Hid (HoldsAt w10 ga K.A.hs) := hA10; have HF10 : Hid _ := hf10; clear hA10 hf10; have hv10 : Below w9.heap.size w9 w10 := after (by go_grown) hb10 (by simp); have hw10 : Below wr.heap.size wr w10 := after (by go_grown) hb10 (by first | assumption | (simp; omega)); have hz10 : wr.heap.size ≤ w10.heap.size := hw10.size; have hy10 := hb10.size; (try simp [Nat.add_one_le_iff] at hy10); obtain ⟨hc10, hf10⟩ := bcell hb10; (try (have hq10 : wr.heap.size < w10.heap.size := by omega))) | (go_at_call 28; refine Calls.mono (HC19.out _ (by go_grown)) ?_; rintro e w11 ⟨⟨gr, capr, rfl, hA11, hf11⟩, hb11⟩; have HA11 : Hid (StepsAt w11 gr K.rs) := hA11; have HF11 : Hid _ := hf11; clear hA11 hf11; have hv11 : Below w10.heap.size w10 w11 := after (by go_grown) hb11 (by simp); have hw11 : Below wr.heap.size wr w11 := after (by go_grown) hb11 (by first | assumption | (simp; omega)); have hz11 : wr.heap.size ≤ w11.heap.size := hw11.size; have hy11 := hb11.size; (try simp [Nat.add_one_le_iff] at hy11); obtain ⟨hc11, hf11⟩ := bcell hb11; (try (have hq11 : wr.heap.size < w11.heap.size := by omega)); (try (have hq12 : w9.heap.size < w11.heap.size := by omega))))
            all_goals
              go_wp2_with fail
              go_meet
              case rel =>
                clear HC9 HC12 HC19 HK
                refine asked_of HL1.out hw11 (HA10.out.below hv11 (Nat.le_refl _)) HA11.out ?_ ?_ ?_ ?_ ?_
                · first
                    | with_reducible exact box_new6' _ _ _ _ _ _ _ _
                    | (with_reducible refine box_set6 ?_ ?_ _ _ _ _ _ _
                       · have h1 := hb11.size
                         have h2 := hb10.size
                         (try simp at h1)
                         (try simp at h2)
                         omega
                       · intro j hj
                         rcases six_cases hj with rfl | rfl | rfl | rfl | rfl | rfl
                         all_goals
                           first
                             | (refine ⟨.int .i64 0, ?_⟩; simp [go_sem, hc11]; done)
                             | (refine ⟨.int .i64 0, ?_⟩; simp [go_sem, hc11, hc10, hy10]; done)
                             | (refine ⟨.int .i64 0, ?_⟩; simp [go_sem, hc11, hc10, hc9, hq10, hy9]; done))
                · first
                    | with_reducible exact save_6 _ _ _ _ _ _ _ _
                    | with_reducible exact save_new _ _
                · first
                    | exact Nat.le_refl _
                    | omega
                · intro a e
                  have h1 := HF10.out a e
                  (try simp at h1)
                  omega
                · intro a e
                  have h1 := HF11.out a e
                  (try simp at h1)
                  omega
          case rest =>
            obtain ⟨cb, ga, capa, gr, capr, rfl, rfl, rfl, hC, hA, hR, hL2', _⟩ := hcut
            have hL2 : KLive w (fun b => b = cb ∨ (∃ a, ga = some a ∧ b = a.block) ∨ ∃ a, gr = some a ∧ b = a.block) wc q no ws K := hL2'.less (fun b hb => .inr hb)
            clear hL2'
            clear hL1
            have HCx := HCe.out wc hL2.below
            have p0 : wc.cell? ⟨bl, ol + k * 5, none⟩ = some (.int .i64 x.what) := HCx 0 _ rfl
            have p1 : wc.cell? ⟨bl, ol + k * 5 + 1, none⟩ = some (.int .i64 x.deal) := HCx 1 _ rfl
            have p2 : wc.cell? ⟨bl, ol + k * 5 + 2, none⟩ = some (.int .i64 x.c) := HCx 2 _ rfl
            have p3 : wc.cell? ⟨bl, ol + k * 5 + 3, none⟩ = some (.int .i64 x.d) := HCx 3 _ rfl
            have p4 : wc.cell? ⟨bl, ol + k * 5 + 4, none⟩ = some (.bool x.done) := HCx 4 _ rfl
            clear HCx
            go_wp2_with fail
            refine Calls.mono (do_live x hL2 HG.out.good (by have := HLen.out; omega) (by have := HLen.out; omega)) ?_
            rintro e w3 ⟨rfl, hL3, hS3⟩
            have hC3 := hC.save hS3 (fun q => q (.inl rfl))
            have hA3 := hA.save hS3 (fun a e q => q (.inr (.inl ⟨a, e, rfl⟩)))
            have hR3 := hR.save hS3 (fun a e q => q (.inr (.inr ⟨a, e, rfl⟩)))
            clear hL2 hC hA hR hS3 p0 p1 p2 p3 p4
            have HG3 : Hid (GoodK (book0 no ws) (doR K x).2) := goodK_do HG.out x
            have HL3 : Hid ((doR K x).2.rs.length ≤ k + 1) := by have := do_len K x; have := HL.out; show _ ≤ _; omega
            have HLen3 : Hid ((doR K x).2.A.hs.length ≤ 150 ∧ (doR K x).2.rs.length ≤ 150) := by
              have := HG3.out.hl
              have := HL3.out
              have := HKN.out
              have := HB.out
              exact ⟨by omega, by omega⟩
            have HRec : Hid ((doR K x).2.rs = K.rs ∨ ((doR K x).1 = 0 ∧ (doR K x).2.rs = K.rs ++ [x] ∧ ¬ x ∈ K.rs)) := do_recs K x
            have HSm : Hid ((doR K x).1 ≠ 0 → (doR K x).2 = K) := do_same
            generalize doR K x = r at *
            obtain ⟨code, K3⟩ := r
            dsimp only at *
            go_wp2_with fail
            refine Calls.mono (recs_live hL3 (by have := HLen3.out; omega)) ?_
            rintro e w4 ⟨⟨gn, capn, rfl, hN4, hf4, hcap4⟩, hL4, hb4⟩
            have hC4 := hC3.next hb4
            have hA4 := hA3.below hb4 (Nat.le_refl _)
            have hR4 := hR3.below hb4 (Nat.le_refl _)
            clear hL3 hC3 hA3 hR3 hb4 hf4
            go_upto_region 14 with fail
            go_cut [77] (fun s77 wx => s77 = .bool false ∧ Below w4.heap.size w4 wx)
            case first =>
              by_cases hz : code = 0
              · have hz' : (code != 0) = false := by simp [hz]
                clear hz
                refine region_class (C := (fun w' => Below w4.heap.size w4 w')) (by kernel_rfl) (by kernel_rfl) ((Below.refl _ _).drew) ?_
                repeat (first
                  | go_big_quiet_skip
                  | (go_big_quiet_want
                     refine q_val (v := ?_) (fun w' hS => ?_) ?_
                     rotate_left
                     focus
                       go_simp
                       all_goals (with_reducible rfl)
                     go_big_quiet_on
                     (try simp only [Act.put, List.setIfInBounds_toArray, List.set_cons_zero, List.set_cons_succ])))
                refine wpQuiet_nil ?_
                intro w8 hC8
                go_wp2_with fail
                go_meet
                case rel => exact ⟨rfl, hC8⟩
              · have hz' : (code != 0) = true := by simpa using hz
                have hKK := (HSm.out hz).symm
                subst hKK
                obtain ⟨p, c0, hql, hLs⟩ := hL4.shop
                have z0 := hC4.2 0 _ rfl
                have z1 := hC4.2 1 _ rfl
                have z2 := hC4.2 2 _ rfl
                have z3 := hC4.2 3 _ rfl
                have z4 := hC4.2 4 _ rfl
                have z5 := hC4.2 5 _ rfl
                have hcl := hC4.1
                have HK : Hid (∀ w', Below w4.heap.size w4 w' → w'.cell? ⟨q, 0, none⟩ = some (.pointer (some ⟨p, 0, none⟩)) ∧ w'.cell? ⟨cb, 0, none⟩ = some (.int .i64 (cnt6 K.A 0)) ∧ w'.cell? ⟨cb, 1, none⟩ = some (.int .i64 (cnt6 K.A 1)) ∧ w'.cell? ⟨cb, 2, none⟩ = some (.int .i64 (cnt6 K.A 2)) ∧ w'.cell? ⟨cb, 3, none⟩ = some (.int .i64 (cnt6 K.A 3)) ∧ w'.cell? ⟨cb, 4, none⟩ = some (.int .i64 (cnt6 K.A 4)) ∧ w'.cell? ⟨cb, 5, none⟩ = some (.int .i64 (cnt6 K.A 5)) ∧ Below w4.heap.size w4 w') := fun w' hb => ⟨((bcell hb).1 _ _ hql).trans c0, ((bcell hb).1 _ _ hcl).trans z0, ((bcell hb).1 _ _ hcl).trans z1, ((bcell hb).1 _ _ hcl).trans z2, ((bcell hb).1 _ _ hcl).trans z3, ((bcell hb).1 _ _ hcl).trans z4, ((bcell hb).1 _ _ hcl).trans z5, hb⟩
                have HC9 : Hid (∀ W : World, Below w4.heap.size w4 W → Calls Try.prog 18 #[.pointer (some ⟨p, 0, none⟩)] W fun e w' => e = .returned (.agg #[.int .i64 (cnt6 K.A 0), .int .i64 (cnt6 K.A 1), .int .i64 (cnt6 K.A 2), .int .i64 (cnt6 K.A 3), .int .i64 (cnt6 K.A 4), .int .i64 (cnt6 K.A 5)]) ∧ Below W.heap.size W w') := fun W hW => (counts_live (hLs.next hW)).mono (fun e w' h => ⟨h.1, h.2.2⟩)
                have HC12 : Hid (∀ W : World, Below w4.heap.size w4 W → Calls Try.prog 21 #[.pointer (some ⟨p, 0, none⟩)] W fun e w' => (∃ ga cap, e = .returned (.slice ga K.A.hs.length cap) ∧ HoldsAt w' ga K.A.hs) ∧ Below W.heap.size W w') := fun W hW => (holds_live (hLs.next hW) (by have := HLen.out; omega)).mono (fun e w' h => by
                  obtain ⟨⟨gb, capb, e1, e2, _⟩, _, e3⟩ := h
                  exact ⟨⟨gb, capb, e1, e2⟩, e3⟩)
                have HC11 : Hid (∀ (W W' : World) (gb : Option Addr) (capb : Nat), Below w4.heap.size w4 W → HoldsAt W gb K.A.hs → Below W.heap.size W W' → Calls Try.prog 20 #[.slice ga K.A.hs.length capa, .slice gb K.A.hs.length capb] W' fun e w' => e = .returned (.bool true) ∧ Below W'.heap.size W' w') := fun W W' gb capb hW hB hW' => (sameHolds_any ga gb _ _ capa capb K.A.hs K.A.hs W' ((hA4.below hW (Nat.le_refl _)).below hW' (Nat.le_refl _)) (hB.below hW' (Nat.le_refl _)) rfl rfl (by have := HLen.out; omega)).mono (fun e w' h => ⟨by rw [h.1]; exact ret_bool (decide_eq_true rfl), h.2⟩)
                have HC18 : Hid (∀ W : World, Below w4.heap.size w4 W → Calls Try.prog 27 #[.slice gr K.rs.length capr, .slice gn K.rs.length capn] W fun e w' => e = .returned (.bool true) ∧ Below W.heap.size W w') := fun W hW => (sameRecs_any gr gn _ _ capr capn K.rs K.rs W (hR4.below hW (Nat.le_refl _)) (hN4.below hW (Nat.le_refl _)) rfl rfl (by have := HLen.out; omega)).mono (fun e w' h => by
                  obtain ⟨⟨b, e1, e2⟩, e3⟩ := h
                  exact ⟨by rw [e1, e2.2 rfl], e3⟩)
                have hq1 : ∀ W : World, (Op.equalIn 10000 36 (.agg #[.int .i64 (cnt6 K.A 0), .int .i64 (cnt6 K.A 1), .int .i64 (cnt6 K.A 2), .int .i64 (cnt6 K.A 3), .int .i64 (cnt6 K.A 4), .int .i64 (cnt6 K.A 5)]) (.agg #[.int .i64 (cnt6 K.A 0), .int .i64 (cnt6 K.A 1), .int .i64 (cnt6 K.A 2), .int .i64 (cnt6 K.A 3), .int .i64 (cnt6 K.A 4), .int .i64 (cnt6 K.A 5)])).run Try.prog W = .ok true W := fun W => by rw [eqC]; simp
                clear hLs hL4 hC4 hA4 hR4 hN4 z0 z1 z2 z3 z4 z5 hz c0
                go_region_held3 (fun w' => w'.cell? ⟨q, 0, none⟩ = some (.pointer (some ⟨p, 0, none⟩)) ∧ w'.cell? ⟨cb, 0, none⟩ = some (.int .i64 (cnt6 K.A 0)) ∧ w'.cell? ⟨cb, 1, none⟩ = some (.int .i64 (cnt6 K.A 1)) ∧ w'.cell? ⟨cb, 2, none⟩ = some (.int .i64 (cnt6 K.A 2)) ∧ w'.cell? ⟨cb, 3, none⟩ = some (.int .i64 (cnt6 K.A 3)) ∧ w'.cell? ⟨cb, 4, none⟩ = some (.int .i64 (cnt6 K.A 4)) ∧ w'.cell? ⟨cb, 5, none⟩ = some (.int .i64 (cnt6 K.A 5)) ∧ Below w4.heap.size w4 w')
                  (first | exact HK.out _ (by go_grown))
                  (first | (go_at_call 18; refine Calls.mono (HC9.out _ (by go_grown)) ?_; rintro e w9 ⟨rfl, hb9⟩; have hw9 : Below w4.heap.size w4 w9 := after (by go_grown) hb9 (by simp); have hz9 : w4.heap.size ≤ w9.heap.size := hw9.size) | (go_at_call 21; refine Calls.mono (HC12.out _ (by go_grown)) ?_; rintro e w10 ⟨⟨gb, capb, rfl, hAB⟩, hb10⟩; have HAB : Hid (HoldsAt w10 gb K.A.hs) := hAB; clear hAB; have hw10 : Below w4.heap.size w4 w10 := after hw9 hb10 hz9; have hz10 : w4.heap.size ≤ w10.heap.size := hw10.size) | (go_at_call 20; refine Calls.mono (HC11.out w10 _ gb capb hw10 HAB.out (by go_grown)) ?_; rintro e w11 ⟨rfl, hb11⟩; have hw11 : Below w4.heap.size w4 w11 := after hw10 hb11 hz10; have hz11 : w4.heap.size ≤ w11.heap.size := hw11.size) | (go_at_call 27; refine Calls.mono (HC18.out _ (by go_grown)) ?_; rintro e w12 ⟨rfl, hb12⟩; have hw12 : Below w4.heap.size w4 w12 := after hw11 hb12 hz11; have hz12 : w4.heap.size ≤ w12.heap.size := hw12.size))
                all_goals
                  go_wp2_with fail
                  go_meet
                  case rel => exact ⟨rfl, by go_grown⟩
            case rest =>
              obtain ⟨rfl, hb5⟩ := hcut
              have hL5 := hL4.next hb5
              have hN5 := hN4.below hb5 (Nat.le_refl _)
              have hR5 := hR4.below hb5 (Nat.le_refl _)
              clear hL4 hN4 hR4 hC4 hA4 hb5
              have HL5 : Hid (KLive w (fun _ => False) wc q no ws K3) := hL5.less (fun _ q => q.elim)
              have HBw : Hid (Below w.heap.size w wc) := hL5.below
              clear hL5
              rcases HRec.out with hrec | ⟨_, hrec, hnew⟩
              · have hlen : K3.rs.length = K.rs.length := by rw [hrec]
                have HC18 : Hid (∀ W : World, Below wc.heap.size wc W → Calls Try.prog 27 #[.slice gn K.rs.length capn, .slice gr K.rs.length capr] W fun e w' => e = .returned (.bool true) ∧ Below W.heap.size W w') := fun W hW => (sameRecs_any gn gr _ _ capn capr K.rs K.rs W ((hrec ▸ hN5).below hW (Nat.le_refl _)) (hR5.below hW (Nat.le_refl _)) rfl rfl (by have := HLen.out; omega)).mono (fun e w' h => by
                  obtain ⟨⟨b, e1, e2⟩, e3⟩ := h
                  exact ⟨by rw [e1, e2.2 rfl], e3⟩)
                have hcn : K.rs.length ≤ capn := by omega
                have hnb : K.rs.length ≤ 150 := HLen.out.2
                have HG3' : Hid (GoodK (book0 no ws) K3 ∧ K3.rs.length ≤ k + 1) := ⟨HG3.out, HL3.out⟩
                clear HG3 HL3 HLen3 HRec HSm hrec hN5 hR5 hcap4 HLen HL HG
                rw [hlen]
                generalize K.rs.length = n at *
                clear hlen
                have n0 : (0 : Int) ≤ (n : Int) := by omega
                have n1 : (n : Int) ≤ (capn : Int) := by omega
                have n2 : (n : Int) ≤ 150 := by omega
                have g1 : decide ((n : Int) + 1 < (n : Int)) = false := decide_eq_false (by omega)
                have g2 : decide ((n : Int) < (n : Int)) = false := decide_eq_false (by omega)
                have hr1 : IntKind.i64.wrap ((n : Int) + 1) = (n : Int) + 1 := by go_unwrap
                go_upto_region 16 with fail
                refine region_class (C := (fun w' => Below wc.heap.size wc w')) (by kernel_rfl) (by kernel_rfl) ((Below.refl _ _).drew) ?_
                repeat (first
                  | go_big_quiet_skip
                  | (go_big_quiet_want
                     refine q_val (v := ?_) (fun w' hS => ?_) ?_
                     rotate_left
                     focus
                       go_simp
                       all_goals (with_reducible rfl)
                     go_big_quiet_on
                     (try simp only [Act.put, List.setIfInBounds_toArray, List.set_cons_zero, List.set_cons_succ]))
                  | (go_big_quiet_want
                     refine q_call (v := ?_) (f := ?_) (args := ?_) (fun w' hS => ?_) (fun w' hS => ?_) ?_
                     rotate_left 3
                     focus
                       go_simp
                       constructor <;> with_reducible rfl
                     focus
                       go_at_call 27
                       refine Calls.mono (HC18.out _ hS) ?_
                       rintro e w7 ⟨rfl, hb7⟩
                       refine ⟨?_, after hS hb7 hS.size⟩
                       with_reducible rfl
                     go_big_quiet_on
                     (try simp only [Act.put, List.setIfInBounds_toArray, List.set_cons_zero, List.set_cons_succ])))
                refine wpQuiet_nil ?_
                intro w8 hC8
                go_wp2_with fail
                go_loopg [14] n (fun g s14 wz => ∃ j : Nat, j ≤ n ∧ g = n - j ∧ s14 = .int .i64 j ∧ Below wc.heap.size wc wz)
                case atStart => exact ⟨0, Nat.zero_le _, rfl, rfl, hC8⟩
                case round =>
                  obtain ⟨j, hj, rfl, rfl, hb9⟩ := hrel
                  by_cases hjn : j < n
                  · have i1 : (j : Int) < (n : Int) := by omega
                    clear hj hjn
                    go_wp2_with fail
                    go_roundg (ll - (k + 1))
                    case measure => have := HKN.out; omega
                    case rel => exact ⟨k + 1, K3, HKN.out, rfl, by simp, HL5.out.next hb9, HG3'.out.1, HG3'.out.2⟩
                  · have hjj : j = n := by omega
                    subst hjj
                    clear hj hjn
                    go_wp2_with fail
                    go_roundg (ll - (k + 1))
                    case measure => have := HKN.out; omega
                    case rel => exact ⟨k + 1, K3, HKN.out, rfl, by simp, HL5.out.next hb9, HG3'.out.1, HG3'.out.2⟩
              · have hlen : K3.rs.length = K.rs.length + 1 := by rw [hrec]; simp
                have hNn : StepsAt wc gn (K.rs ++ [x]) := hrec ▸ hN5
                have HC18 : Hid (∀ W : World, Below wc.heap.size wc W → Calls Try.prog 27 #[.slice gn K.rs.length capn, .slice gr K.rs.length capr] W fun e w' => e = .returned (.bool true) ∧ Below W.heap.size W w') := fun W hW => (sameRecs_any gn gr _ _ capn capr K.rs K.rs W (hNn.fst.below hW (Nat.le_refl _)) (hR5.below hW (Nat.le_refl _)) rfl rfl (by have := HLen.out; omega)).mono (fun e w' h => by
                  obtain ⟨⟨b, e1, e2⟩, e3⟩ := h
                  exact ⟨by rw [e1, e2.2 rfl], e3⟩)
                have hcn : K.rs.length + 1 ≤ capn := by omega
                have hnb : K.rs.length ≤ 150 := HLen.out.2
                have HG3' : Hid (GoodK (book0 no ws) K3 ∧ K3.rs.length ≤ k + 1) := ⟨HG3.out, HL3.out⟩
                have HNew : Hid (∀ j y, K.rs[j]? = some y → eqS y x = false) := fun j y hy => by
                  rw [← Bool.not_eq_true, eqS_iff]
                  exact fun e => hnew (e ▸ List.mem_of_getElem? hy)
                have HRc : Hid (StepsAt wc gr K.rs) := hR5
                have HRl : Hid (∀ j, j < K.rs.length → ∃ y, K.rs[j]? = some y) := fun j hj => ⟨_, List.getElem?_eq_getElem hj⟩
                obtain ⟨bn, on, rfl, hbn, hcn5⟩ := hNn K.rs.length x (by simp)
                have HK : Hid (∀ w', Below wc.heap.size wc w' → w'.cell? ⟨bn, on + K.rs.length * 5, none⟩ = some (.int .i64 x.what) ∧ w'.cell? ⟨bn, on + K.rs.length * 5 + 1, none⟩ = some (.int .i64 x.deal) ∧ w'.cell? ⟨bn, on + K.rs.length * 5 + 2, none⟩ = some (.int .i64 x.c) ∧ w'.cell? ⟨bn, on + K.rs.length * 5 + 3, none⟩ = some (.int .i64 x.d) ∧ w'.cell? ⟨bn, on + K.rs.length * 5 + 4, none⟩ = some (.bool x.done) ∧ w'.cell? ⟨bl, ol + k * 5, none⟩ = some (.int .i64 x.what) ∧ w'.cell? ⟨bl, ol + k * 5 + 1, none⟩ = some (.int .i64 x.deal) ∧ w'.cell? ⟨bl, ol + k * 5 + 2, none⟩ = some (.int .i64 x.c) ∧ w'.cell? ⟨bl, ol + k * 5 + 3, none⟩ = some (.int .i64 x.d) ∧ w'.cell? ⟨bl, ol + k * 5 + 4, none⟩ = some (.bool x.done) ∧ Below wc.heap.size wc w') := fun w' hb => by
                  have hx := HCe.out w' (after HBw.out hb HBw.out.size)
                  have hy : ∀ j v, x.cells[j]? = some v → w'.cell? ⟨bn, on + K.rs.length * 5 + j, none⟩ = some v := fun j v hj => (hb.cell (p := ⟨bn, _, none⟩) hbn).trans (hcn5 j v hj)
                  exact ⟨hy 0 _ rfl, hy 1 _ rfl, hy 2 _ rfl, hy 3 _ rfl, hy 4 _ rfl, hx 0 _ rfl, hx 1 _ rfl, hx 2 _ rfl, hx 3 _ rfl, hx 4 _ rfl, hb⟩
                have hq1 : ∀ W : World, (Op.equalIn 10000 51 (.agg #[.int .i64 x.what, .int .i64 x.deal, .int .i64 x.c, .int .i64 x.d, .bool x.done]) (.agg #[.int .i64 x.what, .int .i64 x.deal, .int .i64 x.c, .int .i64 x.d, .bool x.done])).run Try.prog W = .ok true W := fun W => by rw [eqR, eqS_iff.2 rfl]
                clear HG3 HL3 HLen3 HRec HSm hrec hN5 hR5 hcap4 HLen HL HG hnew hNn hbn hcn5
                rw [hlen]
                generalize K.rs.length = n at *
                clear hlen
                have n0 : (0 : Int) ≤ (n : Int) := by omega
                have n1 : (n : Int) ≤ (capn : Int) := by omega
                have n2 : (n : Int) ≤ 150 := by omega
                have hr1 : IntKind.i64.wrap ((n : Int) + 1) = (n : Int) + 1 := by go_unwrap
                generalize hm : n + 1 = m at ⊢
                have HM : Hid (n + 1 = m) := hm
                clear hm
                go_upto_region 16 with fail
                have g1 : decide ((m : Int) < (n : Int)) = false := decide_eq_false (by have := HM.out; omega)
                have g2 : decide ((n : Int) + 1 < (m : Int)) = false := decide_eq_false (by have := HM.out; omega)
                have g3 : decide ((n : Int) < (m : Int)) = true := decide_eq_true (by have := HM.out; omega)
                have g4 : (n : Int) < (m : Int) := by have := HM.out; omega
                have g5 : decide (m < n) = false := decide_eq_false (by have := HM.out; omega)
                have g6 : decide (n + 1 < m) = false := decide_eq_false (by have := HM.out; omega)
                have g7 : decide (n < m) = true := decide_eq_true (by have := HM.out; omega)
                refine region_class (C := (fun w' => w'.cell? ⟨bn, on + n * 5, none⟩ = some (.int .i64 x.what) ∧ w'.cell? ⟨bn, on + n * 5 + 1, none⟩ = some (.int .i64 x.deal) ∧ w'.cell? ⟨bn, on + n * 5 + 2, none⟩ = some (.int .i64 x.c) ∧ w'.cell? ⟨bn, on + n * 5 + 3, none⟩ = some (.int .i64 x.d) ∧ w'.cell? ⟨bn, on + n * 5 + 4, none⟩ = some (.bool x.done) ∧ w'.cell? ⟨bl, ol + k * 5, none⟩ = some (.int .i64 x.what) ∧ w'.cell? ⟨bl, ol + k * 5 + 1, none⟩ = some (.int .i64 x.deal) ∧ w'.cell? ⟨bl, ol + k * 5 + 2, none⟩ = some (.int .i64 x.c) ∧ w'.cell? ⟨bl, ol + k * 5 + 3, none⟩ = some (.int .i64 x.d) ∧ w'.cell? ⟨bl, ol + k * 5 + 4, none⟩ = some (.bool x.done) ∧ Below wc.heap.size wc w')) (by kernel_rfl) (by kernel_rfl) (HK.out _ ((Below.refl _ _).drew)) ?_
                repeat (first
                  | go_big_quiet_skip
                  | (go_big_quiet_want
                     refine q_val (v := ?_) (fun w' hS => ?_) ?_
                     rotate_left
                     focus
                       go_simp
                       all_goals (with_reducible rfl)
                     go_big_quiet_on
                     (try simp only [Act.put, List.setIfInBounds_toArray, List.set_cons_zero, List.set_cons_succ]))
                  | (go_big_quiet_want
                     refine q_call (v := ?_) (f := ?_) (args := ?_) (fun w' hS => ?_) (fun w' hS => ?_) ?_
                     rotate_left 3
                     focus
                       go_simp
                       constructor <;> with_reducible rfl
                     focus
                       go_at_call 27
                       refine Calls.mono (HC18.out _ hS.2.2.2.2.2.2.2.2.2.2) ?_
                       rintro e w7 ⟨rfl, hb7⟩
                       refine ⟨?_, HK.out _ (after hS.2.2.2.2.2.2.2.2.2.2 hb7 hS.2.2.2.2.2.2.2.2.2.2.size)⟩
                       with_reducible rfl
                     go_big_quiet_on
                     (try simp only [Act.put, List.setIfInBounds_toArray, List.set_cons_zero, List.set_cons_succ])))
                refine wpQuiet_nil ?_
                intro w8 hC8
                have hb8 := hC8.2.2.2.2.2.2.2.2.2.2
                clear hC8
                go_wp2_with fail
                go_loopg [14] n (fun g s14 wz => ∃ j : Nat, j ≤ n ∧ g = n - j ∧ s14 = .int .i64 j ∧ Below wc.heap.size wc wz)
                case atStart => exact ⟨0, Nat.zero_le _, rfl, rfl, hb8⟩
                case round =>
                  obtain ⟨j, hj, rfl, rfl, hb9⟩ := hrel
                  by_cases hjn : j < n
                  · obtain ⟨y, hy⟩ := HRl.out j hjn
                    obtain ⟨b2, o2, rfl, hb2, s⟩ := HRc.out j y hy
                    have hq2 : ∀ W : World, (Op.equalIn 10000 51 (.agg #[.int .i64 y.what, .int .i64 y.deal, .int .i64 y.c, .int .i64 y.d, .bool y.done]) (.agg #[.int .i64 x.what, .int .i64 x.deal, .int .i64 x.c, .int .i64 x.d, .bool x.done])).run Try.prog W = .ok false W := fun W => by rw [eqR, HNew.out j y hy]
                    obtain ⟨_, _, _, _, _, p0, p1, p2, p3, p4, _⟩ := HK.out wr hb9
                    have q0 : wr.cell? ⟨b2, o2 + j * 5, none⟩ = some (.int .i64 y.what) := (hb9.cell (p := ⟨b2, _, none⟩) hb2).trans (s 0 _ rfl)
                    have q1 : wr.cell? ⟨b2, o2 + j * 5 + 1, none⟩ = some (.int .i64 y.deal) := (hb9.cell (p := ⟨b2, _, none⟩) hb2).trans (s 1 _ rfl)
                    have q2 : wr.cell? ⟨b2, o2 + j * 5 + 2, none⟩ = some (.int .i64 y.c) := (hb9.cell (p := ⟨b2, _, none⟩) hb2).trans (s 2 _ rfl)
                    have q3 : wr.cell? ⟨b2, o2 + j * 5 + 3, none⟩ = some (.int .i64 y.d) := (hb9.cell (p := ⟨b2, _, none⟩) hb2).trans (s 3 _ rfl)
                    have q4 : wr.cell? ⟨b2, o2 + j * 5 + 4, none⟩ = some (.bool y.done) := (hb9.cell (p := ⟨b2, _, none⟩) hb2).trans (s 4 _ rfl)
                    have i0 : (0 : Int) ≤ (j : Int) := by omega
                    have i1 : (j : Int) < (n : Int) := by omega
                    have HX : Hid (j < n) := hjn
                    clear hj hjn hy s hb2 HK
                    go_wp2_with fail
                    go_quiet (fail)
                    go_wp2_with fail
                    go_roundg (n - (j + 1))
                    case measure => have := HX.out; omega
                    case rel => exact ⟨j + 1, HX.out, rfl, by simp, bdrewN hb9 _⟩
                  · have hjj : j = n := by omega
                    subst hjj
                    clear hj hjn
                    go_wp2_with fail
                    go_roundg (ll - (k + 1))
                    case measure => have := HKN.out; omega
                    case rel => exact ⟨k + 1, K3, HKN.out, rfl, by simp, HL5.out.next hb9, HG3'.out.1, HG3'.out.2⟩
        · go_wp2_with fail
          go_ret
          exact ⟨rfl, hL1.below⟩
    · rw [if_neg hok] at hN
      subst hN
      go_wp2_with fail
      go_ret
      exact ⟨rfl, hb4⟩

end Go.Proofs.Ytbgnajcmhmpjlab
