/- The walk of KeepAgain: it answers true, whatever shop, world and records it is given. -/
import Derived.Test.YtbgnajcmhmpjlabKAsk
namespace Go.Proofs.Ytbgnajcmhmpjlab
open Go.RowKit

/-- All that was asked, and the keeper as it is now. -/
structure Old (w : World) (q : Nat) (no : Int) (ws : Nat → Int) (K : Kb) (cb ob db : Nat) (ga gr : Option Addr) (wx : World) : Prop where
  live : KLive w (fun b => b = cb ∨ b = ob ∨ b = db ∨ (∃ a, ga = some a ∧ b = a.block) ∨ ∃ a, gr = some a ∧ b = a.block) wx q no ws K
  box : BoxAt wx cb [.int .i64 (cnt6 K.A 0), .int .i64 (cnt6 K.A 1), .int .i64 (cnt6 K.A 2), .int .i64 (cnt6 K.A 3), .int .i64 (cnt6 K.A 4), .int .i64 (cnt6 K.A 5)]
  holds : HoldsAt wx ga K.A.hs
  recs : StepsAt wx gr K.rs
  ov : BAt wx ob (fun d => ovB K.A.es d)
  dn : BAt wx db (fun d => dnB K.A.es d)
theorem Old.next {w : World} {q : Nat} {no : Int} {ws : Nat → Int} {K : Kb} {cb ob db : Nat} {ga gr : Option Addr} {wx wy : World} (h : Old w q no ws K cb ob db ga gr wx) (hb : Below wx.heap.size wx wy) : Old w q no ws K cb ob db ga gr wy :=
  ⟨h.live.next hb, h.box.next hb, h.holds.below hb (Nat.le_refl _), h.recs.below hb (Nat.le_refl _), h.ov.next hb, h.dn.next hb⟩
theorem Old.step {w : World} {q : Nat} {no : Int} {ws : Nat → Int} {K : Kb} {cb ob db : Nat} {ga gr : Option Addr} {wx wy : World} (h : Old w q no ws K cb ob db ga gr wx) (hl : KLive w (fun b => b = cb ∨ b = ob ∨ b = db ∨ (∃ a, ga = some a ∧ b = a.block) ∨ ∃ a, gr = some a ∧ b = a.block) wy q no ws K) (hs : Save (fun k => ¬ (k = cb ∨ k = ob ∨ k = db ∨ (∃ a, ga = some a ∧ k = a.block) ∨ ∃ a, gr = some a ∧ k = a.block)) wx wy) : Old w q no ws K cb ob db ga gr wy :=
  ⟨hl, h.box.save hs (fun e => e (.inl rfl)), h.holds.save hs (fun a e q => q (.inr (.inr (.inr (.inl ⟨a, e, rfl⟩))))), h.recs.save hs (fun a e q => q (.inr (.inr (.inr (.inr ⟨a, e, rfl⟩))))), h.ov.save hs (fun e => e (.inr (.inl rfl))), h.dn.save hs (fun e => e (.inr (.inr (.inl rfl))))⟩

set_option maxHeartbeats 8000000 in
set_option maxRecDepth 100000 in
theorem again_walk (no : Int) (ws : Nat → Int) (la : Option Addr) (ll lc : Nat) (l : List Stp) (w : World) (hl : StepsAt w la l) (hll : l.length = ll) :
    Calls Try.prog 4 #[.int .i64 no, .agg #[.int .i64 (ws 0), .int .i64 (ws 1), .int .i64 (ws 2), .int .i64 (ws 3), .int .i64 (ws 4), .int .i64 (ws 5)], .slice la ll lc] w fun e w' => e = .returned (.bool true) ∧ Below w.heap.size w w' := by
  by_cases hbig : 150 < ll
  · have hbig' : (150 : Int) < (ll : Int) := by omega
    clear hl hll hbig
    go_enter Try.func4, Try.ntmps4
    go_wp2_with fail
    refine (kbegun_any _).mono ?_
    rintro e w1 ⟨rfl, hb1⟩
    go_wp2_with fail
    go_ret
    exact ⟨rfl, after (by go_grown) hb1 (by simp)⟩
  · have hbig' : ¬ (150 : Int) < (ll : Int) := by omega
    have HB : Hid (ll ≤ 150) := by show _ ≤ _; omega
    clear hbig
    go_enter Try.func4, Try.ntmps4
    go_wp2_with fail
    refine (kbegun_any _).mono ?_
    rintro e w1 ⟨rfl, hb1⟩
    have hX := (box_new6 w ws 23).next hb1
    have hb2 : Below w.heap.size w w1 := after (by go_grown) hb1 (by simp)
    have x0 := hX.2 0 _ rfl
    have x1 := hX.2 1 _ rfl
    have x2 := hX.2 2 _ rfl
    have x3 := hX.2 3 _ rfl
    have x4 := hX.2 4 _ rfl
    have x5 := hX.2 5 _ rfl
    clear hb1
    go_wp2_with fail
    refine (knew_any no ws _).mono ?_
    rintro e w2 ⟨hN, hb3⟩
    have hb4 : Below w.heap.size w w2 := after hb2 hb3 hb2.size
    have hX2 := hX.next hb3
    have hlx := hX.1
    clear x0 x1 x2 x3 x4 x5 hX
    unfold NewKIs at hN
    by_cases hok : newOk no ws = true
    · rw [if_pos hok] at hN
      obtain ⟨q, O, rfl, hI, hO⟩ := hN
      have hL : KLive w (fun b => b = w.heap.size) w2 q no ws ⟨book0 no ws, []⟩ := ⟨⟨O, hI, fun k hk => ⟨Nat.le_trans hb2.size (hO k hk), fun e => by have := hO k hk; omega⟩⟩, hb4, fun k e => by rw [e]; exact hX2.1⟩
      have HG0 : Hid (GoodK (book0 no ws) ⟨book0 no ws, []⟩) := goodK_new (good_new hok) rfl rfl
      have HT : Hid (StepsAt w la l) := hl
      have HOk : Hid (newOk no ws = true) := hok
      clear hI hO hb2 hb3 hok hb4 hl hlx
      go_upto_block 0 with fail
      go_cut [8] (fun _ wx => ∃ K, KLive w (fun b => b = w.heap.size) wx q no ws K ∧ BoxAt wx w.heap.size [.int .i64 (ws 0), .int .i64 (ws 1), .int .i64 (ws 2), .int .i64 (ws 3), .int .i64 (ws 4), .int .i64 (ws 5)] ∧ Hid (GoodK (book0 no ws) K) ∧ Hid (K.rs.length ≤ 150))
      case first =>
        go_wp2_with fail
        go_loopg [8] ll (fun g s8 wr => ∃ (k : Nat) (K : Kb), k ≤ ll ∧ g = ll - k ∧ s8 = .int .i64 k ∧ KLive w (fun b => b = w.heap.size) wr q no ws K ∧ BoxAt wr w.heap.size [.int .i64 (ws 0), .int .i64 (ws 1), .int .i64 (ws 2), .int .i64 (ws 3), .int .i64 (ws 4), .int .i64 (ws 5)] ∧ Hid (GoodK (book0 no ws) K) ∧ Hid (K.rs.length ≤ k))
        case atStart => exact ⟨0, _, Nat.zero_le _, rfl, rfl, hL, hX2, HG0, Nat.le_refl _⟩
        case round =>
          obtain ⟨k, K, hk, rfl, rfl, hL1, hX1, HG, HL⟩ := hrel
          clear hL HG0 hX2
          by_cases hlt : k < ll
          · obtain ⟨x, hkx⟩ : ∃ x, l[k]? = some x := ⟨_, List.getElem?_eq_getElem (by omega)⟩
            obtain ⟨bl, ol, rfl, hbl, hcell⟩ := HT.out k x hkx
            have hcell' : ∀ j v, x.cells[j]? = some v → wr.cell? ⟨bl, ol + k * 5 + j, none⟩ = some v := fun j v hj => (hL1.below.cell (p := ⟨bl, _, none⟩) hbl).trans (hcell j v hj)
            have p0 : wr.cell? ⟨bl, ol + k * 5, none⟩ = some (.int .i64 x.what) := hcell' 0 _ rfl
            have p1 : wr.cell? ⟨bl, ol + k * 5 + 1, none⟩ = some (.int .i64 x.deal) := hcell' 1 _ rfl
            have p2 : wr.cell? ⟨bl, ol + k * 5 + 2, none⟩ = some (.int .i64 x.c) := hcell' 2 _ rfl
            have p3 : wr.cell? ⟨bl, ol + k * 5 + 3, none⟩ = some (.int .i64 x.d) := hcell' 3 _ rfl
            have p4 : wr.cell? ⟨bl, ol + k * 5 + 4, none⟩ = some (.bool x.done) := hcell' 4 _ rfl
            have j0 : (0 : Int) ≤ (k : Int) := by omega
            have j1 : (k : Int) < (ll : Int) := by omega
            have HKN : Hid (k < ll) := hlt
            have HLen : Hid (K.A.hs.length < 2 ^ 40 ∧ K.rs.length < 2 ^ 40) := by
              have := HG.out.hl
              have := HL.out
              have := HB.out
              exact ⟨by omega, by omega⟩
            clear hcell hcell' hkx hk hlt hbl
            go_wp2_with fail
            refine Calls.mono (do_live x hL1 HG.out.good HLen.out.1 HLen.out.2) ?_
            rintro e w3 ⟨rfl, hL3, hS3⟩
            have hX3 := hX1.save hS3 (fun q => q rfl)
            have HG3 : Hid (GoodK (book0 no ws) (doR K x).2) := goodK_do HG.out x
            have HL3 : Hid ((doR K x).2.rs.length ≤ k + 1) := by have := do_len K x; have := HL.out; show _ ≤ _; omega
            generalize doR K x = r at *
            go_wp2_with fail
            go_roundg (ll - (k + 1))
            case measure => have := HKN.out; omega
            case rel => exact ⟨k + 1, r.2, HKN.out, rfl, by simp, hL3, hX3, HG3, HL3⟩
          · have hkk : k = ll := by omega
            subst hkk
            clear hk hlt
            go_wp2_with fail
            go_meet
            case rel => exact ⟨K, hL1, hX1, HG, by have := HL.out; have := HB.out; show _ ≤ _; omega⟩
      case rest =>
        obtain ⟨K, hL1, hX1, HG, HL⟩ := hcut
        clear hL HG0 hX2 HT
        have HLen : Hid (K.A.hs.length ≤ 150) := by have := HG.out.hl; have := HL.out; show _ ≤ _; omega
        go_upto_region 12 with fail
        generalize wc = wz at hL1 hX1 ⊢
        go_cut [9, 10, 11] (fun s9 s10 s11 wx => Asked w wz (fun b => b = w.heap.size) q no ws K s9 s10 s11 wx)
        case first =>
          obtain ⟨p, c0, hql, hLs⟩ := hL1.shop
          have HK : Hid (∀ w', Below wz.heap.size wz w' → w'.cell? ⟨q, 0, none⟩ = some (.pointer (some ⟨p, 0, none⟩)) ∧ Below wz.heap.size wz w') := fun w' hb => ⟨((bcell hb).1 _ _ hql).trans c0, hb⟩
          have HC9 : Hid (∀ W : World, Below wz.heap.size wz W → Calls Try.prog 18 #[.pointer (some ⟨p, 0, none⟩)] W fun e w' => e = .returned (.agg #[.int .i64 (cnt6 K.A 0), .int .i64 (cnt6 K.A 1), .int .i64 (cnt6 K.A 2), .int .i64 (cnt6 K.A 3), .int .i64 (cnt6 K.A 4), .int .i64 (cnt6 K.A 5)]) ∧ Below W.heap.size W w') := fun W hW => (counts_live (hLs.next hW)).mono (fun e w' h => ⟨h.1, h.2.2⟩)
          have HC12 : Hid (∀ W : World, Below wz.heap.size wz W → Calls Try.prog 21 #[.pointer (some ⟨p, 0, none⟩)] W fun e w' => (∃ ga cap, e = .returned (.slice ga K.A.hs.length cap) ∧ HoldsAt w' ga K.A.hs ∧ (∀ a, ga = some a → W.heap.size ≤ a.block ∧ a.block < w'.heap.size)) ∧ Below W.heap.size W w') := fun W hW => (holds_live (hLs.next hW) (by have := HLen.out; have := HL.out; omega)).mono (fun e w' h => ⟨h.1, h.2.2⟩)
          have HC19 : Hid (∀ W : World, Below wz.heap.size wz W → Calls Try.prog 28 #[.pointer (some ⟨q, 0, none⟩)] W fun e w' => (∃ ga cap, e = .returned (.slice ga K.rs.length cap) ∧ StepsAt w' ga K.rs ∧ (∀ a, ga = some a → W.heap.size ≤ a.block ∧ a.block < w'.heap.size)) ∧ Below W.heap.size W w') := fun W hW => (recs_live (hL1.next hW) (by have := HLen.out; have := HL.out; omega)).mono (fun e w' h => by
            obtain ⟨⟨ga, cap, e1, e2, e3, _⟩, _, e4⟩ := h
            exact ⟨⟨ga, cap, e1, e2, e3⟩, e4⟩)
          have HL1 : Hid (KLive w (fun b => b = w.heap.size) wz q no ws K) := hL1
          clear hLs hL1
          go_region_held3 (fun w' => w'.cell? ⟨q, 0, none⟩ = some (.pointer (some ⟨p, 0, none⟩)) ∧ Below wz.heap.size wz w')
            (first | exact HK.out _ (by go_grown))
            (first | (go_at_call 18; refine Calls.mono (HC9.out _ (by go_grown)) ?_; rintro e w9 ⟨rfl, hb9⟩; have hw9 : Below wz.heap.size wz w9 := after (by go_grown) hb9 (by simp); have hz9 : wz.heap.size ≤ w9.heap.size := hw9.size; have hy9 := hb9.size; (try simp [Nat.add_one_le_iff] at hy9); obtain ⟨hc9, hf9⟩ := bcell hb9) | (go_at_call 21; refine Calls.mono (HC12.out _ (by go_grown)) ?_; rintro e w10 ⟨⟨ga, capa, rfl, hA10, hf10⟩, hb10⟩; have HA10 : Hid (HoldsAt w10 ga K.A.hs) := hA10; have HF10 : Hid _ := hf10; clear hA10 hf10; have hv10 : Below w9.heap.size w9 w10 := after (by go_grown) hb10 (by simp); have hw10 : Below wz.heap.size wz w10 := after (by go_grown) hb10 (by first | assumption | (simp; omega)); have hz10 : wz.heap.size ≤ w10.heap.size := hw10.size; have hy10 := hb10.size; (try simp [Nat.add_one_le_iff] at hy10); obtain ⟨hc10, hf10⟩ := bcell hb10; (try (have hq10 : wz.heap.size < w10.heap.size := by omega))) | (go_at_call 28; refine Calls.mono (HC19.out _ (by go_grown)) ?_; rintro e w11 ⟨⟨gr, capr, rfl, hA11, hf11⟩, hb11⟩; have HA11 : Hid (StepsAt w11 gr K.rs) := hA11; have HF11 : Hid _ := hf11; clear hA11 hf11; have hv11 : Below w10.heap.size w10 w11 := after (by go_grown) hb11 (by simp); have hw11 : Below wz.heap.size wz w11 := after (by go_grown) hb11 (by first | assumption | (simp; omega)); have hz11 : wz.heap.size ≤ w11.heap.size := hw11.size; have hy11 := hb11.size; (try simp [Nat.add_one_le_iff] at hy11); obtain ⟨hc11, hf11⟩ := bcell hb11; (try (have hq11 : wz.heap.size < w11.heap.size := by omega)); (try (have hq12 : w9.heap.size < w11.heap.size := by omega))))
          all_goals
            go_wp2_with fail
            go_meet
            case rel =>
              clear HC9 HC12 HC19 HK
              refine asked_of HL1.out hw11 (HA10.out.below hv11 (Nat.le_refl _)) HA11.out ?_ ?_ ?_ ?_ ?_
              · first
                  | with_reducible exact box_new6' _ _ _ _ _ _ _ _
                  | (with_reducible refine box_set6 ?_ ?_ _ _ _ _ _ _
                     · have h1 := hb11.size
                       have h2 := hb10.size
                       (try simp at h1)
                       (try simp at h2)
                       omega
                     · intro j hj
                       rcases six_cases hj with rfl | rfl | rfl | rfl | rfl | rfl
                       all_goals
                         first
                           | (refine ⟨.int .i64 0, ?_⟩; simp [go_sem, hc11]; done)
                           | (refine ⟨.int .i64 0, ?_⟩; simp [go_sem, hc11, hc10, hy10]; done)
                           | (refine ⟨.int .i64 0, ?_⟩; simp [go_sem, hc11, hc10, hc9, hq10, hy9]; done))
              · first
                  | with_reducible exact save_6 _ _ _ _ _ _ _ _
                  | with_reducible exact save_new _ _
              · first
                  | exact Nat.le_refl _
                  | omega
              · intro a e
                have h1 := HF10.out a e
                (try simp at h1)
                omega
              · intro a e
                have h1 := HF11.out a e
                (try simp at h1)
                omega
        case rest =>
          obtain ⟨cb, ga, capa, gr, capr, rfl, rfl, rfl, hC, hA, hR, hL2, hb2⟩ := hcut
          have hX2 := hX1.next hb2
          clear hL1 hX1 hb2
          go_upto_region 14 with fail
          have hO1 := (BAt.new wc 59).next ((Below.refl _ _).alloc (Nat.le_refl _) (.cells #[.bool false, .bool false, .bool false, .bool false, .bool false, .bool false, .bool false, .bool false] 59))
          have hD1 := BAt.new (wc.alloc (.cells #[.bool false, .bool false, .bool false, .bool false, .bool false, .bool false, .bool false, .bool false] 59)) 59
          have hbn : Below wc.heap.size wc ((wc.alloc (.cells #[.bool false, .bool false, .bool false, .bool false, .bool false, .bool false, .bool false, .bool false] 59)).alloc (.cells #[.bool false, .bool false, .bool false, .bool false, .bool false, .bool false, .bool false, .bool false] 59)) := by go_grown
          have hz1 : (wc.alloc (.cells #[.bool false, .bool false, .bool false, .bool false, .bool false, .bool false, .bool false, .bool false] 59)).heap.size = wc.heap.size + 1 := by simp
          rw [hz1] at hD1
          have hX3 := hX2.next hbn
          have hC3 := hC.next hbn
          have hA3 := hA.below hbn (Nat.le_refl _)
          have hR3 := hR.below hbn (Nat.le_refl _)
          have hcl := hC.1
          have hxl := hX2.1
          have hwl : w.heap.size ≤ wc.heap.size := hL2.below.size
          generalize ((wc.alloc (.cells #[.bool false, .bool false, .bool false, .bool false, .bool false, .bool false, .bool false, .bool false] 59)).alloc (.cells #[.bool false, .bool false, .bool false, .bool false, .bool false, .bool false, .bool false, .bool false] 59)) = W3 at hO1 hD1 hbn hX3 hC3 hA3 hR3 ⊢
          have hL3 : KLive w (fun b => b = w.heap.size ∨ b = cb ∨ b = wc.heap.size ∨ b = wc.heap.size + 1 ∨ (∃ a, ga = some a ∧ b = a.block) ∨ ∃ a, gr = some a ∧ b = a.block) W3 q no ws K := hL2.more hbn (fun b hb => by
            rcases hb with hb | hb | rfl | rfl | hb | hb
            · exact .inl (.inl hb)
            · exact .inl (.inr (.inl hb))
            · exact .inr ⟨Nat.le_refl _, hO1.lt⟩
            · exact .inr ⟨Nat.le_succ _, hD1.lt⟩
            · exact .inl (.inr (.inr (.inl hb)))
            · exact .inl (.inr (.inr (.inr hb))))
          have HFar : Hid ((∀ a, ga = some a → a.block < wc.heap.size) ∧ ∀ a, gr = some a → a.block < wc.heap.size) := ⟨fun a e => hL2.kept _ (.inr (.inr (.inl ⟨a, e, rfl⟩))), fun a e => hL2.kept _ (.inr (.inr (.inr ⟨a, e, rfl⟩)))⟩
          have hod : wc.heap.size ≠ wc.heap.size + 1 := by omega
          have hco : cb ≠ wc.heap.size := by omega
          have hcd : cb ≠ wc.heap.size + 1 := by omega
          have hxo : w.heap.size ≠ wc.heap.size := by omega
          have hxd : w.heap.size ≠ wc.heap.size + 1 := by omega
          have hwo : w.heap.size ≤ wc.heap.size + 1 := by omega
          have HFar2 : Hid ((∀ a, ga = some a → a.block ≠ wc.heap.size ∧ a.block ≠ wc.heap.size + 1) ∧ ∀ a, gr = some a → a.block ≠ wc.heap.size ∧ a.block ≠ wc.heap.size + 1) := ⟨fun a e => by have := HFar.out.1 a e; omega, fun a e => by have := HFar.out.2 a e; omega⟩
          clear hL2 hX2 hC hA hR hbn hz1 hcl hxl HFar
          generalize wc.heap.size + 1 = db at *
          generalize wc.heap.size = ob at *
          go_upto_block 2 with fail
          go_cut [14] (fun _ wx => Old w q no ws K cb ob db ga gr wx ∧ BoxAt wx w.heap.size [.int .i64 (ws 0), .int .i64 (ws 1), .int .i64 (ws 2), .int .i64 (ws 3), .int .i64 (ws 4), .int .i64 (ws 5)])
          case first =>
            go_wp2_with fail
            go_loopg [14] 8 (fun g s14 wr => ∃ k : Nat, k ≤ 8 ∧ g = 8 - k ∧ s14 = .int .i64 k ∧ KLive w (fun b => b = w.heap.size ∨ b = cb ∨ b = ob ∨ b = db ∨ (∃ a, ga = some a ∧ b = a.block) ∨ ∃ a, gr = some a ∧ b = a.block) wr q no ws K ∧ BoxAt wr w.heap.size [.int .i64 (ws 0), .int .i64 (ws 1), .int .i64 (ws 2), .int .i64 (ws 3), .int .i64 (ws 4), .int .i64 (ws 5)] ∧ BoxAt wr cb [.int .i64 (cnt6 K.A 0), .int .i64 (cnt6 K.A 1), .int .i64 (cnt6 K.A 2), .int .i64 (cnt6 K.A 3), .int .i64 (cnt6 K.A 4), .int .i64 (cnt6 K.A 5)] ∧ HoldsAt wr ga K.A.hs ∧ StepsAt wr gr K.rs ∧ BAt wr ob (upto k (fun d => ovB K.A.es d)) ∧ BAt wr db (upto k (fun d => dnB K.A.es d)))
            case atStart => exact ⟨0, Nat.zero_le _, rfl, rfl, hL3, hX3, hC3, hA3, hR3, hO1.congr (fun j _ => by simp [upto]), hD1.congr (fun j _ => by simp [upto])⟩
            case round =>
              obtain ⟨k, hk, rfl, rfl, hL4, hX4, hC4, hA4, hR4, hO4, hD4⟩ := hrel
              clear hL3 hX3 hC3 hA3 hR3 hO1 hD1
              by_cases hk8 : k < 8
              · have i0 : (0 : Int) ≤ (k : Int) := by omega
                have i1 : (k : Int) < 8 := by omega
                obtain ⟨p, c0, hql, hLs⟩ := hL4.shop
                have HK8 : Hid (k < 8) := hk8
                clear hk hk8
                go_wp2_with fail
                refine (over_live hLs HG.out.good (k : Int)).mono ?_
                rintro e w5 ⟨rfl, _, hb5⟩
                have hL5 := hL4.next hb5
                have hX5 := hX4.next hb5
                have hC5 := hC4.next hb5
                have hA5 := hA4.below hb5 (Nat.le_refl _)
                have hR5 := hR4.below hb5 (Nat.le_refl _)
                have hO5 := hO4.next hb5
                have hD5 := hD4.next hb5
                clear hL4 hX4 hC4 hA4 hR4 hO4 hD4 hLs c0 hql hb5
                have o1 := hO5.cell k HK8.out
                have d1 := hD5.cell k HK8.out
                have fo := hO5.loose
                have fd := hD5.loose
                have lo := hO5.lt
                have ld := hD5.lt
                have HNx : Hid (∀ u v : Bool, u = ovB K.A.es k → v = dnB K.A.es k → KLive w (fun b => b = w.heap.size ∨ b = cb ∨ b = ob ∨ b = db ∨ (∃ a, ga = some a ∧ b = a.block) ∨ ∃ a, gr = some a ∧ b = a.block) ((w5.setCell ⟨ob, k, none⟩ (.bool u)).setCell ⟨db, k, none⟩ (.bool v)) q no ws K ∧ BoxAt ((w5.setCell ⟨ob, k, none⟩ (.bool u)).setCell ⟨db, k, none⟩ (.bool v)) w.heap.size [.int .i64 (ws 0), .int .i64 (ws 1), .int .i64 (ws 2), .int .i64 (ws 3), .int .i64 (ws 4), .int .i64 (ws 5)] ∧ BoxAt ((w5.setCell ⟨ob, k, none⟩ (.bool u)).setCell ⟨db, k, none⟩ (.bool v)) cb [.int .i64 (cnt6 K.A 0), .int .i64 (cnt6 K.A 1), .int .i64 (cnt6 K.A 2), .int .i64 (cnt6 K.A 3), .int .i64 (cnt6 K.A 4), .int .i64 (cnt6 K.A 5)] ∧ HoldsAt ((w5.setCell ⟨ob, k, none⟩ (.bool u)).setCell ⟨db, k, none⟩ (.bool v)) ga K.A.hs ∧ StepsAt ((w5.setCell ⟨ob, k, none⟩ (.bool u)).setCell ⟨db, k, none⟩ (.bool v)) gr K.rs ∧ BAt ((w5.setCell ⟨ob, k, none⟩ (.bool u)).setCell ⟨db, k, none⟩ (.bool v)) ob (upto (k + 1) (fun d => ovB K.A.es d)) ∧ BAt ((w5.setCell ⟨ob, k, none⟩ (.bool u)).setCell ⟨db, k, none⟩ (.bool v)) db (upto (k + 1) (fun d => dnB K.A.es d))) := by
                  intro u v hu hv
                  have hS : Save (fun b => b = ob ∨ b = db) w5 ((w5.setCell ⟨ob, k, none⟩ (.bool u)).setCell ⟨db, k, none⟩ (.bool v)) := Save.setCell (O := fun b => b = ob ∨ b = db) (Save.setCell (O := fun b => b = ob ∨ b = db) (Save.refl _ _) (p := ⟨ob, k, none⟩) (fun _ => .inl rfl) _) (p := ⟨db, k, none⟩) (fun _ => .inr rfl) _
                  refine ⟨hL5.keep hS (fun b e => ?_), hX5.save hS (fun e => e.elim hxo hxd), hC5.save hS (fun e => e.elim hco hcd), hA5.save hS (fun a e h => h.elim (HFar2.out.1 a e).1 (HFar2.out.1 a e).2), hR5.save hS (fun a e h => h.elim (HFar2.out.2 a e).1 (HFar2.out.2 a e).2), ?_, ?_⟩
                  · rcases e with rfl | rfl
                    · exact ⟨.inr (.inr (.inl rfl)), by omega⟩
                    · exact ⟨.inr (.inr (.inr (.inl rfl))), by omega⟩
                  · rw [hu]
                    exact ((hO5.set k _).off hod _).congr (upto_next k (fun d => ovB K.A.es d))
                  · rw [hv]
                    exact ((hD5.off hod.symm _).set k _).congr (upto_next k (fun d => dnB K.A.es d))
                clear hL5 hX5 hC5 hA5 hR5 hO5 hD5
                go_wp2_with fail
                go_roundg (8 - (k + 1))
                case measure => have := HK8.out; omega
                case rel => exact ⟨k + 1, HK8.out, rfl, by simp, HNx.out _ _ rfl rfl⟩
              · have hkk : k = 8 := by omega
                subst hkk
                clear hk hk8
                go_wp2_with fail
                go_meet
                case rel => exact ⟨⟨hL4.less (fun b hb => .inr hb), hC4, hA4, hR4, hO4.congr (upto_all _), hD4.congr (upto_all _)⟩, hX4⟩
          case rest =>
            obtain ⟨hOld, hX5⟩ := hcut
            have x0 := hX5.2 0 _ rfl
            have x1 := hX5.2 1 _ rfl
            have x2 := hX5.2 2 _ rfl
            have x3 := hX5.2 3 _ rfl
            have x4 := hX5.2 4 _ rfl
            have x5 := hX5.2 5 _ rfl
            clear hL3 hX3 hC3 hA3 hR3 hO1 hD1
            go_wp2_with fail
            refine Calls.mono ((krep_any no ws gr K.rs.length capr K.rs wc hOld.recs rfl (by have := HL.out; omega)).mono (fun e w' h => And.intro (rep_again HOk.out HG.out h.1) h.2)) ?_
            rintro e w7 ⟨⟨p2, O2, rfl, hI7, hO7⟩, hb7⟩
            have hOld7 := hOld.next hb7
            clear hOld hX5 hb7 hO7 x0 x1 x2 x3 x4 x5
            go_upto_region 19 with fail
            have hB := Box2.new w7 28 0 0
            have hb8 : Below w7.heap.size w7 (w7.alloc (.cells #[.int .i64 0, .int .i64 0] 28)) := (Below.refl _ _).alloc (Nat.le_refl _) _
            have hOld8 := hOld7.next hb8
            have hI8 := hI7.next hb8
            generalize (w7.alloc (.cells #[.int .i64 0, .int .i64 0] 28)) = W9 at hB hOld8 hI8 ⊢
            generalize w7.heap.size = fb at hB ⊢
            clear hOld7 hI7 hb8
            go_cut [98] (fun s98 wx => s98 = .bool false ∧ Below W9.heap.size W9 wx)
            case first =>
              have z0 := hOld8.box.2 0 _ rfl
              have z1 := hOld8.box.2 1 _ rfl
              have z2 := hOld8.box.2 2 _ rfl
              have z3 := hOld8.box.2 3 _ rfl
              have z4 := hOld8.box.2 4 _ rfl
              have z5 := hOld8.box.2 5 _ rfl
              have hcl := hOld8.box.1
              have hfl := hB.lt
              have f0 := hB.c0
              have HK : Hid (∀ w', Below W9.heap.size W9 w' → w'.cell? ⟨fb, 0, none⟩ = some (.int .i64 0) ∧ w'.cell? ⟨cb, 0, none⟩ = some (.int .i64 (cnt6 K.A 0)) ∧ w'.cell? ⟨cb, 1, none⟩ = some (.int .i64 (cnt6 K.A 1)) ∧ w'.cell? ⟨cb, 2, none⟩ = some (.int .i64 (cnt6 K.A 2)) ∧ w'.cell? ⟨cb, 3, none⟩ = some (.int .i64 (cnt6 K.A 3)) ∧ w'.cell? ⟨cb, 4, none⟩ = some (.int .i64 (cnt6 K.A 4)) ∧ w'.cell? ⟨cb, 5, none⟩ = some (.int .i64 (cnt6 K.A 5)) ∧ Below W9.heap.size W9 w') := fun w' hb => ⟨((bcell hb).1 _ _ hfl).trans f0, ((bcell hb).1 _ _ hcl).trans z0, ((bcell hb).1 _ _ hcl).trans z1, ((bcell hb).1 _ _ hcl).trans z2, ((bcell hb).1 _ _ hcl).trans z3, ((bcell hb).1 _ _ hcl).trans z4, ((bcell hb).1 _ _ hcl).trans z5, hb⟩
              have HC9 : Hid (∀ W : World, Below W9.heap.size W9 W → Calls Try.prog 18 #[.pointer (some ⟨p2, 0, none⟩)] W fun e w' => e = .returned (.agg #[.int .i64 (cnt6 K.A 0), .int .i64 (cnt6 K.A 1), .int .i64 (cnt6 K.A 2), .int .i64 (cnt6 K.A 3), .int .i64 (cnt6 K.A 4), .int .i64 (cnt6 K.A 5)]) ∧ Below W.heap.size W w') := fun W hW => scounts_any O2 K.A p2 W (hI8.next hW)
              have HC12 : Hid (∀ W : World, Below W9.heap.size W9 W → Calls Try.prog 21 #[.pointer (some ⟨p2, 0, none⟩)] W fun e w' => (∃ gb cap, e = .returned (.slice gb K.A.hs.length cap) ∧ HoldsAt w' gb K.A.hs) ∧ Below W.heap.size W w') := fun W hW => (sholds_any O2 K.A p2 W (hI8.next hW) (by have := HLen.out; omega)).mono (fun e w' h => by
                obtain ⟨⟨gb, capb, e1, e2, _⟩, e3⟩ := h
                exact ⟨⟨gb, capb, e1, e2⟩, e3⟩)
              have HC11 : Hid (∀ (W W' : World) (gb : Option Addr) (capb : Nat), Below W9.heap.size W9 W → HoldsAt W gb K.A.hs → Below W.heap.size W W' → Calls Try.prog 20 #[.slice gb K.A.hs.length capb, .slice ga K.A.hs.length capa] W' fun e w' => e = .returned (.bool true) ∧ Below W'.heap.size W' w') := fun W W' gb capb hW hB hW' => (sameHolds_any gb ga _ _ capb capa K.A.hs K.A.hs W' (hB.below hW' (Nat.le_refl _)) ((hOld8.holds.below hW (Nat.le_refl _)).below hW' (Nat.le_refl _)) rfl rfl (by have := HLen.out; omega)).mono (fun e w' h => ⟨by rw [h.1]; exact ret_bool (decide_eq_true rfl), h.2⟩)
              have hq1 : ∀ W : World, (Op.equalIn 10000 36 (.agg #[.int .i64 (cnt6 K.A 0), .int .i64 (cnt6 K.A 1), .int .i64 (cnt6 K.A 2), .int .i64 (cnt6 K.A 3), .int .i64 (cnt6 K.A 4), .int .i64 (cnt6 K.A 5)]) (.agg #[.int .i64 (cnt6 K.A 0), .int .i64 (cnt6 K.A 1), .int .i64 (cnt6 K.A 2), .int .i64 (cnt6 K.A 3), .int .i64 (cnt6 K.A 4), .int .i64 (cnt6 K.A 5)])).run Try.prog W = .ok true W := fun W => by rw [eqC]; simp
              clear hI8 hOld8 hB z0 z1 z2 z3 z4 z5 f0
              go_region_held3 (fun w' => w'.cell? ⟨fb, 0, none⟩ = some (.int .i64 0) ∧ w'.cell? ⟨cb, 0, none⟩ = some (.int .i64 (cnt6 K.A 0)) ∧ w'.cell? ⟨cb, 1, none⟩ = some (.int .i64 (cnt6 K.A 1)) ∧ w'.cell? ⟨cb, 2, none⟩ = some (.int .i64 (cnt6 K.A 2)) ∧ w'.cell? ⟨cb, 3, none⟩ = some (.int .i64 (cnt6 K.A 3)) ∧ w'.cell? ⟨cb, 4, none⟩ = some (.int .i64 (cnt6 K.A 4)) ∧ w'.cell? ⟨cb, 5, none⟩ = some (.int .i64 (cnt6 K.A 5)) ∧ Below W9.heap.size W9 w')
                (first | exact HK.out _ (by go_grown))
                (first | (go_at_call 18; refine Calls.mono (HC9.out _ (by go_grown)) ?_; rintro e w9 ⟨rfl, hb9⟩; have hw9 : Below W9.heap.size W9 w9 := after (by go_grown) hb9 (by simp); have hz9 : W9.heap.size ≤ w9.heap.size := hw9.size) | (go_at_call 21; refine Calls.mono (HC12.out _ (by go_grown)) ?_; rintro e w10 ⟨⟨gb, capb, rfl, hAB⟩, hb10⟩; have HAB : Hid (HoldsAt w10 gb K.A.hs) := hAB; clear hAB; have hw10 : Below W9.heap.size W9 w10 := after hw9 hb10 hz9; have hz10 : W9.heap.size ≤ w10.heap.size := hw10.size) | (go_at_call 20; refine Calls.mono (HC11.out w10 _ gb capb hw10 HAB.out (by go_grown)) ?_; rintro e w11 ⟨rfl, hb11⟩; have hw11 : Below W9.heap.size W9 w11 := after hw10 hb11 hz10; have hz11 : W9.heap.size ≤ w11.heap.size := hw11.size))
              all_goals
                go_wp2_with fail
                go_meet
                case rel => exact ⟨rfl, by go_grown⟩
            case rest =>
              obtain ⟨rfl, hb9⟩ := hcut
              have hOld9 := hOld8.next hb9
              clear hOld8 hI8 hB hb9
              go_wp2_with fail
              go_loopg [17] 2 (fun g s17 wr => ∃ m : Nat, m ≤ 2 ∧ g = 2 - m ∧ s17 = .int .i64 m ∧ Old w q no ws K cb ob db ga gr wr)
              case atStart => exact ⟨0, Nat.zero_le _, rfl, rfl, hOld9⟩
              case round =>
                obtain ⟨m, hm, rfl, rfl, hOl⟩ := hrel
                clear hOld9
                by_cases hm2 : m < 2
                · have m0 : (0 : Int) ≤ (m : Int) := by omega
                  have m1 : (m : Int) < 2 := by omega
                  have HM2 : Hid (m < 2) := hm2
                  clear hm hm2
                  go_wp2_with fail
                  refine Calls.mono (crash_live hOl.live HG.out HOk.out (by have := HL.out; omega)) ?_
                  rintro e w4 ⟨rfl, hL4, hS4⟩
                  have hO4 := hOl.step hL4 hS4
                  clear hOl hL4 hS4
                  go_upto_region 25 with fail
                  go_cut [128] (fun s128 wx => s128 = .bool false ∧ Below w4.heap.size w4 wx)
                  case first =>
                    obtain ⟨p, c0, hql, hLs⟩ := hO4.live.shop
                    have z0 := hO4.box.2 0 _ rfl
                    have z1 := hO4.box.2 1 _ rfl
                    have z2 := hO4.box.2 2 _ rfl
                    have z3 := hO4.box.2 3 _ rfl
                    have z4 := hO4.box.2 4 _ rfl
                    have z5 := hO4.box.2 5 _ rfl
                    have hcl := hO4.box.1
                    have HK : Hid (∀ w', Below w4.heap.size w4 w' → w'.cell? ⟨q, 0, none⟩ = some (.pointer (some ⟨p, 0, none⟩)) ∧ w'.cell? ⟨cb, 0, none⟩ = some (.int .i64 (cnt6 K.A 0)) ∧ w'.cell? ⟨cb, 1, none⟩ = some (.int .i64 (cnt6 K.A 1)) ∧ w'.cell? ⟨cb, 2, none⟩ = some (.int .i64 (cnt6 K.A 2)) ∧ w'.cell? ⟨cb, 3, none⟩ = some (.int .i64 (cnt6 K.A 3)) ∧ w'.cell? ⟨cb, 4, none⟩ = some (.int .i64 (cnt6 K.A 4)) ∧ w'.cell? ⟨cb, 5, none⟩ = some (.int .i64 (cnt6 K.A 5)) ∧ Below w4.heap.size w4 w') := fun w' hb => ⟨((bcell hb).1 _ _ hql).trans c0, ((bcell hb).1 _ _ hcl).trans z0, ((bcell hb).1 _ _ hcl).trans z1, ((bcell hb).1 _ _ hcl).trans z2, ((bcell hb).1 _ _ hcl).trans z3, ((bcell hb).1 _ _ hcl).trans z4, ((bcell hb).1 _ _ hcl).trans z5, hb⟩
                    have HC9 : Hid (∀ W : World, Below w4.heap.size w4 W → Calls Try.prog 18 #[.pointer (some ⟨p, 0, none⟩)] W fun e w' => e = .returned (.agg #[.int .i64 (cnt6 K.A 0), .int .i64 (cnt6 K.A 1), .int .i64 (cnt6 K.A 2), .int .i64 (cnt6 K.A 3), .int .i64 (cnt6 K.A 4), .int .i64 (cnt6 K.A 5)]) ∧ Below W.heap.size W w') := fun W hW => (counts_live (hLs.next hW)).mono (fun e w' h => ⟨h.1, h.2.2⟩)
                    have HC12 : Hid (∀ W : World, Below w4.heap.size w4 W → Calls Try.prog 21 #[.pointer (some ⟨p, 0, none⟩)] W fun e w' => (∃ gb cap, e = .returned (.slice gb K.A.hs.length cap) ∧ HoldsAt w' gb K.A.hs) ∧ Below W.heap.size W w') := fun W hW => (holds_live (hLs.next hW) (by have := HLen.out; omega)).mono (fun e w' h => by
                      obtain ⟨⟨gb, capb, e1, e2, _⟩, _, e3⟩ := h
                      exact ⟨⟨gb, capb, e1, e2⟩, e3⟩)
                    have HC11 : Hid (∀ (W W' : World) (gb : Option Addr) (capb : Nat), Below w4.heap.size w4 W → HoldsAt W gb K.A.hs → Below W.heap.size W W' → Calls Try.prog 20 #[.slice gb K.A.hs.length capb, .slice ga K.A.hs.length capa] W' fun e w' => e = .returned (.bool true) ∧ Below W'.heap.size W' w') := fun W W' gb capb hW hB hW' => (sameHolds_any gb ga _ _ capb capa K.A.hs K.A.hs W' (hB.below hW' (Nat.le_refl _)) ((hO4.holds.below hW (Nat.le_refl _)).below hW' (Nat.le_refl _)) rfl rfl (by have := HLen.out; omega)).mono (fun e w' h => ⟨by rw [h.1]; exact ret_bool (decide_eq_true rfl), h.2⟩)
                    have HC19 : Hid (∀ W : World, Below w4.heap.size w4 W → Calls Try.prog 28 #[.pointer (some ⟨q, 0, none⟩)] W fun e w' => (∃ gc cap, e = .returned (.slice gc K.rs.length cap) ∧ StepsAt w' gc K.rs) ∧ Below W.heap.size W w') := fun W hW => (recs_live (hO4.live.next hW) (by have := HL.out; omega)).mono (fun e w' h => by
                      obtain ⟨⟨gc, capc, e1, e2, _⟩, _, e3⟩ := h
                      exact ⟨⟨gc, capc, e1, e2⟩, e3⟩)
                    have HC18 : Hid (∀ (W W' : World) (gc : Option Addr) (capc : Nat), Below w4.heap.size w4 W → StepsAt W gc K.rs → Below W.heap.size W W' → Calls Try.prog 27 #[.slice gc K.rs.length capc, .slice gr K.rs.length capr] W' fun e w' => e = .returned (.bool true) ∧ Below W'.heap.size W' w') := fun W W' gc capc hW hB hW' => (sameRecs_any gc gr _ _ capc capr K.rs K.rs W' (hB.below hW' (Nat.le_refl _)) ((hO4.recs.below hW (Nat.le_refl _)).below hW' (Nat.le_refl _)) rfl rfl (by have := HL.out; omega)).mono (fun e w' h => by
                      obtain ⟨⟨b, e1, e2⟩, e3⟩ := h
                      exact ⟨by rw [e1, e2.2 rfl], e3⟩)
                    have hq1 : ∀ W : World, (Op.equalIn 10000 36 (.agg #[.int .i64 (cnt6 K.A 0), .int .i64 (cnt6 K.A 1), .int .i64 (cnt6 K.A 2), .int .i64 (cnt6 K.A 3), .int .i64 (cnt6 K.A 4), .int .i64 (cnt6 K.A 5)]) (.agg #[.int .i64 (cnt6 K.A 0), .int .i64 (cnt6 K.A 1), .int .i64 (cnt6 K.A 2), .int .i64 (cnt6 K.A 3), .int .i64 (cnt6 K.A 4), .int .i64 (cnt6 K.A 5)])).run Try.prog W = .ok true W := fun W => by rw [eqC]; simp
                    clear hLs hO4 z0 z1 z2 z3 z4 z5 c0
                    go_region_held3 (fun w' => w'.cell? ⟨q, 0, none⟩ = some (.pointer (some ⟨p, 0, none⟩)) ∧ w'.cell? ⟨cb, 0, none⟩ = some (.int .i64 (cnt6 K.A 0)) ∧ w'.cell? ⟨cb, 1, none⟩ = some (.int .i64 (cnt6 K.A 1)) ∧ w'.cell? ⟨cb, 2, none⟩ = some (.int .i64 (cnt6 K.A 2)) ∧ w'.cell? ⟨cb, 3, none⟩ = some (.int .i64 (cnt6 K.A 3)) ∧ w'.cell? ⟨cb, 4, none⟩ = some (.int .i64 (cnt6 K.A 4)) ∧ w'.cell? ⟨cb, 5, none⟩ = some (.int .i64 (cnt6 K.A 5)) ∧ Below w4.heap.size w4 w')
                      (first | exact HK.out _ (by go_grown))
                      (first | (go_at_call 18; refine Calls.mono (HC9.out _ (by go_grown)) ?_; rintro e w9 ⟨rfl, hb9⟩; have hw9 : Below w4.heap.size w4 w9 := after (by go_grown) hb9 (by simp); have hz9 : w4.heap.size ≤ w9.heap.size := hw9.size) | (go_at_call 21; refine Calls.mono (HC12.out _ (by go_grown)) ?_; rintro e w10 ⟨⟨gb, capb, rfl, hAB⟩, hb10⟩; have HAB : Hid (HoldsAt w10 gb K.A.hs) := hAB; clear hAB; have hw10 : Below w4.heap.size w4 w10 := after hw9 hb10 hz9; have hz10 : w4.heap.size ≤ w10.heap.size := hw10.size) | (go_at_call 20; refine Calls.mono (HC11.out w10 _ gb capb hw10 HAB.out (by go_grown)) ?_; rintro e w11 ⟨rfl, hb11⟩; have hw11 : Below w4.heap.size w4 w11 := after hw10 hb11 hz10; have hz11 : w4.heap.size ≤ w11.heap.size := hw11.size) | (go_at_call 28; refine Calls.mono (HC19.out _ (by go_grown)) ?_; rintro e w12 ⟨⟨gc, capc, rfl, hAC⟩, hb12⟩; have HAC : Hid (StepsAt w12 gc K.rs) := hAC; clear hAC; have hw12 : Below w4.heap.size w4 w12 := after hw11 hb12 hz11; have hz12 : w4.heap.size ≤ w12.heap.size := hw12.size) | (go_at_call 27; refine Calls.mono (HC18.out w12 _ gc capc hw12 HAC.out (by go_grown)) ?_; rintro e w13 ⟨rfl, hb13⟩; have hw13 : Below w4.heap.size w4 w13 := after hw12 hb13 hz12; have hz13 : w4.heap.size ≤ w13.heap.size := hw13.size))
                    all_goals
                      go_wp2_with fail
                      go_meet
                      case rel => exact ⟨rfl, by go_grown⟩
                  case rest =>
                    obtain ⟨rfl, hb5⟩ := hcut
                    have hO5 := hO4.next hb5
                    clear hO4 hb5
                    go_wp2_with fail
                    go_loopg [18, 19, 20] 8 (fun g s18 _ _ wy => ∃ k : Nat, k ≤ 8 ∧ g = 8 - k ∧ s18 = .int .i64 k ∧ Old w q no ws K cb ob db ga gr wy)
                    case atStart => exact ⟨0, Nat.zero_le _, rfl, rfl, hO5⟩
                    case round =>
                      obtain ⟨k, hk, rfl, rfl, hO6⟩ := hrel
                      clear hO5
                      by_cases hk8 : k < 8
                      · have i0 : (0 : Int) ≤ (k : Int) := by omega
                        have i1 : (k : Int) < 8 := by omega
                        obtain ⟨p, c0, hql, hLs⟩ := hO6.live.shop
                        have HK8 : Hid (k < 8) := hk8
                        clear hk hk8
                        go_wp2_with fail
                        refine (over_live hLs HG.out.good (k : Int)).mono ?_
                        rintro e w7 ⟨rfl, _, hb7⟩
                        have hO7 := hO6.next hb7
                        clear hO6 hLs c0 hql hb7
                        have o1 := hO7.ov.cell k HK8.out
                        have d1 := hO7.dn.cell k HK8.out
                        generalize ovB K.A.es (k : Int) = bo at *
                        generalize dnB K.A.es (k : Int) = bd at *
                        go_wp2_with fail
                        go_roundg (8 - (k + 1))
                        case measure => have := HK8.out; omega
                        case rel => exact ⟨k + 1, HK8.out, rfl, by simp, hO7⟩
                      · have hkk : k = 8 := by omega
                        subst hkk
                        clear hk hk8
                        go_wp2_with fail
                        go_roundg (2 - (m + 1))
                        case measure => have := HM2.out; omega
                        case rel => exact ⟨m + 1, HM2.out, rfl, by simp, hO6⟩
                · have hmm : m = 2 := by omega
                  subst hmm
                  clear hm hm2
                  go_wp2_with fail
                  go_ret
                  exact ⟨rfl, hOl.live.below⟩
    · rw [if_neg hok] at hN
      subst hN
      go_wp2_with fail
      go_ret
      exact ⟨rfl, hb4⟩

end Go.Proofs.Ytbgnajcmhmpjlab
