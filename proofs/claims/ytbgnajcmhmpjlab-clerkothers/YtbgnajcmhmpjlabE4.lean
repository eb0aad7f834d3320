/- The walk of ClerkTwice: it answers true, whatever shop, world and mails it is given. -/
import Derived.Test.YtbgnajcmhmpjlabG3

namespace Go.Proofs.Ytbgnajcmhmpjlab
open Go.RowKit

/-- What was asked of a clerk at one time: its counters in a block, what it holds, its records; the clerk is as it was. -/
def CAsked (w z : World) (Z : Nat → Prop) (c : Nat) (no : Int) (ws : Nat → Int) (K : Kb) (s9 s10 s11 : Value) (wx : World) : Prop :=
  ∃ cb ga capa gr capr, s9 = .pointer (some ⟨cb, 0, none⟩) ∧ s10 = .slice ga K.A.hs.length capa ∧ s11 = .slice gr K.rs.length capr ∧ BoxAt wx cb [.int .i64 (cnt6 K.A 0), .int .i64 (cnt6 K.A 1), .int .i64 (cnt6 K.A 2), .int .i64 (cnt6 K.A 3), .int .i64 (cnt6 K.A 4), .int .i64 (cnt6 K.A 5)] ∧ HoldsAt wx ga K.A.hs ∧ StepsAt wx gr K.rs ∧ CLive w (fun b => Z b ∨ b = cb ∨ (∃ a, ga = some a ∧ b = a.block) ∨ ∃ a, gr = some a ∧ b = a.block) wx c no ws K ∧ Below z.heap.size z wx
theorem casked_of {w wr w11 WN : World} {Z : Nat → Prop} {c capa capr cb : Nat} {no : Int} {ws : Nat → Int} {K : Kb} {ga gr : Option Addr} (hL : CLive w Z wr c no ws K) (hw11 : Below wr.heap.size wr w11) (hA : HoldsAt w11 ga K.A.hs) (hR : StepsAt w11 gr K.rs)
    (hB : BoxAt WN cb [.int .i64 (cnt6 K.A 0), .int .i64 (cnt6 K.A 1), .int .i64 (cnt6 K.A 2), .int .i64 (cnt6 K.A 3), .int .i64 (cnt6 K.A 4), .int .i64 (cnt6 K.A 5)]) (hS : Save (fun b => b = cb) w11 WN) (hcb : wr.heap.size ≤ cb)
    (hF : ∀ a, ga = some a → wr.heap.size ≤ a.block ∧ a.block < w11.heap.size ∧ a.block ≠ cb) (hG : ∀ a, gr = some a → wr.heap.size ≤ a.block ∧ a.block < w11.heap.size ∧ a.block ≠ cb) :
    CAsked w wr Z c no ws K (.pointer (some ⟨cb, 0, none⟩)) (.slice ga K.A.hs.length capa) (.slice gr K.rs.length capr) WN := by
  have hs := hS.size
  have hq4 : Below wr.heap.size wr WN := hw11.trans (hS.below (fun k hk e => by omega) hw11.size)
  refine ⟨cb, ga, capa, gr, capr, rfl, rfl, rfl, hB, hA.save hS (fun a e h => (hF a e).2.2 h), hR.save hS (fun a e h => (hG a e).2.2 h), hL.more hq4 (fun b hb => ?_), hq4⟩
  rcases hb with hb | rfl | ⟨a, e, rfl⟩ | ⟨a, e, rfl⟩
  · exact .inl hb
  · exact .inr ⟨hcb, hB.1⟩
  · have := hF a e
    exact .inr ⟨by omega, by omega⟩
  · have := hG a e
    exact .inr ⟨by omega, by omega⟩

set_option maxHeartbeats 8000000 in
set_option maxRecDepth 100000 in
theorem ctwice_walk (no : Int) (ws : Nat → Int) (la : Option Addr) (ll lc : Nat) (l : List Ml) (w : World) (hl : MailsAt w la l) (hll : l.length = ll) :
    Calls Try.prog 10 #[.int .i64 no, .agg #[.int .i64 (ws 0), .int .i64 (ws 1), .int .i64 (ws 2), .int .i64 (ws 3), .int .i64 (ws 4), .int .i64 (ws 5)], .slice la ll lc] w fun e w' => e = .returned (.bool true) ∧ Below w.heap.size w w' := by
  by_cases hbig : 150 < ll
  · have hbig' : (150 : Int) < (ll : Int) := by omega
    clear hl hll hbig
    go_enter Try.func10, Try.ntmps10
    go_wp2_with fail
    refine (cbegun_any _).mono ?_
    rintro e w1 ⟨rfl, hb1⟩
    go_wp2_with fail
    go_ret
    exact ⟨rfl, after (by go_grown) hb1 (by simp)⟩
  · have hbig' : ¬ (150 : Int) < (ll : Int) := by omega
    have HB : Hid (ll ≤ 150) := by show _ ≤ _; omega
    clear hbig
    go_enter Try.func10, Try.ntmps10
    go_wp2_with fail
    refine (cbegun_any _).mono ?_
    rintro e w1 ⟨rfl, hb1⟩
    have HT : Hid (MailsAt w la l) := hl
    have hX := (box_new6 w ws 23).next hb1
    have hb2 : Below w.heap.size w w1 := after (by go_grown) hb1 (by simp)
    have x0 := hX.2 0 _ rfl
    have x1 := hX.2 1 _ rfl
    have x2 := hX.2 2 _ rfl
    have x3 := hX.2 3 _ rfl
    have x4 := hX.2 4 _ rfl
    have x5 := hX.2 5 _ rfl
    clear hb1 hl hX
    go_wp2_with fail
    refine (cnew_any no ws _).mono ?_
    rintro e w2 ⟨hN, hb3⟩
    have hb4 : Below w.heap.size w w2 := after hb2 hb3 hb2.size
    clear x0 x1 x2 x3 x4 x5
    unfold NewCIs at hN
    by_cases hok : newOk no ws = true
    · rw [if_pos hok] at hN
      obtain ⟨c, O, rfl, hI, hO⟩ := hN
      have hL : CLive w (fun _ => False) w2 c no ws ⟨book0 no ws, []⟩ := ⟨⟨O, hI, fun k hk => ⟨Nat.le_trans hb2.size (hO k hk), fun q => q⟩⟩, hb4, fun _ q => q.elim⟩
      have HG0 : Hid (GoodK (book0 no ws) ⟨book0 no ws, []⟩) := goodK_new (good_new hok) rfl rfl
      clear hI hO hb2 hb3 hok hb4
      go_wp2_with fail
      go_loopg [8] ll (fun g s8 wr => ∃ (k : Nat) (K : Kb), k ≤ ll ∧ g = ll - k ∧ s8 = .int .i64 k ∧ CLive w (fun _ => False) wr c no ws K ∧ Hid (GoodK (book0 no ws) K) ∧ Hid (K.rs.length ≤ k))
      case atStart => exact ⟨0, _, Nat.zero_le _, rfl, rfl, hL, HG0, Nat.le_refl _⟩
      case round =>
        obtain ⟨k, K, hk, rfl, rfl, hP1, HG, HL⟩ := hrel
        clear hL HG0
        by_cases hlt : k < ll
        · obtain ⟨x, hkx⟩ : ∃ x, l[k]? = some x := ⟨_, List.getElem?_eq_getElem (by omega)⟩
          obtain ⟨bl, ol, rfl, hbl, hcell⟩ := HT.out k x hkx
          have HKx : Hid (∀ w', Below w.heap.size w w' → w'.cell? ⟨bl, ol + k * 6, none⟩ = some (.int .i64 x.kind) ∧ w'.cell? ⟨bl, ol + k * 6 + 1, none⟩ = some (.int .i64 x.deal) ∧ w'.cell? ⟨bl, ol + k * 6 + 2, none⟩ = some (.int .i64 x.shop) ∧ w'.cell? ⟨bl, ol + k * 6 + 3, none⟩ = some (.int .i64 x.c) ∧ w'.cell? ⟨bl, ol + k * 6 + 4, none⟩ = some (.int .i64 x.d) ∧ w'.cell? ⟨bl, ol + k * 6 + 5, none⟩ = some (.bool x.yes)) := fun w' hb => by
            have hy : ∀ j v, x.cells[j]? = some v → w'.cell? ⟨bl, ol + k * 6 + j, none⟩ = some v := fun j v hj => (hb.cell (p := ⟨bl, _, none⟩) hbl).trans (hcell j v hj)
            exact ⟨hy 0 _ rfl, hy 1 _ rfl, hy 2 _ rfl, hy 3 _ rfl, hy 4 _ rfl, hy 5 _ rfl⟩
          have j0 : (0 : Int) ≤ (k : Int) := by omega
          have j1 : (k : Int) < (ll : Int) := by omega
          have HKN : Hid (k < ll) := hlt
          have HLen : Hid (K.A.hs.length ≤ 150 ∧ K.rs.length ≤ 150) := by
            have := HG.out.hl
            have := HL.out
            have := HB.out
            exact ⟨by omega, by omega⟩
          have HG2 : Hid (GoodK (book0 no ws) (ansR no K x).2.2) := goodK_ans HG.out no x
          have HL2 : Hid ((ansR no K x).2.2.rs.length ≤ k + 1) := by have := ans_len no K x; have := HL.out; show _ ≤ _; omega
          have HLen2 : Hid ((ansR no K x).2.2.A.hs.length ≤ 151 ∧ (ansR no K x).2.2.rs.length ≤ 151) := by
            have := HG2.out.hl
            have := HL2.out
            have := HKN.out
            have := HB.out
            exact ⟨by omega, by omega⟩
          have HA1 : Hid (Calls Try.prog 43 #[.pointer (some ⟨c, 0, none⟩), .agg #[.int .i64 x.kind, .int .i64 x.deal, .int .i64 x.shop, .int .i64 x.c, .int .i64 x.d, .bool x.yes]] wr fun e w' => e = .returned (ansV (ansR no K x)) ∧ CLive w (fun _ => False) w' c no ws (ansR no K x).2.2) := (ans_live x hP1 HG.out.good (by have := HLen.out; omega) (by have := HLen.out; omega)).mono (fun e w' h => ⟨h.1, h.2.1⟩)
          have HA2 : Hid (∀ (Z : Nat → Prop) (W2 : World), CLive w Z W2 c no ws (ansR no K x).2.2 → Calls Try.prog 43 #[.pointer (some ⟨c, 0, none⟩), .agg #[.int .i64 x.kind, .int .i64 x.deal, .int .i64 x.shop, .int .i64 x.c, .int .i64 x.d, .bool x.yes]] W2 fun e w' => e = .returned (ansV (ansR no K x)) ∧ CLive w Z w' c no ws (ansR no K x).2.2 ∧ Save (fun k => ¬ Z k) W2 w') := fun Z W2 h1 => by
            have := ans_live x h1 HG2.out.good (by have := HLen2.out; omega) (by have := HLen2.out; omega)
            rwa [ans_again] at this
          have HSm : Hid ((ansR no K x).2.1 = true → (ansR no K x).1.deal = x.deal ∧ (ansR no K x).1.shop = no ∧ (ansR no K x).1.c = x.c ∧ (ansR no K x).1.d = x.d ∧ x.shop = no) := ans_same
          have HP1 : Hid (Below w.heap.size w wr) := hP1.below
          clear hcell hkx hk hlt hbl hP1
          generalize ansR no K x = rr at *
          obtain ⟨a, z, K2⟩ := rr
          unfold ansV mlV at HA1 HA2
          dsimp only at *
          obtain ⟨p0, p1, p2, p3, p4, p5⟩ := HKx.out wr HP1.out
          go_wp2_with fail
          refine Calls.mono HA1.out ?_
          rintro e w3 ⟨rfl, hP3⟩
          clear p0 p1 p2 p3 p4 p5 HA1 HP1
          go_upto_region 12 with fail
          have hA := MlBox.new w3 a 71
          have hbn : Below w3.heap.size w3 (w3.alloc (.cells #[.int .i64 a.kind, .int .i64 a.deal, .int .i64 a.shop, .int .i64 a.c, .int .i64 a.d, .bool a.yes] 71)) := (Below.refl _ _).alloc (Nat.le_refl _) _
          have hL1 : CLive w (fun b => b = w3.heap.size) (w3.alloc (.cells #[.int .i64 a.kind, .int .i64 a.deal, .int .i64 a.shop, .int .i64 a.c, .int .i64 a.d, .bool a.yes] 71)) c no ws K2 := hP3.more hbn (fun b e => .inr (by subst e; exact ⟨Nat.le_refl _, hA.lt⟩))
          generalize (w3.alloc (.cells #[.int .i64 a.kind, .int .i64 a.deal, .int .i64 a.shop, .int .i64 a.c, .int .i64 a.d, .bool a.yes] 71)) = Wz at hA hL1 hbn ⊢
          generalize w3.heap.size = ba at hA hL1 ⊢
          clear hP3 hbn
          have HMb : Hid (MlBox Wz ba a) := hA
          clear hA
          go_cut [11, 12, 13] (fun s9 s10 s11 wx => CAsked w Wz (fun b => b = ba) c no ws K2 s9 s10 s11 wx)
          case first =>
            obtain ⟨q, cc0, hcl, hKL⟩ := hL1.keeper
            obtain ⟨p, c0, hql, hLs⟩ := hKL.shop
            have HK : Hid (∀ w', Below Wz.heap.size Wz w' → w'.cell? ⟨c, 0, none⟩ = some (.pointer (some ⟨q, 0, none⟩)) ∧ w'.cell? ⟨q, 0, none⟩ = some (.pointer (some ⟨p, 0, none⟩)) ∧ Below Wz.heap.size Wz w') := fun w' hb => ⟨((bcell hb).1 _ _ hcl).trans cc0, ((bcell hb).1 _ _ hql).trans c0, hb⟩
            have HC9 : Hid (∀ W : World, Below Wz.heap.size Wz W → Calls Try.prog 18 #[.pointer (some ⟨p, 0, none⟩)] W fun e w' => e = .returned (.agg #[.int .i64 (cnt6 K2.A 0), .int .i64 (cnt6 K2.A 1), .int .i64 (cnt6 K2.A 2), .int .i64 (cnt6 K2.A 3), .int .i64 (cnt6 K2.A 4), .int .i64 (cnt6 K2.A 5)]) ∧ Below W.heap.size W w') := fun W hW => (counts_live (hLs.next hW)).mono (fun e w' h => ⟨h.1, h.2.2⟩)
            have HC12 : Hid (∀ W : World, Below Wz.heap.size Wz W → Calls Try.prog 21 #[.pointer (some ⟨p, 0, none⟩)] W fun e w' => (∃ ga cap, e = .returned (.slice ga K2.A.hs.length cap) ∧ HoldsAt w' ga K2.A.hs ∧ (∀ a, ga = some a → W.heap.size ≤ a.block ∧ a.block < w'.heap.size)) ∧ Below W.heap.size W w') := fun W hW => (holds_live (hLs.next hW) (by have := HLen2.out; omega)).mono (fun e w' h => ⟨h.1, h.2.2⟩)
            have HC19 : Hid (∀ W : World, Below Wz.heap.size Wz W → Calls Try.prog 28 #[.pointer (some ⟨q, 0, none⟩)] W fun e w' => (∃ ga cap, e = .returned (.slice ga K2.rs.length cap) ∧ StepsAt w' ga K2.rs ∧ (∀ a, ga = some a → W.heap.size ≤ a.block ∧ a.block < w'.heap.size)) ∧ Below W.heap.size W w') := fun W hW => (recs_live (hKL.next hW) (by have := HLen2.out; omega)).mono (fun e w' h => by
              obtain ⟨⟨ga, cap, e1, e2, e3, _⟩, _, e4⟩ := h
              exact ⟨⟨ga, cap, e1, e2, e3⟩, e4⟩)
            have HL1 : Hid (CLive w (fun b => b = ba) Wz c no ws K2) := hL1
            clear hLs hL1 hKL cc0 c0
            go_region_held3 (fun w' => w'.cell? ⟨c, 0, none⟩ = some (.pointer (some ⟨q, 0, none⟩)) ∧ w'.cell? ⟨q, 0, none⟩ = some (.pointer (some ⟨p, 0, none⟩)) ∧ Below Wz.heap.size Wz w')
              (first | exact HK.out _ (by go_grown))
              (first | (go_at_call 18; refine Calls.mono (HC9.out _ (by go_grown)) ?_; rintro e w9 ⟨rfl, hb9⟩; have hw9 : Below Wz.heap.size Wz w9 := after (by go_grown) hb9 (by simp); have hz9 : Wz.heap.size ≤ w9.heap.size := hw9.size; have hy9 := hb9.size; (try simp [Nat.add_one_le_iff] at hy9); obtain ⟨hc9, hf9⟩ := bcell hb9) | (go_at_call 21; refine Calls.mono (HC12.out _ (by go_grown)) ?_; rintro e w10 ⟨⟨ga, capa, rfl, hA10, hf10⟩, hb10⟩; have HA10 : Hid (HoldsAt w10 ga K2.A.hs) := hA10; have HF10 : Hid _ := hf10; clear hA10 hf10; have hv10 : Below w9.heap.size w9 w10 := after (by go_grown) hb10 (by simp); have hw10 : Below Wz.heap.size Wz w10 := after (by go_grown) hb10 (by first | assumption | (simp; omega)); have hz10 : Wz.heap.size ≤ w10.heap.size := hw10.size; have hy10 := hb10.size; (try simp [Nat.add_one_le_iff] at hy10); obtain ⟨hc10, hf10⟩ := bcell hb10; (try (have hq10 : Wz.heap.size < w10.heap.size := by omega))) | (go_at_call 28; refine Calls.mono (HC19.out _ (by go_grown)) ?_; rintro e w11 ⟨⟨gr, capr, rfl, hA11, hf11⟩, hb11⟩; have HA11 : Hid (StepsAt w11 gr K2.rs) := hA11; have HF11 : Hid _ := hf11; clear hA11 hf11; have hv11 : Below w10.heap.size w10 w11 := after (by go_grown) hb11 (by simp); have hw11 : Below Wz.heap.size Wz w11 := after (by go_grown) hb11 (by first | assumption | (simp; omega)); have hz11 : Wz.heap.size ≤ w11.heap.size := hw11.size; have hy11 := hb11.size; (try simp [Nat.add_one_le_iff] at hy11); obtain ⟨hc11, hf11⟩ := bcell hb11; (try (have hq11 : Wz.heap.size < w11.heap.size := by omega)); (try (have hq12 : w9.heap.size < w11.heap.size := by omega))))
            all_goals
              go_wp2_with fail
              go_meet
              case rel =>
                clear HC9 HC12 HC19 HK
                refine casked_of HL1.out hw11 (HA10.out.below hv11 (Nat.le_refl _)) HA11.out ?_ ?_ ?_ ?_ ?_
                · first
                    | with_reducible exact box_new6' _ _ _ _ _ _ _ _
                    | (with_reducible refine box_set6 ?_ ?_ _ _ _ _ _ _
                       · have h1 := hb11.size
                         have h2 := hb10.size
                         (try simp at h1)
                         (try simp at h2)
                         omega
                       · intro j hj
                         rcases six_cases hj with rfl | rfl | rfl | rfl | rfl | rfl
                         all_goals
                           first
                             | (refine ⟨.int .i64 0, ?_⟩; simp [go_sem, hc11]; done)
                             | (refine ⟨.int .i64 0, ?_⟩; simp [go_sem, hc11, hc10, hy10]; done)
                             | (refine ⟨.int .i64 0, ?_⟩; simp [go_sem, hc11, hc10, hc9, hq10, hy9]; done))
                · first
                    | with_reducible exact save_6 _ _ _ _ _ _ _ _
                    | with_reducible exact save_new _ _
                · first
                    | exact Nat.le_refl _
                    | omega
                · intro a e
                  have h1 := HF10.out a e
                  (try simp at h1)
                  omega
                · intro a e
                  have h1 := HF11.out a e
                  (try simp at h1)
                  omega
          case rest =>
            obtain ⟨cb, ga, capa, gr, capr, rfl, rfl, rfl, hC, hA, hR, hL2, hbz⟩ := hcut
            have hM2 := HMb.out.next hbz
            clear hL1 hbz HMb
            obtain ⟨p0, p1, p2, p3, p4, p5⟩ := HKx.out wc hL2.below
            go_wp2_with fail
            refine Calls.mono (HA2.out _ wc hL2) ?_
            rintro e w5 ⟨rfl, hL5, hS5⟩
            have hM5 := hM2.save hS5 (fun e => e (.inl rfl))
            have hC5 := hC.save hS5 (fun e => e (.inr (.inl rfl)))
            have hA5 := hA.save hS5 (fun a e q => q (.inr (.inr (.inl ⟨a, e, rfl⟩))))
            have hR5 := hR.save hS5 (fun a e q => q (.inr (.inr (.inr ⟨a, e, rfl⟩))))
            clear p0 p1 p2 p3 p4 p5 hS5 hM2 hC hA hR hL2 HA2
            go_upto_region 14 with fail
            have hbn : Below w5.heap.size w5 (w5.alloc (.cells #[.int .i64 a.kind, .int .i64 a.deal, .int .i64 a.shop, .int .i64 a.c, .int .i64 a.d, .bool a.yes] 71)) := (Below.refl _ _).alloc (Nat.le_refl _) _
            have hM6 := hM5.next hbn
            have hB6 := MlBox.new w5 a 71
            have hC6 := hC5.next hbn
            have hA6 := hA5.below hbn (Nat.le_refl _)
            have hR6 := hR5.below hbn (Nat.le_refl _)
            have hL6 : CLive w (fun _ => False) (w5.alloc (.cells #[.int .i64 a.kind, .int .i64 a.deal, .int .i64 a.shop, .int .i64 a.c, .int .i64 a.d, .bool a.yes] 71)) c no ws K2 := (hL5.next hbn).less (fun _ q => q.elim)
            generalize (w5.alloc (.cells #[.int .i64 a.kind, .int .i64 a.deal, .int .i64 a.shop, .int .i64 a.c, .int .i64 a.d, .bool a.yes] 71)) = wz at hM6 hB6 hC6 hA6 hR6 hL6 ⊢
            generalize w5.heap.size = bb at hB6 ⊢
            clear hL5 hbn hM5 hC5 hA5 hR5
            have hqm : ∀ W : World, (Op.equalIn 10000 71 (.agg #[.int .i64 a.kind, .int .i64 a.deal, .int .i64 a.shop, .int .i64 a.c, .int .i64 a.d, .bool a.yes]) (.agg #[.int .i64 a.kind, .int .i64 a.deal, .int .i64 a.shop, .int .i64 a.c, .int .i64 a.d, .bool a.yes])).run Try.prog W = .ok true W := fun W => by rw [eqMl, eqM_iff.2 rfl]
            go_cut [113] (fun s113 wx => s113 = .bool false ∧ Below wz.heap.size wz wx)
            case first =>
              obtain ⟨q, cc0, hcl, hKL⟩ := hL6.keeper
              obtain ⟨p, c0, hql, hLs⟩ := hKL.shop
              have HK : Hid (∀ w', Below wz.heap.size wz w' → w'.cell? ⟨c, 0, none⟩ = some (.pointer (some ⟨q, 0, none⟩)) ∧ w'.cell? ⟨q, 0, none⟩ = some (.pointer (some ⟨p, 0, none⟩)) ∧ w'.cell? ⟨cb, 0, none⟩ = some (.int .i64 (cnt6 K2.A 0)) ∧ w'.cell? ⟨cb, 1, none⟩ = some (.int .i64 (cnt6 K2.A 1)) ∧ w'.cell? ⟨cb, 2, none⟩ = some (.int .i64 (cnt6 K2.A 2)) ∧ w'.cell? ⟨cb, 3, none⟩ = some (.int .i64 (cnt6 K2.A 3)) ∧ w'.cell? ⟨cb, 4, none⟩ = some (.int .i64 (cnt6 K2.A 4)) ∧ w'.cell? ⟨cb, 5, none⟩ = some (.int .i64 (cnt6 K2.A 5)) ∧ w'.cell? ⟨ba, 0, none⟩ = some (.int .i64 a.kind) ∧ w'.cell? ⟨ba, 1, none⟩ = some (.int .i64 a.deal) ∧ w'.cell? ⟨ba, 2, none⟩ = some (.int .i64 a.shop) ∧ w'.cell? ⟨ba, 3, none⟩ = some (.int .i64 a.c) ∧ w'.cell? ⟨ba, 4, none⟩ = some (.int .i64 a.d) ∧ w'.cell? ⟨ba, 5, none⟩ = some (.bool a.yes) ∧ w'.cell? ⟨bb, 0, none⟩ = some (.int .i64 a.kind) ∧ w'.cell? ⟨bb, 1, none⟩ = some (.int .i64 a.deal) ∧ w'.cell? ⟨bb, 2, none⟩ = some (.int .i64 a.shop) ∧ w'.cell? ⟨bb, 3, none⟩ = some (.int .i64 a.c) ∧ w'.cell? ⟨bb, 4, none⟩ = some (.int .i64 a.d) ∧ w'.cell? ⟨bb, 5, none⟩ = some (.bool a.yes) ∧ Below wz.heap.size wz w') := fun w' hb => by
                have h1 := hC6.next hb
                have h2 := hM6.next hb
                have h3 := hB6.next hb
                exact ⟨((bcell hb).1 _ _ hcl).trans cc0, ((bcell hb).1 _ _ hql).trans c0, h1.2 0 _ rfl, h1.2 1 _ rfl, h1.2 2 _ rfl, h1.2 3 _ rfl, h1.2 4 _ rfl, h1.2 5 _ rfl, h2.c0, h2.c1, h2.c2, h2.c3, h2.c4, h2.c5, h3.c0, h3.c1, h3.c2, h3.c3, h3.c4, h3.c5, hb⟩
              have HC1 : Hid (∀ W : World, Below wz.heap.size wz W → Calls Try.prog 18 #[.pointer (some ⟨p, 0, none⟩)] W fun e w' => e = .returned (.agg #[.int .i64 (cnt6 K2.A 0), .int .i64 (cnt6 K2.A 1), .int .i64 (cnt6 K2.A 2), .int .i64 (cnt6 K2.A 3), .int .i64 (cnt6 K2.A 4), .int .i64 (cnt6 K2.A 5)]) ∧ Below W.heap.size W w') := fun W hW => (counts_live (hLs.next hW)).mono (fun e w' h => ⟨h.1, h.2.2⟩)
              have HC3 : Hid (∀ W : World, Below wz.heap.size wz W → Calls Try.prog 21 #[.pointer (some ⟨p, 0, none⟩)] W fun e w' => (∃ gh cap, e = .returned (.slice gh K2.A.hs.length cap) ∧ HoldsAt w' gh K2.A.hs) ∧ Below W.heap.size W w') := fun W hW => (holds_live (hLs.next hW) (by have := HLen2.out; omega)).mono (fun e w' h => by
                obtain ⟨⟨gh, capb, e1, e2, _⟩, _, e3⟩ := h
                exact ⟨⟨gh, capb, e1, e2⟩, e3⟩)
              have HC4 : Hid (∀ (W W' : World) (gh : Option Addr) (capb : Nat), Below wz.heap.size wz W → HoldsAt W gh K2.A.hs → Below W.heap.size W W' → Calls Try.prog 20 #[.slice ga K2.A.hs.length capa, .slice gh K2.A.hs.length capb] W' fun e w' => e = .returned (.bool true) ∧ Below W'.heap.size W' w') := fun W W' gh capb hW hB hW' => (sameHolds_any ga gh _ _ capa capb K2.A.hs K2.A.hs W' ((hA6.below hW (Nat.le_refl _)).below hW' (Nat.le_refl _)) (hB.below hW' (Nat.le_refl _)) rfl rfl (by have := HLen2.out; omega)).mono (fun e w' h => ⟨by rw [h.1]; exact ret_bool (decide_eq_true rfl), h.2⟩)
              have HC5 : Hid (∀ W : World, Below wz.heap.size wz W → Calls Try.prog 28 #[.pointer (some ⟨q, 0, none⟩)] W fun e w' => (∃ gc cap, e = .returned (.slice gc K2.rs.length cap) ∧ StepsAt w' gc K2.rs) ∧ Below W.heap.size W w') := fun W hW => (recs_live (hKL.next hW) (by have := HLen2.out; omega)).mono (fun e w' h => by
                obtain ⟨⟨gc, capc, e1, e2, _⟩, _, e3⟩ := h
                exact ⟨⟨gc, capc, e1, e2⟩, e3⟩)
              have HC6 : Hid (∀ (W W' : World) (gc : Option Addr) (capc : Nat), Below wz.heap.size wz W → StepsAt W gc K2.rs → Below W.heap.size W W' → Calls Try.prog 27 #[.slice gr K2.rs.length capr, .slice gc K2.rs.length capc] W' fun e w' => e = .returned (.bool true) ∧ Below W'.heap.size W' w') := fun W W' gc capc hW hB hW' => (sameRecs_any gr gc _ _ capr capc K2.rs K2.rs W' ((hR6.below hW (Nat.le_refl _)).below hW' (Nat.le_refl _)) (hB.below hW' (Nat.le_refl _)) rfl rfl (by have := HLen2.out; omega)).mono (fun e w' h => by
                obtain ⟨⟨b, e1, e2⟩, e3⟩ := h
                exact ⟨by rw [e1, e2.2 rfl], e3⟩)
              have hq1 : ∀ W : World, (Op.equalIn 10000 36 (.agg #[.int .i64 (cnt6 K2.A 0), .int .i64 (cnt6 K2.A 1), .int .i64 (cnt6 K2.A 2), .int .i64 (cnt6 K2.A 3), .int .i64 (cnt6 K2.A 4), .int .i64 (cnt6 K2.A 5)]) (.agg #[.int .i64 (cnt6 K2.A 0), .int .i64 (cnt6 K2.A 1), .int .i64 (cnt6 K2.A 2), .int .i64 (cnt6 K2.A 3), .int .i64 (cnt6 K2.A 4), .int .i64 (cnt6 K2.A 5)])).run Try.prog W = .ok true W := fun W => by rw [eqC]; simp
              clear hLs hKL hL6 hC6 hM6 hB6 hA6 hR6 c0 cc0
              go_region_held3 (fun w' => w'.cell? ⟨c, 0, none⟩ = some (.pointer (some ⟨q, 0, none⟩)) ∧ w'.cell? ⟨q, 0, none⟩ = some (.pointer (some ⟨p, 0, none⟩)) ∧ w'.cell? ⟨cb, 0, none⟩ = some (.int .i64 (cnt6 K2.A 0)) ∧ w'.cell? ⟨cb, 1, none⟩ = some (.int .i64 (cnt6 K2.A 1)) ∧ w'.cell? ⟨cb, 2, none⟩ = some (.int .i64 (cnt6 K2.A 2)) ∧ w'.cell? ⟨cb, 3, none⟩ = some (.int .i64 (cnt6 K2.A 3)) ∧ w'.cell? ⟨cb, 4, none⟩ = some (.int .i64 (cnt6 K2.A 4)) ∧ w'.cell? ⟨cb, 5, none⟩ = some (.int .i64 (cnt6 K2.A 5)) ∧ w'.cell? ⟨ba, 0, none⟩ = some (.int .i64 a.kind) ∧ w'.cell? ⟨ba, 1, none⟩ = some (.int .i64 a.deal) ∧ w'.cell? ⟨ba, 2, none⟩ = some (.int .i64 a.shop) ∧ w'.cell? ⟨ba, 3, none⟩ = some (.int .i64 a.c) ∧ w'.cell? ⟨ba, 4, none⟩ = some (.int .i64 a.d) ∧ w'.cell? ⟨ba, 5, none⟩ = some (.bool a.yes) ∧ w'.cell? ⟨bb, 0, none⟩ = some (.int .i64 a.kind) ∧ w'.cell? ⟨bb, 1, none⟩ = some (.int .i64 a.deal) ∧ w'.cell? ⟨bb, 2, none⟩ = some (.int .i64 a.shop) ∧ w'.cell? ⟨bb, 3, none⟩ = some (.int .i64 a.c) ∧ w'.cell? ⟨bb, 4, none⟩ = some (.int .i64 a.d) ∧ w'.cell? ⟨bb, 5, none⟩ = some (.bool a.yes) ∧ Below wz.heap.size wz w')
                (first | exact HK.out _ (by go_grown))
                (first | (go_at_call 18; refine Calls.mono (HC1.out _ (by go_grown)) ?_; rintro e w9 ⟨rfl, hb9⟩; have hw9 : Below wz.heap.size wz w9 := after (by go_grown) hb9 (by simp); have hz9 : wz.heap.size ≤ w9.heap.size := hw9.size) | (go_at_call 21; refine Calls.mono (HC3.out _ (by go_grown)) ?_; rintro e w11 ⟨⟨gh, capb, rfl, hAB⟩, hb11⟩; have HAB : Hid (HoldsAt w11 gh K2.A.hs) := hAB; clear hAB; have hw11 : Below wz.heap.size wz w11 := after hw9 hb11 hz9; have hz11 : wz.heap.size ≤ w11.heap.size := hw11.size) | (go_at_call 20; refine Calls.mono (HC4.out w11 _ gh capb hw11 HAB.out (by go_grown)) ?_; rintro e w12 ⟨rfl, hb12⟩; have hw12 : Below wz.heap.size wz w12 := after hw11 hb12 hz11; have hz12 : wz.heap.size ≤ w12.heap.size := hw12.size) | (go_at_call 28; refine Calls.mono (HC5.out _ (by go_grown)) ?_; rintro e w13 ⟨⟨gc, capc, rfl, hAC⟩, hb13⟩; have HAC : Hid (StepsAt w13 gc K2.rs) := hAC; clear hAC; have hw13 : Below wz.heap.size wz w13 := after hw12 hb13 hz12; have hz13 : wz.heap.size ≤ w13.heap.size := hw13.size) | (go_at_call 27; refine Calls.mono (HC6.out w13 _ gc capc hw13 HAC.out (by go_grown)) ?_; rintro e w14 ⟨rfl, hb14⟩; have hw14 : Below wz.heap.size wz w14 := after hw13 hb14 hz13; have hz14 : wz.heap.size ≤ w14.heap.size := hw14.size))
              all_goals
                go_wp2_with fail
                go_meet
                case rel => exact ⟨rfl, by go_grown⟩
            case rest =>
              obtain ⟨rfl, hbz⟩ := hcut
              have hL7 := hL6.next hbz
              have hM7 := hM6.next hbz
              clear hL6 hC6 hM6 hB6 hA6 hR6 hbz hqm
              obtain ⟨p0, p1, p2, p3, p4, p5⟩ := HKx.out wc hL7.below
              obtain ⟨xl, x0, x1, x2, x3, x4, x5, xf⟩ := hM7
              cases z
              · go_upto_region 16 with fail
                go_quiet (fail)
                go_wp2_with fail
                go_roundg (ll - (k + 1))
                case measure => have := HKN.out; omega
                case rel => exact ⟨k + 1, K2, HKN.out, rfl, by simp, hL7.next (bdrewN (Below.refl _ _) _), HG2, HL2⟩
              · obtain ⟨e1, e2, e3, e4, e5⟩ := HSm.out rfl
                have f1 : (a.deal != x.deal) = false := by simp [e1]
                have f2 : (a.shop != no) = false := by simp [e2]
                have f5 : (x.shop != no) = false := by simp [e5]
                have hqw : ∀ W : World, (Op.equalIn 10000 69 (.agg #[.int .i64 a.c, .int .i64 a.d]) (.agg #[.int .i64 x.c, .int .i64 x.d])).run Try.prog W = .ok true W := fun W => by rw [eqWt, e3, e4]; simp
                clear e1 e2 e3 e4 e5
                go_upto_region 16 with fail
                go_quiet (fail)
                go_wp2_with fail
                go_roundg (ll - (k + 1))
                case measure => have := HKN.out; omega
                case rel => exact ⟨k + 1, K2, HKN.out, rfl, by simp, hL7.next (bdrewN (Below.refl _ _) _), HG2, HL2⟩
        · go_wp2_with fail
          go_ret
          exact ⟨rfl, hP1.below⟩
    · rw [if_neg hok] at hN
      subst hN
      clear hok
      go_wp2_with fail
      go_ret
      exact ⟨rfl, hb4⟩

end Go.Proofs.Ytbgnajcmhmpjlab
