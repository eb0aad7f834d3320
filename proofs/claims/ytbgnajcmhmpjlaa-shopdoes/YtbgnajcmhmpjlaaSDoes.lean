/- The walk of ShopDoes: it answers true, whatever shop, world, steps and deal it is given. -/
import Derived.Test.YtbgnajcmhmpjlaaBShops
namespace Go.Proofs.Ytbgnajcmhmpjlaa
open Go.RowKit

set_option maxHeartbeats 8000000 in
set_option maxRecDepth 100000 in
theorem sdoes_walk (no : Int) (ws : Nat → Int) (la : Option Addr) (ll lc : Nat) (l : List Stp) (deal : Int) (w : World) (hl : StepsAt w la l) (hll : l.length = ll) :
    Calls Try.prog 11 #[.int .i64 no, .agg #[.int .i64 (ws 0), .int .i64 (ws 1), .int .i64 (ws 2), .int .i64 (ws 3), .int .i64 (ws 4), .int .i64 (ws 5)], .slice la ll lc, .int .i64 deal] w fun e w' => e = .returned (.bool true) ∧ Below w.heap.size w w' := by
  by_cases hbig : 150 < ll
  · have hbig' : (150 : Int) < (ll : Int) := by omega
    clear hl hll hbig
    go_enter Try.func11, Try.ntmps11
    go_wp2_with fail
    refine (sbegun_any _).mono ?_
    rintro e w1 ⟨rfl, hb1⟩
    go_wp2_with fail
    go_ret
    exact ⟨rfl, after (by go_grown) hb1 (by simp)⟩
  · have hbig' : ¬ (150 : Int) < (ll : Int) := by omega
    have HB : Hid (ll ≤ 150) := by show _ ≤ _; omega
    clear hbig
    go_enter Try.func11, Try.ntmps11
    go_wp2_with fail
    refine (sbegun_any _).mono ?_
    rintro e w1 ⟨rfl, hb1⟩
    have hX := (box_new6 w ws 39).next hb1
    have hb2 : Below w.heap.size w w1 := after (by go_grown) hb1 (by simp)
    have x0 := hX.2 0 _ rfl
    have x1 := hX.2 1 _ rfl
    have x2 := hX.2 2 _ rfl
    have x3 := hX.2 3 _ rfl
    have x4 := hX.2 4 _ rfl
    have x5 := hX.2 5 _ rfl
    have HT : Hid (StepsAt w1 la l) := hl.below hb2 (Nat.le_refl _)
    clear hb1 hX hl
    go_wp2_with fail
    refine Calls.mono (bshops_any no ws la ll lc l w1 HT.out hll HB.out) ?_
    rintro e w2 ⟨hN, hb3⟩
    have hb4 : Below w.heap.size w w2 := after hb2 hb3 hb2.size
    clear x0 x1 x2 x3 x4 x5 HT
    unfold ShopsIs at hN
    by_cases hok : newOk no ws = true
    · rw [if_pos hok] at hN
      obtain ⟨p, q, A, rfl, hBo, hG, hlh, hle⟩ := hN
      have HG : Hid (Good A) := hG
      have HLen : Hid (A.hs.length ≤ 150 ∧ A.es.length ≤ 150) := by have := HB.out; exact ⟨by omega, by omega⟩
      have HB4 : Hid (Below w.heap.size w w2) := hb4
      obtain ⟨O1, O2, h1, h2, _⟩ := hBo.inn
      have HI1 : Hid (ShopIn O1 w2 p A) := h1
      have HI2 : Hid (BoothIn O2 w2 q A) := h2
      clear hok hG hlh hle hBo h1 h2 hb2 hb3 hb4
      go_wp2_with fail
      refine Calls.mono (sover_any O1 A p deal w2 HI1.out HG.out) ?_
      rintro e w3 ⟨rfl, hb3⟩
      have HI3 : Hid (ShopIn O1 w3 p A ∧ BoothIn O2 w3 q A) := ⟨HI1.out.next hb3, HI2.out.next hb3⟩
      have HB3 : Hid (Below w.heap.size w w3) := after HB4.out hb3 HB4.out.size
      clear HI1 HI2 HB4 hb3
      go_wp2_with fail
      refine Calls.mono (bover_any O2 A q deal w3 HI3.out.2 (by have := HLen.out; omega)) ?_
      rintro e w4 ⟨rfl, hb4⟩
      have HI4 : Hid (ShopIn O1 w4 p A ∧ BoothIn O2 w4 q A) := ⟨HI3.out.1.next hb4, HI3.out.2.next hb4⟩
      have HB4 : Hid (Below w.heap.size w w4) := after HB3.out hb4 HB3.out.size
      clear HI3 HB3 hb4
      generalize ovB A.es deal = bo at *
      generalize dnB A.es deal = bd at *
      obtain ⟨hv, ov, dv, hR, hrow, _⟩ := HI4.out.2.raw
      obtain ⟨ga, cap, rfl, hH, _⟩ := holds_of_own hrow
      have hql := hR.lt
      have c3 := hR.c3
      have HH : Hid (HoldsAt w4 ga A.hs) := hH
      have HK : Hid (∀ w', Below w4.heap.size w4 w' → w'.cell? ⟨q, 3, none⟩ = some (.slice ga A.hs.length cap) ∧ Below w4.heap.size w4 w') := fun w' hb => ⟨((bcell hb).1 _ _ hql).trans c3, hb⟩
      have HC1 : Hid (∀ W : World, Below w4.heap.size w4 W → Calls Try.prog 43 #[.pointer (some ⟨p, 0, none⟩)] W fun e w' => e = .returned (.agg #[.int .i64 (cnt6 A 0), .int .i64 (cnt6 A 1), .int .i64 (cnt6 A 2), .int .i64 (cnt6 A 3), .int .i64 (cnt6 A 4), .int .i64 (cnt6 A 5)]) ∧ Below W.heap.size W w') := fun W hW => scounts_any O1 A p W (HI4.out.1.next hW)
      have HC2 : Hid (∀ W : World, Below w4.heap.size w4 W → Calls Try.prog 44 #[.pointer (some ⟨q, 0, none⟩)] W fun e w' => e = .returned (.agg #[.int .i64 (cnt6 A 0), .int .i64 (cnt6 A 1), .int .i64 (cnt6 A 2), .int .i64 (cnt6 A 3), .int .i64 (cnt6 A 4), .int .i64 (cnt6 A 5)]) ∧ Below W.heap.size W w') := fun W hW => bcounts_any O2 A q W (HI4.out.2.next hW) HG.out (by have := HLen.out; omega)
      have HC3 : Hid (∀ W : World, Below w4.heap.size w4 W → Calls Try.prog 46 #[.pointer (some ⟨p, 0, none⟩)] W fun e w' => (∃ gb cap, e = .returned (.slice gb A.hs.length cap) ∧ HoldsAt w' gb A.hs) ∧ Below W.heap.size W w') := fun W hW => (sholds_any O1 A p W (HI4.out.1.next hW) (by have := HLen.out; omega)).mono (fun e w' h => by
        obtain ⟨⟨gb, capb, e1, e2, _⟩, e3⟩ := h
        exact ⟨⟨gb, capb, e1, e2⟩, e3⟩)
      have HC4 : Hid (∀ (W W' : World) (gb : Option Addr) (capb : Nat), Below w4.heap.size w4 W → HoldsAt W gb A.hs → Below W.heap.size W W' → Calls Try.prog 45 #[.slice gb A.hs.length capb, .slice ga A.hs.length cap] W' fun e w' => e = .returned (.bool true) ∧ Below W'.heap.size W' w') := fun W W' gb capb hW hB hW' => (sameHolds_any gb ga _ _ capb cap A.hs A.hs W' (hB.below hW' (Nat.le_refl _)) ((HH.out.below hW (Nat.le_refl _)).below hW' (Nat.le_refl _)) rfl rfl (by have := HLen.out; omega)).mono (fun e w' h => ⟨by rw [h.1]; exact ret_bool (decide_eq_true rfl), h.2⟩)
      have hq1 : ∀ W : World, (Op.equalIn 10000 61 (.agg #[.int .i64 (cnt6 A 0), .int .i64 (cnt6 A 1), .int .i64 (cnt6 A 2), .int .i64 (cnt6 A 3), .int .i64 (cnt6 A 4), .int .i64 (cnt6 A 5)]) (.agg #[.int .i64 (cnt6 A 0), .int .i64 (cnt6 A 1), .int .i64 (cnt6 A 2), .int .i64 (cnt6 A 3), .int .i64 (cnt6 A 4), .int .i64 (cnt6 A 5)])).run Try.prog W = .ok true W := fun W => by rw [eqC]; simp
      clear hR hrow hH c3
      go_upto_region 10 with fail
      go_region_held3 (fun w' => w'.cell? ⟨q, 3, none⟩ = some (.slice ga A.hs.length cap) ∧ Below w4.heap.size w4 w')
        (first | exact HK.out _ (by go_grown))
        (first | (go_at_call 43; refine Calls.mono (HC1.out _ (by go_grown)) ?_; rintro e w9 ⟨rfl, hb9⟩; have hw9 : Below w4.heap.size w4 w9 := after (by go_grown) hb9 (by simp); have hz9 : w4.heap.size ≤ w9.heap.size := hw9.size) | (go_at_call 44; refine Calls.mono (HC2.out _ (by go_grown)) ?_; rintro e w10 ⟨rfl, hb10⟩; have hw10 : Below w4.heap.size w4 w10 := after hw9 hb10 hz9; have hz10 : w4.heap.size ≤ w10.heap.size := hw10.size) | (go_at_call 46; refine Calls.mono (HC3.out _ (by go_grown)) ?_; rintro e w11 ⟨⟨gb, capb, rfl, hAB⟩, hb11⟩; have HAB : Hid (HoldsAt w11 gb A.hs) := hAB; clear hAB; have hw11 : Below w4.heap.size w4 w11 := after hw10 hb11 hz10; have hz11 : w4.heap.size ≤ w11.heap.size := hw11.size) | (go_at_call 45; refine Calls.mono (HC4.out w11 _ gb capb hw11 HAB.out (by go_grown)) ?_; rintro e w12 ⟨rfl, hb12⟩; have hw12 : Below w4.heap.size w4 w12 := after hw11 hb12 hz11; have hz12 : w4.heap.size ≤ w12.heap.size := hw12.size))
      all_goals
        go_wp2_with fail
        go_ret
        exact ⟨by simp, after HB4.out (by go_grown) HB4.out.size⟩
    · rw [if_neg hok] at hN
      subst hN
      go_wp2_with fail
      go_ret
      exact ⟨rfl, hb4⟩

end Go.Proofs.Ytbgnajcmhmpjlaa
