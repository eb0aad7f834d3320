/- The walk of PlanDoes: it answers true, whatever wants, world and number it is given. -/
import Derived.Test.YtbgnajcmhmpjlaaPBegun
import Derived.Test.YtbgnajcmhmpjlaaPApd
import Derived.Test.YtbgnajcmhmpjlaaPShOf
import Derived.Test.YtbgnajcmhmpjlaaQuiet
namespace Go.Proofs.Ytbgnajcmhmpjlaa
open Go.RowKit

theorem two_keep {b0 o0 b1 o1 : Nat} {x y : Value} {w W w1 : World} (h : W.cell? ⟨b0, o0, none⟩ = some x ∧ W.cell? ⟨b1, o1, none⟩ = some y ∧ Below w.heap.size w W) (hb : Below W.heap.size W w1) :
    w1.cell? ⟨b0, o0, none⟩ = some x ∧ w1.cell? ⟨b1, o1, none⟩ = some y ∧ Below w.heap.size w w1 := by
  obtain ⟨h0, h1, hw⟩ := h
  have l0 := World.block_lt_of_cell? W _ h0
  have l1 := World.block_lt_of_cell? W _ h1
  exact ⟨(hb.cell l0).trans h0, (hb.cell l1).trans h1, after hw hb hw.size⟩

set_option maxRecDepth 100000 in
set_option maxHeartbeats 4000000 in
theorem pdoes_walk (ws : Nat → Int) (n : Int) (la : Option Addr) (ll lc : Nat) (l : List (Int × Int)) (w : World) (hl : WantsAt w la l) (hll : l.length = ll) :
    Calls Try.prog 7 #[.slice la ll lc, .agg #[.int .i64 (ws 0), .int .i64 (ws 1), .int .i64 (ws 2), .int .i64 (ws 3), .int .i64 (ws 4), .int .i64 (ws 5)], .int .i64 n] w fun e w' => e = .returned (.bool true) ∧ Below w.heap.size w w' := by
  by_cases h50 : 50 < ll
  · have k1 : (50 : Int) < (ll : Int) := by omega
    clear hl hll h50
    go_enter Try.func7, Try.ntmps7
    go_wp2_with fail
    refine (pbegun_any _).mono ?_
    rintro e w1 ⟨rfl, hb1⟩
    go_wp2_with fail
    go_ret
    exact ⟨rfl, after (by go_grown) hb1 (by simp)⟩
  have k1 : (ll : Int) ≤ 50 := by omega
  have k2 : decide ((50 : Int) < (ll : Int)) = false := by simp; omega
  go_enter Try.func7, Try.ntmps7
  go_wp2_with fail
  refine (pbegun_any _).mono ?_
  rintro e w1 ⟨rfl, hb1⟩
  have hX1 := (BoxAt.new w [.int .i64 (ws 0), .int .i64 (ws 1), .int .i64 (ws 2), .int .i64 (ws 3), .int .i64 (ws 4), .int .i64 (ws 5)] 39).next hb1
  have hw1 : Below w.heap.size w w1 := after (by go_grown) hb1 (by simp)
  clear hb1
  go_wp2_with fail
  go_loopg [7] ll (fun g i wr => ∃ k : Nat, k ≤ ll ∧ g = ll - k ∧ i = .int .i64 k ∧ BoxAt wr w.heap.size [.int .i64 (ws 0), .int .i64 (ws 1), .int .i64 (ws 2), .int .i64 (ws 3), .int .i64 (ws 4), .int .i64 (ws 5)] ∧ Below w.heap.size w wr)
  case atStart => exact ⟨0, Nat.zero_le _, rfl, rfl, hX1, hw1⟩
  case round =>
    obtain ⟨k, hk, rfl, rfl, hX, hB⟩ := hrel
    clear hX1 hw1
    by_cases hlt : k < ll
    · obtain ⟨⟨c, d⟩, hkl⟩ : ∃ x, l[k]? = some x := ⟨_, List.getElem?_eq_getElem (by omega)⟩
      obtain ⟨bl, ol, rfl, hbl, hcl, hdl⟩ := hl k c d hkl
      have j0 : (0 : Int) ≤ (k : Int) := by omega
      have j1 : (k : Int) < (ll : Int) := by omega
      have hcl' : wr.cell? ⟨bl, ol + k * 2, none⟩ = some (.int .i64 c) := (hB.cell (p := ⟨bl, ol + k * 2, none⟩) hbl).trans hcl
      have hdl' : wr.cell? ⟨bl, ol + k * 2 + 1, none⟩ = some (.int .i64 d) := (hB.cell (p := ⟨bl, ol + k * 2 + 1, none⟩) hbl).trans hdl
      clear hcl hdl hl
      go_wp2_with fail
      refine region_class (C := fun w' => w'.cell? ⟨bl, ol + k * 2, none⟩ = some (.int .i64 c) ∧ w'.cell? ⟨bl, ol + k * 2 + 1, none⟩ = some (.int .i64 d) ∧ Below wr.heap.size wr w') (by kernel_rfl) (by kernel_rfl) (two_keep ⟨hcl', hdl', Below.refl _ _⟩ (Below.refl _ _).drew) ?_
      repeat (first
        | go_big_quiet_skip
        | (go_big_quiet_want
           refine q_val (v := ?_) (fun w' hS => ?_) ?_
           rotate_left
           focus
             go_simp
             all_goals (with_reducible rfl)
           go_big_quiet_on
           (try simp only [Act.put, List.setIfInBounds_toArray, List.set_cons_zero, List.set_cons_succ]))
        | (go_big_quiet_want
           refine q_call (v := ?_) (f := ?_) (args := ?_) (fun w' hS => ?_) (fun w' hS => ?_) ?_
           rotate_left 3
           focus
             go_simp
             constructor <;> with_reducible rfl
           focus
             first
               | (go_at_call 27
                  refine (want_any _ _ _).mono ?_
                  rintro e w7 ⟨rfl, hb7⟩
                  refine ⟨?_, two_keep hS hb7⟩
                  with_reducible rfl)
               | (go_at_call 28
                  refine (wantFault_any _ _ _).mono ?_
                  rintro e w7 ⟨rfl, hb7⟩
                  refine ⟨?_, two_keep hS hb7⟩
                  with_reducible rfl)
           go_big_quiet_on
           (try simp only [Act.put, List.setIfInBounds_toArray, List.set_cons_zero, List.set_cons_succ])))
      refine wpQuiet_nil ?_
      intro w8 hC8
      have hX8 := hX.next hC8.2.2
      have hB8 := after hB hC8.2.2 hB.size
      clear hC8 hcl' hdl' hX
      go_wp2_with fail
      go_roundg (ll - (k + 1))
      case measure => omega
      case rel => exact ⟨k + 1, by omega, rfl, by simp, hX8, hB8⟩
    · have hkk : k = ll := by omega
      subst hkk
      have x0 := hX.2 0 _ rfl
      have x1 := hX.2 1 _ rfl
      have x2 := hX.2 2 _ rfl
      have x3 := hX.2 3 _ rfl
      have x4 := hX.2 4 _ rfl
      have x5 := hX.2 5 _ rfl
      have HA : Hid (∀ W : World, Below w.heap.size w W → _) := fun W h => apply_any ws la k lc l W (hl.below h (Nat.le_refl _)) hll
      have HD : Hid (∀ W : World, Below w.heap.size w W → _) := fun W h => applied_any ws la k lc l W (hl.below h (Nat.le_refl _)) hll
      generalize appW ws l = r at HA HD
      have hq := eq6
      go_wp2_with fail
      refine (HA.out _ hB).mono ?_
      rintro e w2 ⟨rfl, hb2⟩
      have hX2 := hX.next hb2
      have hB2 := after hB hb2 hB.size
      clear hb2 hX x0 x1 x2 x3 x4 x5 hB
      have x0 := hX2.2 0 _ rfl
      have x1 := hX2.2 1 _ rfl
      have x2 := hX2.2 2 _ rfl
      have x3 := hX2.2 3 _ rfl
      have x4 := hX2.2 4 _ rfl
      have x5 := hX2.2 5 _ rfl
      have hlt2 := hX2.1
      go_wp2_with fail
      obtain ⟨hY, hG, q1⟩ := pair_new w2 [.int .i64 (r.1 0), .int .i64 (r.1 1), .int .i64 (r.1 2), .int .i64 (r.1 3), .int .i64 (r.1 4), .int .i64 (r.1 5)] [.int .i64 r.2.1, .int .i64 r.2.2] 39 44
      have hX3 := hX2.next q1
      have hB3 := after hB2 q1 hB2.size
      clear q1 hX2 x0 x1 x2 x3 x4 x5 hB2 hlt2
      generalize (w2.alloc (.cells #[.int .i64 (r.1 0), .int .i64 (r.1 1), .int .i64 (r.1 2), .int .i64 (r.1 3), .int .i64 (r.1 4), .int .i64 (r.1 5)] 39)).alloc (.cells #[.int .i64 r.2.1, .int .i64 r.2.2] 44) = W3 at hY hG hX3 hB3 ⊢
      have x0 := hX3.2 0 _ rfl
      have x1 := hX3.2 1 _ rfl
      have x2 := hX3.2 2 _ rfl
      have x3 := hX3.2 3 _ rfl
      have x4 := hX3.2 4 _ rfl
      have x5 := hX3.2 5 _ rfl
      refine (HD.out _ hB3).mono ?_
      rintro e w3 ⟨rfl, hb3⟩
      have hY4 := hY.next hb3
      have hG4 := hG.next hb3
      have hB4 := after hB3 hb3 hB3.size
      generalize w2.heap.size = b2 at hY4 hG4 ⊢
      clear hb3 hX3 x0 x1 x2 x3 x4 x5 hB3 hY hG
      go_wp2_with fail
      obtain ⟨hY5, hG5, q1⟩ := pair_new w3 [.int .i64 (r.1 0), .int .i64 (r.1 1), .int .i64 (r.1 2), .int .i64 (r.1 3), .int .i64 (r.1 4), .int .i64 (r.1 5)] [.int .i64 r.2.1, .int .i64 r.2.2] 39 44
      have hY6 := hY4.next q1
      have hG6 := hG4.next q1
      have hB5 := after hB4 q1 hB4.size
      clear q1 hY4 hG4 hB4
      generalize (w3.alloc (.cells #[.int .i64 (r.1 0), .int .i64 (r.1 1), .int .i64 (r.1 2), .int .i64 (r.1 3), .int .i64 (r.1 4), .int .i64 (r.1 5)] 39)).alloc (.cells #[.int .i64 r.2.1, .int .i64 r.2.2] 44) = W5 at hY5 hG5 hY6 hG6 hB5 ⊢
      generalize w3.heap.size = b3 at hY5 hG5 ⊢
      clear HA HD
      refine (shop_any _ _).mono ?_
      rintro e w' ⟨rfl, rfl⟩
      go_wp2_with fail
      refine (shopOf_any _ _).mono ?_
      rintro e w' ⟨rfl, rfl⟩
      go_wp2_with fail
      refine (pcheck_any _ _ _ l _ (hl.below hB5 (Nat.le_refl _)) hll).mono ?_
      rintro e w6 ⟨rfl, hb6⟩
      have hB6 := after hB5 hb6 hB5.size
      go_wp2_with fail
      refine (wantsFault_any _ _ _ l _ (hl.below hB6 (Nat.le_refl _)) hll).mono ?_
      rintro e w7 ⟨rfl, hb7⟩
      have hB7 := after hB6 hb7 hB6.size
      go_wp2_with fail
      refine (shops_any _ _ _ l _ (hl.below hB7 (Nat.le_refl _)) hll (by omega)).mono ?_
      rintro e w8 ⟨⟨g1, cap1, rfl, hN1⟩, hb8⟩
      have hB8 := after hB7 hb8 hB7.size
      go_wp2_with fail
      refine (shopsOf_any _ _ _ l _ (hl.below hB8 (Nat.le_refl _)) hll (by omega)).mono ?_
      rintro e w9 ⟨⟨g2, cap2, rfl, hN2⟩, hb9⟩
      have hB9 := after hB8 hb9 hB8.size
      go_wp2_with fail
      refine (sameInts_any _ _ _ _ _ _ (shopsL l) (shopsL l) _ (hN1.below hb9 (Nat.le_refl _)) hN2 rfl rfl (by have := shopsTo_length l 3; unfold shopsL; omega)).mono ?_
      rintro e wA ⟨rfl, hbA⟩
      have hBA := after hB9 hbA hB9.size
      have hT : decide (shopsL l = shopsL l) = true := decide_eq_true rfl
      have hY7 := ((((hY5.next hb6).next hb7).next hb8).next hb9).next hbA
      have hG7 := ((((hG5.next hb6).next hb7).next hb8).next hb9).next hbA
      have hY8 := ((((hY6.next hb6).next hb7).next hb8).next hb9).next hbA
      have hG8 := ((((hG6.next hb6).next hb7).next hb8).next hb9).next hbA
      have y0 := hY7.2 0 _ rfl
      have y1 := hY7.2 1 _ rfl
      have y2 := hY7.2 2 _ rfl
      have y3 := hY7.2 3 _ rfl
      have y4 := hY7.2 4 _ rfl
      have y5 := hY7.2 5 _ rfl
      have z0 := hY8.2 0 _ rfl
      have z1 := hY8.2 1 _ rfl
      have z2 := hY8.2 2 _ rfl
      have z3 := hY8.2 3 _ rfl
      have z4 := hY8.2 4 _ rfl
      have z5 := hY8.2 5 _ rfl
      have f0 := hG7.2 0 _ rfl
      have f1 := hG7.2 1 _ rfl
      have g0 := hG8.2 0 _ rfl
      have g1 := hG8.2 1 _ rfl
      clear hb6 hb7 hb8 hb9 hbA hB5 hB6 hB7 hB8 hB9 hN1 hN2 hY5 hY6 hG5 hG6 hY7 hY8 hG7 hG8
      rw [hT]
      clear hT
      go_wp2_with fail
      go_ret
      exact ⟨rfl, hBA⟩

end Go.Proofs.Ytbgnajcmhmpjlaa
