/- The contract of plan.Shops. -/
import Derived.Test.YtbgnajcmhmpjlabPOwn
import Derived.OwnWalk
namespace Go.Proofs.Ytbgnajcmhmpjlab
open Go.RowKit

/-- Shops' memory at its first loop's head: which shops are wanted. -/
structure SSt (B : Nat) (w : World) (s : Int → Bool) (wr : World) : Prop where
  row : ∀ j : Nat, j < 3 → wr.cell? ⟨B, j, none⟩ = some (.bool (s j))
  f0 : ∀ k, wr.frozen? ⟨B, k, none⟩ = false
  below : Below B w wr
  lt : B < wr.heap.size

theorem SSt.next {B : Nat} {w wr wx : World} {s : Int → Bool} (h : SSt B w s wr) (hb : Below wr.heap.size wr wx) : SSt B w s wx := by
  have hlt := h.lt
  have := hb.size
  exact ⟨fun j hj => ((bcell hb).1 _ _ h.lt).trans (h.row j hj), loose B hb h.lt h.f0, after h.below hb (by omega), by omega⟩

theorem SSt.set {B : Nat} {w wr : World} {s : Int → Bool} (h : SSt B w s wr) (n : Nat) : SSt B w (fun j => s j || (n : Int) == j) (wr.setCell ⟨B, n, none⟩ (.bool true)) := by
  refine ⟨?_, by simpa [go_sem] using h.f0, h.below.setCell (by simp) _, by simpa using h.lt⟩
  intro j hj
  by_cases e : j = n
  · subst e
    rw [World.cell?_setCell_same _ _ _ (h.row j hj)]
    simp
  · rw [World.cell?_setCell_other _ _ _ _ (by intro e'; simp only [Addr.mk.injEq] at e'; omega), h.row j hj]
    have : ((n : Int) == (j : Int)) = false := by simp; omega
    rw [this, Bool.or_false]

theorem idx3 (b0 b1 b2 : Bool) (W : World) : (Instr.index 138 (.agg #[.bool b0, .bool b1, .bool b2]) (.int .i64 0)).run Try.prog W = .ok (.bool b0) W ∧ (Instr.index 138 (.agg #[.bool b0, .bool b1, .bool b2]) (.int .i64 1)).run Try.prog W = .ok (.bool b1) W ∧ (Instr.index 138 (.agg #[.bool b0, .bool b1, .bool b2]) (.int .i64 2)).run Try.prog W = .ok (.bool b2) W := by
  refine ⟨?_, ?_, ?_⟩ <;> simp [Instr.index, run_underlying Try.underlying138, asIntOf, go_sem]

set_option maxRecDepth 100000 in
set_option maxHeartbeats 2000000 in
theorem shops_any (la : Option Addr) (ll lc : Nat) (l : List (Int × Int)) (w : World) (hl : WantsAt w la l) (hll : l.length = ll) (hs : ll < 2 ^ 62) :
    Calls Try.prog 60 #[.slice la ll lc] w fun e w' => (∃ ga cap, e = .returned (.slice ga (shopsL l).length cap) ∧ NumsAt w' ga (shopsL l)) ∧ Below w.heap.size w w' := by
  obtain ⟨i0, hi, hz0, hz1, hz2⟩ := info_parts infoInt
  go_enter Try.func60, Try.ntmps60
  go_wp2_with fail
  go_loopg [12] ll (fun g i wr => ∃ k : Nat, k ≤ ll ∧ g = ll - k ∧ i = .int .i64 k ∧ SSt w.heap.size w (stands (l.take k)) wr)
  case atStart =>
    refine ⟨0, Nat.zero_le _, rfl, rfl, ?_, by simp [go_sem], by go_grown, by simp⟩
    intro j hj
    have : j = 0 ∨ j = 1 ∨ j = 2 := by omega
    rcases this with rfl | rfl | rfl <;> simp [go_sem, stands]
  case round =>
    obtain ⟨k, hk, rfl, rfl, hS⟩ := hrel
    have hlt0 := hS.lt
    by_cases hlt : k < ll
    · obtain ⟨⟨c, d⟩, hkl⟩ : ∃ x, l[k]? = some x := ⟨_, List.getElem?_eq_getElem (by omega)⟩
      obtain ⟨bl, ol, rfl, hbl, hcl, hdl⟩ := hl k c d hkl
      have j0 : (0 : Int) ≤ (k : Int) := by omega
      have j1 : (k : Int) < (ll : Int) := by omega
      have j2 : (ll : Int) < 2 ^ 62 := by omega
      have hcl' : wr.cell? ⟨bl, ol + k * 2, none⟩ = some (.int .i64 c) := (hS.below.cell (p := ⟨bl, ol + k * 2, none⟩) hbl).trans hcl
      have hdl' : wr.cell? ⟨bl, ol + k * 2 + 1, none⟩ = some (.int .i64 d) := (hS.below.cell (p := ⟨bl, ol + k * 2 + 1, none⟩) hbl).trans hdl
      clear hcl hdl hl
      by_cases hc : shp c < 0
      · have hcm : shp c = -1 := by unfold shp at hc ⊢; repeat' split
                                    all_goals first | rfl | (exfalso; revert hc; repeat' split
                                                             all_goals omega)
        have HCM : Hid _ := hcm
        clear hcm
        have hcq : ∀ j : Nat, ¬ shp c = (j : Int) := fun j => by omega
        have HQ : Hid (∀ j : Nat, stands (l.take (k + 1)) (j : Int) = stands (l.take k) (j : Int)) := by
          intro j
          rw [stands_next hkl]
          have : (shp c == (j : Int)) = false := by simpa using hcq j
          rw [this, Bool.or_false]
        clear hcq hc
        go_wp2_with fail
        refine (shop_any _ _).mono ?_
        rw [HCM.out]
        rintro e w' ⟨rfl, rfl⟩

        go_wp2_with fail
        go_roundg (ll - (k + 1))
        case measure => omega
        case rel =>
          have hS2 := hS.next ((Below.refl _ _).alloc (Nat.le_refl _) (.cells #[.int .i64 c, .int .i64 d] 69))
          exact ⟨k + 1, by omega, rfl, by simp, fun j hj => by rw [HQ.out]; exact hS2.row j hj, hS2.f0, hS2.below, hS2.lt⟩
      · obtain ⟨n, hn⟩ := Int.eq_ofNat_of_zero_le (show 0 ≤ shp c by omega)
        have hn3 : n < 3 := by have := shp_lt c; omega
        have HQ : Hid (∀ j : Nat, stands (l.take (k + 1)) (j : Int) = (stands (l.take k) (j : Int) || (n : Int) == (j : Int))) := by
          intro j
          rw [stands_next hkl, hn]
        have HN : Hid _ := hn
        have rn := hS.row n hn3
        have g0 := hS.f0
        clear hn hc
        go_wp2_with fail
        refine (shop_any _ _).mono ?_
        rw [HN.out]
        rintro e w' ⟨rfl, rfl⟩
        go_wp2_with fail
        go_roundg (ll - (k + 1))
        case measure => omega
        case rel =>
          have hS2 := (hS.set n).next ((Below.refl _ _).alloc (Nat.le_refl _) (.cells #[.int .i64 c, .int .i64 d] 69))
          exact ⟨k + 1, by omega, rfl, by simp, fun j hj => by rw [HQ.out]; exact hS2.row j hj, hS2.f0, hS2.below, hS2.lt⟩
    · have hkk : k = ll := by omega
      subst hkk
      have a0 := hS.row 0 (by omega)
      have a1 := hS.row 1 (by omega)
      have a2 := hS.row 2 (by omega)
      rw [List.take_of_length_le (by omega)] at a0 a1 a2
      have HS : Hid _ := hS.below
      clear hS hl
      go_wp2_with fail
      go_loopg [7, 25] 3 (fun g hv i wx => ∃ m : Nat, m ≤ 3 ∧ g = 3 - m ∧ i = .int .i64 m ∧ wx.ownsRow (w.heap.size + 1) 3 1 hv (shopsTo l m).length ((shopsTo l m).map (Value.int .i64)) ∧ Below w.heap.size w wx ∧ w.heap.size < wx.heap.size)
      case atStart => exact ⟨0, Nat.zero_le _, rfl, rfl, World.ownsRow_nil _ _ _ _, HS.out, hlt0⟩
      case round =>
        obtain ⟨m, hm, rfl, rfl, hR, hB, hz⟩ := hrel
        clear a0 a1 a2
        have hq : m = 0 ∨ m = 1 ∨ m = 2 ∨ m = 3 := by omega
        have hsl := shopsTo_length l m
        have HSL : Hid _ := hsl
        clear hsl
        rcases hq with rfl | rfl | rfl | rfl
        · by_cases hb : stands l (0 : Nat) = true
          · have HR : Hid (wr.ownsRow (w.heap.size + 1) 3 1 u7 (shopsTo l 0).length ((shopsTo l 0).map (Value.int .i64))) := hR
            have HB : Hid _ := hB
            have HT : Hid _ := shopsTo_hit hb
            have hix : ∀ W : World, (Instr.index 138 (.agg #[.bool (stands l 0), .bool (stands l 1), .bool (stands l 2)]) (.int .i64 0)).run Try.prog W = .ok (.bool true) W := fun W => by rw [(idx3 _ _ _ W).1, show stands l 0 = true from hb]
            clear hR hB hb
            go_wp2_with (at_builtin; refine wpList_append_own _ rfl (.tmp 30) (.tmp 32) 42 rfl (w.heap.size + 1) 3 i0 (.int .i64 0) 1 8 Try.underlying42 hi hz0 hz1 hz2 rfl (by decide) _ _ _ rfl (HR.out.alloc _) ⟨wr.heap.size, 0, none⟩ 1 1 [.int .i64 0] rfl rfl (num_new _ (by simp)) num_cell (by have := HSL.out; unfold maxLen; omega) (by have := HSL.out; omega) (by simp; omega) ?_; intro v7 w7 hown7 hgrow7 _)
            go_roundg (3 - (0 + 1))
            case measure => omega
            case rel => exact ⟨_, by omega, rfl, rfl, by rw [HT.out]; simpa using hown7, own_below (HR.out.alloc _) hgrow7 (HB.out.alloc (Nat.le_of_lt hz) _) (by simp; omega) (Nat.le_succ _), by have := hgrow7.size; simp at this; omega⟩
          · have HT : Hid _ := shopsTo_miss (Bool.eq_false_iff.2 hb)
            have hix : ∀ W : World, (Instr.index 138 (.agg #[.bool (stands l 0), .bool (stands l 1), .bool (stands l 2)]) (.int .i64 0)).run Try.prog W = .ok (.bool false) W := fun W => by rw [(idx3 _ _ _ W).1, show stands l 0 = false from Bool.eq_false_iff.2 hb]
            clear hb
            go_wp2_with fail
            go_roundg (3 - (0 + 1))
            case measure => omega
            case rel => exact ⟨0 + 1, by omega, rfl, by simp, by rw [HT.out]; exact hR, hB, hz⟩
        · by_cases hb : stands l (1 : Nat) = true
          · have HR : Hid (wr.ownsRow (w.heap.size + 1) 3 1 u7 (shopsTo l 1).length ((shopsTo l 1).map (Value.int .i64))) := hR
            have HB : Hid _ := hB
            have HT : Hid _ := shopsTo_hit hb
            have hix : ∀ W : World, (Instr.index 138 (.agg #[.bool (stands l 0), .bool (stands l 1), .bool (stands l 2)]) (.int .i64 1)).run Try.prog W = .ok (.bool true) W := fun W => by rw [(idx3 _ _ _ W).2.1, show stands l 1 = true from hb]
            clear hR hB hb
            go_wp2_with (at_builtin; refine wpList_append_own _ rfl (.tmp 30) (.tmp 32) 42 rfl (w.heap.size + 1) 3 i0 (.int .i64 0) 1 8 Try.underlying42 hi hz0 hz1 hz2 rfl (by decide) _ _ _ rfl (HR.out.alloc _) ⟨wr.heap.size, 0, none⟩ 1 1 [.int .i64 1] rfl rfl (num_new _ (by simp)) num_cell (by have := HSL.out; unfold maxLen; omega) (by have := HSL.out; omega) (by simp; omega) ?_; intro v7 w7 hown7 hgrow7 _)
            go_roundg (3 - (1 + 1))
            case measure => omega
            case rel => exact ⟨_, by omega, rfl, rfl, by rw [HT.out]; simpa using hown7, own_below (HR.out.alloc _) hgrow7 (HB.out.alloc (Nat.le_of_lt hz) _) (by simp; omega) (Nat.le_succ _), by have := hgrow7.size; simp at this; omega⟩
          · have HT : Hid _ := shopsTo_miss (Bool.eq_false_iff.2 hb)
            have hix : ∀ W : World, (Instr.index 138 (.agg #[.bool (stands l 0), .bool (stands l 1), .bool (stands l 2)]) (.int .i64 1)).run Try.prog W = .ok (.bool false) W := fun W => by rw [(idx3 _ _ _ W).2.1, show stands l 1 = false from Bool.eq_false_iff.2 hb]
            clear hb
            go_wp2_with fail
            go_roundg (3 - (1 + 1))
            case measure => omega
            case rel => exact ⟨1 + 1, by omega, rfl, by simp, by rw [HT.out]; exact hR, hB, hz⟩
        · by_cases hb : stands l (2 : Nat) = true
          · have HR : Hid (wr.ownsRow (w.heap.size + 1) 3 1 u7 (shopsTo l 2).length ((shopsTo l 2).map (Value.int .i64))) := hR
            have HB : Hid _ := hB
            have HT : Hid _ := shopsTo_hit hb
            have hix : ∀ W : World, (Instr.index 138 (.agg #[.bool (stands l 0), .bool (stands l 1), .bool (stands l 2)]) (.int .i64 2)).run Try.prog W = .ok (.bool true) W := fun W => by rw [(idx3 _ _ _ W).2.2, show stands l 2 = true from hb]
            clear hR hB hb
            go_wp2_with (at_builtin; refine wpList_append_own _ rfl (.tmp 30) (.tmp 32) 42 rfl (w.heap.size + 1) 3 i0 (.int .i64 0) 1 8 Try.underlying42 hi hz0 hz1 hz2 rfl (by decide) _ _ _ rfl (HR.out.alloc _) ⟨wr.heap.size, 0, none⟩ 1 1 [.int .i64 2] rfl rfl (num_new _ (by simp)) num_cell (by have := HSL.out; unfold maxLen; omega) (by have := HSL.out; omega) (by simp; omega) ?_; intro v7 w7 hown7 hgrow7 _)
            go_roundg (3 - (2 + 1))
            case measure => omega
            case rel => exact ⟨_, by omega, rfl, rfl, by rw [HT.out]; simpa using hown7, own_below (HR.out.alloc _) hgrow7 (HB.out.alloc (Nat.le_of_lt hz) _) (by simp; omega) (Nat.le_succ _), by have := hgrow7.size; simp at this; omega⟩
          · have HT : Hid _ := shopsTo_miss (Bool.eq_false_iff.2 hb)
            have hix : ∀ W : World, (Instr.index 138 (.agg #[.bool (stands l 0), .bool (stands l 1), .bool (stands l 2)]) (.int .i64 2)).run Try.prog W = .ok (.bool false) W := fun W => by rw [(idx3 _ _ _ W).2.2, show stands l 2 = false from Bool.eq_false_iff.2 hb]
            clear hb
            go_wp2_with fail
            go_roundg (3 - (2 + 1))
            case measure => omega
            case rel => exact ⟨2 + 1, by omega, rfl, by simp, by rw [HT.out]; exact hR, hB, hz⟩
        · go_wp2_with fail
          obtain ⟨ga, cap, rfl, hA, hlen⟩ := nums_of_own hR
          go_ret
          exact ⟨⟨ga, cap, rfl, hA⟩, hB⟩

end Go.Proofs.Ytbgnajcmhmpjlab
