/- The contract of ShopsOf. -/
import Derived.Test.YtbgnajcmhmpjlaaPOwn
import Derived.OwnWalk
namespace Go.Proofs.Ytbgnajcmhmpjlaa
open Go.RowKit

set_option maxRecDepth 100000 in
set_option maxHeartbeats 2000000 in
theorem shopsOf_own (la : Option Addr) (ll lc : Nat) (l : List (Int × Int)) (w : World) (hl : WantsAt w la l) (hll : l.length = ll) (hs : ll < 2 ^ 62) :
    Calls Try.prog 37 #[.slice la ll lc] w fun e w' => (∃ v, e = .returned v ∧ w'.ownsRow w.heap.size 3 1 v (shopsL l).length ((shopsL l).map (Value.int .i64))) ∧ Below w.heap.size w w' := by
  obtain ⟨i0, hi, hz0, hz1, hz2'⟩ := info_parts infoInt
  go_enter Try.func37, Try.ntmps37
  go_wp2_with fail
  go_loopg [3, 4] 3 (fun g hv i wx => ∃ k : Nat, k ≤ 3 ∧ g = 3 - k ∧ i = .int .i64 k ∧ wx.ownsRow w.heap.size 3 1 hv (shopsTo l k).length ((shopsTo l k).map (Value.int .i64)) ∧ Below w.heap.size w wx)
  case atStart => exact ⟨0, Nat.zero_le _, rfl, rfl, World.ownsRow_nil _ _ _ _, Below.refl _ _⟩
  case round =>
    obtain ⟨k, hk, rfl, rfl, hR, hB⟩ := hrel
    have HR : Hid (wr.ownsRow w.heap.size 3 1 u3 (shopsTo l k).length ((shopsTo l k).map (Value.int .i64))) := hR
    have HB : Hid _ := hB
    have hz := hB.size
    have hsl := shopsTo_length l k
    have HSL : Hid _ := hsl
    clear hsl hR hB
    by_cases hlt : k < 3
    · have j0 : (k : Int) < 3 := by omega
      have j1 : (0 : Int) ≤ (k : Int) := by omega
      go_wp2_with fail
      go_loopg [5, 6] ll (fun g h i wx => ∃ (m : Nat) (b : Bool), m ≤ ll ∧ g = ll - m ∧ i = .int .i64 m ∧ h = .bool b ∧ Hid (b = stands (l.take m) (k : Int)) ∧ (wx.ownsRow w.heap.size 3 1 u3 (shopsTo l k).length ((shopsTo l k).map (Value.int .i64)) ∧ Hid (Below w.heap.size w wx) ∧ w.heap.size ≤ wx.heap.size))
      case atStart => exact ⟨0, false, Nat.zero_le _, rfl, rfl, rfl, by simp [Hid, stands], HR.out, HB.out, hz⟩
      case round =>
        obtain ⟨m, b, hm, rfl, rfl, rfl, HM, hR2, HB2, hz2⟩ := hrel
        have HR2 : Hid (wr.ownsRow w.heap.size 3 1 u3 (shopsTo l k).length ((shopsTo l k).map (Value.int .i64))) := hR2
        clear hR2 HR HB hz
        by_cases hlt2 : m < ll
        · obtain ⟨⟨c, d⟩, hml⟩ : ∃ x, l[m]? = some x := ⟨_, List.getElem?_eq_getElem (by omega)⟩
          obtain ⟨bl, ol, rfl, hbl, hcl, -⟩ := hl m c d hml
          have hcl' : wr.cell? ⟨bl, ol + m * 2, none⟩ = some (.int .i64 c) := (HB2.out.cell (p := ⟨bl, ol + m * 2, none⟩) hbl).trans hcl
          have i1 : (0 : Int) ≤ (m : Int) := by omega
          have i2 : (m : Int) < (ll : Int) := by omega
          have i3 : (ll : Int) < 2 ^ 62 := by omega
          clear hcl hl
          cases b
          · have HM2 : Hid ((shp c == (k : Int)) = stands (l.take (m + 1)) (k : Int)) := by
              show _ = _
              rw [stands_next hml, ← HM.out, Bool.false_or]
            go_wp2_with fail
            refine (shopOf_any _ _).mono ?_
            rintro e w' ⟨rfl, rfl⟩
            go_wp2_with fail
            go_roundg (ll - (m + 1))
            case measure => omega
            case rel => exact ⟨m + 1, _, by omega, rfl, by simp, rfl, HM2, HR2.out, HB2, hz2⟩
          · have HM2 : Hid (true = stands (l.take (m + 1)) (k : Int)) := by
              show _ = _
              rw [stands_next hml, ← HM.out, Bool.true_or]
            go_wp2_with fail
            go_roundg (ll - (m + 1))
            case measure => omega
            case rel => exact ⟨m + 1, true, by omega, rfl, by simp, rfl, HM2, HR2.out, HB2, hz2⟩
        · have hmm : m = ll := by omega
          subst hmm
          have HM2 : Hid (b = stands l (k : Int)) := by
            have q := HM.out
            rw [List.take_of_length_le (l := l) (by omega)] at q
            exact q
          clear HM
          cases b
          · have HT : Hid _ := shopsTo_miss HM2.out.symm
            go_wp2_with fail
            go_roundg (3 - (k + 1))
            case measure => omega
            case rel => exact ⟨k + 1, by omega, rfl, by simp, by rw [HT.out]; exact HR2.out, HB2.out⟩
          · have HT : Hid _ := shopsTo_hit HM2.out.symm
            go_wp2_with (at_builtin; refine wpList_append_own _ rfl (.tmp 29) (.tmp 31) 32 rfl w.heap.size 3 i0 (.int .i64 0) 1 8 Try.underlying32 hi hz0 hz1 hz2' rfl (by decide) _ _ _ rfl (HR2.out.alloc _) ⟨wr.heap.size, 0, none⟩ 1 1 [.int .i64 k] rfl rfl (num_new _ (by simp)) num_cell (by have := HSL.out; unfold maxLen; omega) (by have := HSL.out; omega) (by simp; omega) ?_; intro v7 w7 hown7 hgrow7 _)
            go_roundg (3 - (k + 1))
            case measure => omega
            case rel => exact ⟨k + 1, by omega, rfl, by simp, by rw [HT.out]; simpa using hown7, own_below (HR2.out.alloc _) hgrow7 (HB2.out.alloc hz2 _) (by simp; omega) (Nat.le_refl _)⟩
    · have j0 : ¬ (k : Int) < 3 := by omega
      have hk3 : k = 3 := by omega
      subst hk3
      have HRo : Hid (wr.ownsRow w.heap.size 3 1 u3 (shopsL l).length ((shopsL l).map (Value.int .i64))) := HR.out
      go_wp2_with fail
      go_ret
      exact ⟨⟨_, rfl, HRo.out⟩, HB.out⟩
theorem shopsOf_any (la : Option Addr) (ll lc : Nat) (l : List (Int × Int)) (w : World) (hl : WantsAt w la l) (hll : l.length = ll) (hs : ll < 2 ^ 62) :
    Calls Try.prog 37 #[.slice la ll lc] w fun e w' => (∃ ga cap, e = .returned (.slice ga (shopsL l).length cap) ∧ NumsAt w' ga (shopsL l)) ∧ Below w.heap.size w w' := by
  refine (shopsOf_own la ll lc l w hl hll hs).mono ?_
  rintro e w' ⟨⟨v, rfl, hR⟩, hb⟩
  obtain ⟨ga, cap, rfl, hA, _⟩ := nums_of_own hR
  exact ⟨⟨ga, cap, rfl, hA⟩, hb⟩

end Go.Proofs.Ytbgnajcmhmpjlaa
