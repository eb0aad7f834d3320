/- The contracts of ShopOf and WantFault. -/
import Derived.Test.YtbgnajcmhmpjlabPW1
import Derived.Deep.LoopGhost
import Derived.Deep.DeepCutAuto
import Derived.Deep.QuietTactic
import Derived.BigQuiet
namespace Go.Proofs.Ytbgnajcmhmpjlab
open Go.RowKit

theorem bdrewN {B : Nat} {a w : World} (h : Below B a w) (n : Nat) : Below B a (w.drewN n) := ⟨h.os, h.tape, h.output, h.size, h.block⟩
theorem ret_bool {a b : Bool} (h : a = b) : Ending.returned (.bool a) = .returned (.bool b) := by rw [h]

theorem shp_hit (n : Int) (s m : Nat) (hs : s < 3) (hm : m < 2) (h : n = (s : Int) * 2 + m) : (s : Int) = shp n := by
  rw [shp_eq (by omega) (by omega)]; omega

set_option maxHeartbeats 1000000 in
theorem shopOf_any (n : Int) (w : World) :
    Calls Try.prog 83 #[.int .i64 n] w fun e w' => e = .returned (.int .i64 (shp n)) ∧ w' = w := by
  go_enter Try.func83, Try.ntmps83
  go_wp2_with fail
  go_loopg [3] 3 (fun g s wr => ∃ k : Nat, k ≤ 3 ∧ g = 3 - k ∧ s = .int .i64 k ∧ Hid (n < 0 ∨ (k : Int) * 2 ≤ n) ∧ w = wr)
  case atStart => exact ⟨0, by omega, rfl, rfl, (by show _ ∨ _; omega), rfl⟩
  case round =>
    obtain ⟨k, hk, rfl, rfl, HN, rfl⟩ := hrel
    by_cases hlt : k < 3
    · have j0 : (k : Int) < 3 := by omega
      have j1 : (0 : Int) ≤ (k : Int) := by omega
      go_wp2_with fail
      go_loopg [4] 2 (fun g s wr => ∃ m : Nat, m ≤ 2 ∧ g = 2 - m ∧ s = .int .i64 m ∧ Hid (n < 0 ∨ (k : Int) * 2 + m ≤ n) ∧ w = wr)
      case atStart => exact ⟨0, by omega, rfl, rfl, (by show _ ∨ _; have := HN.out; omega), rfl⟩
      case round =>
        obtain ⟨m, hm, rfl, rfl, HM, rfl⟩ := hrel
        by_cases hlt2 : m < 2
        · have i0 : (m : Int) < 2 := by omega
          have i1 : (0 : Int) ≤ (m : Int) := by omega
          by_cases he : n = (k : Int) * 2 + m
          · have he' : (n == (k : Int) * 2 + m) = true := by simpa using he
            have HE : Hid _ := he
            clear he
            go_wp2_with fail
            go_ret
            exact ⟨ret_int (shp_hit n k m hlt hlt2 HE.out), rfl⟩
          · have he' : (n == (k : Int) * 2 + m) = false := by simpa using he
            have HE : Hid _ := he
            clear he
            go_wp2_with fail
            go_roundg (2 - (m + 1))
            case measure => omega
            case rel => exact ⟨m + 1, by omega, rfl, by simp, (by show _ ∨ _; have q1 : n < 0 ∨ (k : Int) * 2 + m ≤ n := HM.out; have q2 : ¬ n = (k : Int) * 2 + m := HE.out; omega), rfl⟩
        · have i0 : ¬ (m : Int) < 2 := by omega
          go_wp2_with fail
          go_roundg (3 - (k + 1))
          case measure => omega
          case rel => exact ⟨k + 1, by omega, rfl, by simp, (by show _ ∨ _; have := HM.out; omega), rfl⟩
    · have j0 : ¬ (k : Int) < 3 := by omega
      go_wp2_with fail
      go_ret
      refine ⟨ret_int ?_, rfl⟩
      have := HN.out
      unfold shp
      repeat' split
      all_goals omega

set_option maxHeartbeats 400000 in
theorem wantFault_any (c d : Int) (w : World) :
    Calls Try.prog 98 #[.agg #[.int .i64 c, .int .i64 d]] w fun e w' => e = .returned (.int .i64 (wnt c d)) ∧ Below w.heap.size w w' := by
  by_cases h : shp c < 0
  · have e1 : wnt c d = 1 := by unfold wnt; rw [if_pos h]
    rw [e1]
    go_enter Try.func98, Try.ntmps98
    go_wp2_with fail
    refine (shopOf_any _ _).mono ?_
    rintro e w' ⟨rfl, rfl⟩
    go_wp2_with fail
    go_ret
    exact ⟨rfl, by go_grown⟩
  · have e1 : wnt c d = dlt d := by unfold wnt; rw [if_neg h]
    have h' : 0 ≤ shp c := by omega
    rw [e1]
    clear e1 h
    go_enter Try.func98, Try.ntmps98
    go_wp2_with fail
    refine (shopOf_any _ _).mono ?_
    rintro e w' ⟨rfl, rfl⟩
    go_wp2_with fail
    refine (deltaFault_any _ _).mono ?_
    rintro e w' ⟨rfl, rfl⟩
    go_wp2_with fail
    go_ret
    exact ⟨rfl, by go_grown⟩

end Go.Proofs.Ytbgnajcmhmpjlab
