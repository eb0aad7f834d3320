/- The contracts of isDeal, place and check. -/
import Derived.Test.YtbgnajcmhmpjlabSDel
namespace Go.Proofs.Ytbgnajcmhmpjlab
open Go.RowKit

theorem isDeal_no (n : Int) (w : World) (h : n < 0 ∨ 8 ≤ n) : Calls Try.prog 68 #[.int .i64 n] w fun e w' => e = .returned (.bool false) ∧ w' = w := by
  rcases h with h | h
  · have h' : ¬ 0 ≤ n := by omega
    go_enter Try.func68, Try.ntmps68
    go_wp2_with fail
    go_ret
    exact ⟨rfl, rfl⟩
  · have h' : 0 ≤ n := by omega
    have h'' : ¬ n < 8 := by omega
    go_enter Try.func68, Try.ntmps68
    go_wp2_with fail
    go_ret
    exact ⟨rfl, rfl⟩
theorem isDeal_yes (n : Int) (w : World) (h0 : 0 ≤ n) (h8 : n < 8) : Calls Try.prog 68 #[.int .i64 n] w fun e w' => e = .returned (.bool true) ∧ w' = w := by
  go_enter Try.func68, Try.ntmps68
  go_wp2_with fail
  go_ret
  exact ⟨rfl, rfl⟩
theorem place_even (k : Nat) (w : World) (h : k < 3) : Calls Try.prog 106 #[.int .i64 ((k : Int) * 2)] w fun e w' => e = .returned (.int .i64 0) ∧ w' = w := by
  have : k = 0 ∨ k = 1 ∨ k = 2 := by omega
  rcases this with rfl | rfl | rfl
  all_goals
    go_enter Try.func106, Try.ntmps106
    go_wp2_with fail
    go_ret
    exact ⟨rfl, rfl⟩
theorem place_odd (k : Nat) (w : World) (h : k < 3) : Calls Try.prog 106 #[.int .i64 ((k : Int) * 2 + 1)] w fun e w' => e = .returned (.int .i64 1) ∧ w' = w := by
  have : k = 0 ∨ k = 1 ∨ k = 2 := by omega
  rcases this with rfl | rfl | rfl
  all_goals
    go_enter Try.func106, Try.ntmps106
    go_wp2_with fail
    go_ret
    exact ⟨rfl, rfl⟩
/-- A counter's place in its shop. -/
theorem place_any (n c : Int) (w : World) (h0 : 0 ≤ n) (h3 : n < 3) (hc : c = n * 2 ∨ c = n * 2 + 1) : Calls Try.prog 106 #[.int .i64 c] w fun e w' => e = .returned (.int .i64 (c - n * 2)) ∧ w' = w := by
  obtain ⟨k, rfl⟩ := Int.eq_ofNat_of_zero_le h0
  rcases hc with rfl | rfl
  · have := place_even k w (by omega)
    rwa [show (k : Int) * 2 - (k : Int) * 2 = 0 by omega]
  · have := place_odd k w (by omega)
    rwa [show (k : Int) * 2 + 1 - (k : Int) * 2 = 1 by omega]

/-- check's code. -/
def chkS (no : Int) (es : List (Int × Bool)) (deal c d : Int) : Int :=
  if deal < 0 then 1 else if 8 ≤ deal then 1 else if wnt c d = 0 then (if shp c = no then (if ovB es deal = true then 8 else 0) else 1) else wnt c d

set_option maxHeartbeats 1000000 in
theorem scheck_any (p : Nat) (no : Int) (es : List (Int × Bool)) (deal c d : Int) (w : World) (hlt : p < w.heap.size) (h0 : w.cell? ⟨p, 0, none⟩ = some (.int .i64 no)) (hov : ∀ k : Nat, k < 8 → w.cell? ⟨p, 8 + k * 2, none⟩ = some (.bool (ovB es k))) :
    Calls Try.prog 101 #[.pointer (some ⟨p, 0, none⟩), .int .i64 deal, .agg #[.int .i64 c, .int .i64 d]] w fun e w' => e = .returned (.int .i64 (chkS no es deal c d)) ∧ Below w.heap.size w w' := by
  have hne : p ≠ w.heap.size := by omega
  by_cases hd : deal < 0 ∨ 8 ≤ deal
  · have e1 : chkS no es deal c d = 1 := by
      unfold chkS
      repeat' split
      all_goals first | rfl | omega
    rw [e1]
    clear e1
    go_enter Try.func101, Try.ntmps101
    go_wp2_with fail
    refine (isDeal_no _ _ hd).mono ?_
    rintro e w1 ⟨rfl, rfl⟩
    go_wp2_with fail
    go_ret
    exact ⟨rfl, by go_grown⟩
  · have d0 : 0 ≤ deal := by omega
    have d8 : deal < 8 := by omega
    by_cases hw : wnt c d = 0
    · by_cases hs : shp c = no
      · obtain ⟨n, rfl⟩ := Int.eq_ofNat_of_zero_le d0
        have hn : n < 8 := by omega
        have HV := hov n hn
        have hsn : (shp c != no) = false := by simp [hs]
        cases hb : ovB es n
        all_goals
          first
            | (have e1 : chkS no es n c d = 8 := by
                 unfold chkS
                 rw [if_neg (by omega), if_neg (by omega), if_pos hw, if_pos hs, if_pos hb]
               rw [e1]
               clear e1)
            | (have e1 : chkS no es n c d = 0 := by
                 unfold chkS
                 rw [if_neg (by omega), if_neg (by omega), if_pos hw, if_pos hs, if_neg (by rw [hb]; decide)]
               rw [e1]
               clear e1)
          have HW : Hid _ := hw
          rw [hb] at HV
          clear hb hov hs hw hd
          go_enter Try.func101, Try.ntmps101
          go_wp2_with fail
          refine (isDeal_yes _ _ d0 d8).mono ?_
          rintro e w1 ⟨rfl, rfl⟩
          go_wp2_with fail
          refine (want_any _ _ _).mono ?_
          rw [HW.out]
          rintro e w1 ⟨rfl, hb1⟩
          have hX := (BoxAt.new w [.int .i64 c, .int .i64 d] 69).next hb1
          have x0 := hX.2 0 _ rfl
          have hb2 : Below w.heap.size w w1 := after (by go_grown) hb1 (by simp)
          have q0 : w1.cell? ⟨p, 0, none⟩ = some (.int .i64 no) := (hb2.cell (p := ⟨p, 0, none⟩) hlt).trans h0
          have q1 := (hb2.cell (p := ⟨p, 8 + n * 2, none⟩) hlt).trans HV
          clear hb1 hX HV h0
          go_wp2_with fail
          go_quiet ((go_at_call 59; exact Calls.quiet_of_same (shop_any _ _)))
          go_wp2_with fail
          go_ret
          exact ⟨rfl, bdrewN hb2 _⟩
      · have e1 : chkS no es deal c d = 1 := by
          unfold chkS
          rw [if_neg (by omega), if_neg (by omega), if_pos hw, if_neg hs]
        rw [e1]
        have HW : Hid _ := hw
        have hsn : (shp c != no) = true := by simpa using hs
        clear e1 hd hov hs hw
        go_enter Try.func101, Try.ntmps101
        go_wp2_with fail
        refine (isDeal_yes _ _ d0 d8).mono ?_
        rintro e w1 ⟨rfl, rfl⟩
        go_wp2_with fail
        refine (want_any _ _ _).mono ?_
        rw [HW.out]
        rintro e w1 ⟨rfl, hb1⟩
        have hX := (BoxAt.new w [.int .i64 c, .int .i64 d] 69).next hb1
        have x0 := hX.2 0 _ rfl
        have hb2 : Below w.heap.size w w1 := after (by go_grown) hb1 (by simp)
        have q0 : w1.cell? ⟨p, 0, none⟩ = some (.int .i64 no) := (hb2.cell (p := ⟨p, 0, none⟩) hlt).trans h0
        clear hb1 hX h0
        go_wp2_with fail
        go_quiet ((go_at_call 59; exact Calls.quiet_of_same (shop_any _ _)))
        go_wp2_with fail
        go_ret
        exact ⟨rfl, bdrewN hb2 _⟩
    · have e1 : chkS no es deal c d = wnt c d := by
        unfold chkS
        rw [if_neg (by omega), if_neg (by omega), if_neg hw]
      rw [e1]
      have hwn : (wnt c d != 0) = true := by simpa using hw
      clear e1 hd hov hw
      go_enter Try.func101, Try.ntmps101
      go_wp2_with fail
      refine (isDeal_yes _ _ d0 d8).mono ?_
      rintro e w1 ⟨rfl, rfl⟩
      go_wp2_with fail
      refine (want_any _ _ _).mono ?_
      rintro e w1 ⟨rfl, hb1⟩
      go_wp2_with fail
      go_ret
      exact ⟨rfl, after (by go_grown) hb1 (by simp)⟩

end Go.Proofs.Ytbgnajcmhmpjlab
