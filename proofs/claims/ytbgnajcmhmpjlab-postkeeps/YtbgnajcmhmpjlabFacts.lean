/- What Hold and End answer, way by way, and the laws of it that the statements ask: plain arithmetic. -/
import Derived.Test.YtbgnajcmhmpjlabBegun
namespace Go.Proofs.Ytbgnajcmhmpjlab
open Go.RowKit

/-- A contract under a name that the walk does not look behind. -/
def HoldIs (v o i n a b c k : Int) : Prop := ∀ w : World, Calls Try.prog 114 #[.agg #[.int .i64 v, .int .i64 o, .int .i64 i], .int .i64 n] w fun e w' => e = .returned (.tuple #[.agg #[.int .i64 a, .int .i64 b, .int .i64 c], .int .i64 k]) ∧ Below w.heap.size w w'
def EndIs (v o i n : Int) (d : Bool) (a b c k : Int) : Prop := ∀ w : World, Calls Try.prog 107 #[.agg #[.int .i64 v, .int .i64 o, .int .i64 i], .int .i64 n, .bool d] w fun e w' => e = .returned (.tuple #[.agg #[.int .i64 a, .int .i64 b, .int .i64 c], .int .i64 k]) ∧ Below w.heap.size w w'
theorem holdIs (v o i n : Int) : HoldIs v o i n (hV v o i n) (hO v o i n) (hI v o i n) (hC v o i n) := fun w => hold_any v o i n w
theorem endIs (v o i n : Int) (d : Bool) : EndIs v o i n d (eV v o i n d) (eO v o i n) (eI v o i n) (eC v o i n) := fun w => end_any v o i n d w

theorem both_of {v o i n : Int} (h : chk v o i = 0) (h' : dlt n = 0) : both v o i n = 0 := by unfold both; rw [if_pos h, h']
theorem endIs_less {v o i n : Int} (d : Bool) (hb : both v o i n = 0) (hn : n < 0) (h : 0 ≤ o + n) : EndIs v o i n d (if d = true then v + n else v) (o + n) i 0 := by
  have h' : ¬ o + n < 0 := by omega
  have H := endIs v o i n d
  simpa [eV, eO, eI, eC, hb, hn, h'] using H
theorem endIs_more {v o i n : Int} (d : Bool) (hb : both v o i n = 0) (hn : 0 ≤ n) (h : 0 ≤ i - n) : EndIs v o i n d (if d = true then v + n else v) o (i - n) 0 := by
  have h' : ¬ i - n < 0 := by omega
  have hn' : ¬ n < 0 := by omega
  have H := endIs v o i n d
  simpa [eV, eO, eI, eC, hb, hn', h'] using H

/-- What can be held: what it comes to. -/
theorem hold_zero {v o i n : Int} (h : hC v o i n = 0) : (0 ≤ v ∧ v ≤ 100 ∧ 0 ≤ o ∧ o ≤ v ∧ 0 ≤ i ∧ v + i ≤ 100) ∧ n ≠ 0 ∧ -100 ≤ n ∧ n ≤ 100 ∧
    ((n < 0 ∧ o - n ≤ v ∧ hV v o i n = v ∧ hO v o i n = o - n ∧ hI v o i n = i) ∨ (0 < n ∧ v + (i + n) ≤ 100 ∧ hV v o i n = v ∧ hO v o i n = o ∧ hI v o i n = i + n)) := by
  rcases hold_vals v o i n with ⟨hb, e1, e2, e3, e4⟩ | ⟨hb, hn, hs, e1, e2, e3, e4⟩ | ⟨hb, hn, hs, e1, e2, e3, e4⟩ | ⟨hb, hn, hs, e1, e2, e3, e4⟩ | ⟨hb, hn, hs, e1, e2, e3, e4⟩
  · omega
  · omega
  · obtain ⟨k1, k2⟩ := both_ok hb
    obtain ⟨b1, b2, b3⟩ := dlt_ok k2
    exact ⟨chk_ok k1, b1, b2, b3, Or.inl ⟨hn, hs, e2, e3, e4⟩⟩
  · omega
  · obtain ⟨k1, k2⟩ := both_ok hb
    obtain ⟨b1, b2, b3⟩ := dlt_ok k2
    exact ⟨chk_ok k1, b1, b2, b3, Or.inr ⟨by omega, hs, e2, e3, e4⟩⟩
theorem hold_less_of {v o i n : Int} (h1 : 0 ≤ v) (h2 : v ≤ 100) (h3 : 0 ≤ o) (h4 : o ≤ v) (h5 : 0 ≤ i) (h6 : v + i ≤ 100) (h7 : n < 0) (h8 : -100 ≤ n) (h9 : o - n ≤ v) : hC v o i n = 0 ∧ hV v o i n = v ∧ hO v o i n = o - n ∧ hI v o i n = i := by
  have hb : both v o i n = 0 := both_of (chk_of h1 h2 h3 h4 h5 h6) (dlt_of (by omega) h8 (by omega))
  have h' : ¬ v < o - n := by omega
  exact ⟨by simp [hC, hb, h7, h'], by simp [hV, hC, hb, h7, h'], by simp [hO, hC, hb, h7, h'], by simp [hI, hC, hb, h7, h']⟩
theorem hold_more_of {v o i n : Int} (h1 : 0 ≤ v) (h2 : v ≤ 100) (h3 : 0 ≤ o) (h4 : o ≤ v) (h5 : 0 ≤ i) (h6 : v + i ≤ 100) (h7 : 0 < n) (h8 : n ≤ 100) (h9 : v + (i + n) ≤ 100) : hC v o i n = 0 ∧ hV v o i n = v ∧ hO v o i n = o ∧ hI v o i n = i + n := by
  have hb : both v o i n = 0 := both_of (chk_of h1 h2 h3 h4 h5 h6) (dlt_of (by omega) (by omega) h8)
  have h' : ¬ 100 < v + (i + n) := by omega
  have h7' : ¬ n < 0 := by omega
  exact ⟨by simp [hC, hb, h7', h'], by simp [hV, hC, hb, h7', h'], by simp [hO, hC, hb, h7', h'], by simp [hI, hC, hb, h7', h']⟩

/-- What can be held one behind the other can be held the other way round, and comes to the same. -/
theorem hold_turn {v o i n m : Int} (h : hC v o i n = 0) (h' : hC (hV v o i n) (hO v o i n) (hI v o i n) m = 0) :
    hC v o i m = 0 ∧ hC (hV v o i m) (hO v o i m) (hI v o i m) n = 0 ∧ hV (hV v o i n) (hO v o i n) (hI v o i n) m = hV (hV v o i m) (hO v o i m) (hI v o i m) n
    ∧ hO (hV v o i n) (hO v o i n) (hI v o i n) m = hO (hV v o i m) (hO v o i m) (hI v o i m) n ∧ hI (hV v o i n) (hO v o i n) (hI v o i n) m = hI (hV v o i m) (hO v o i m) (hI v o i m) n := by
  obtain ⟨⟨a1, a2, a3, a4, a5, a6⟩, b1, b2, b3, hw⟩ := hold_zero h
  rcases hw with ⟨hn, hs, e2, e3, e4⟩ | ⟨hn, hs, e2, e3, e4⟩
  all_goals
    rw [e2, e3, e4] at h' ⊢
    obtain ⟨⟨c1, c2, c3, c4, c5, c6⟩, d1, d2, d3, hw'⟩ := hold_zero h'
    rcases hw' with ⟨hm, hs', g2, g3, g4⟩ | ⟨hm, hs', g2, g3, g4⟩
    all_goals
      rw [g2, g3, g4]
  · obtain ⟨f1, f2, f3, f4⟩ := hold_less_of (v := v) (o := o) (i := i) (n := m) a1 a2 a3 a4 a5 a6 hm d2 (by omega)
    rw [f2, f3, f4]
    obtain ⟨k1, k2, k3, k4⟩ := hold_less_of (v := v) (o := o - m) (i := i) (n := n) a1 a2 (by omega) (by omega) a5 a6 hn b2 (by omega)
    exact ⟨f1, k1, k2.symm, by rw [k3]; omega, k4.symm⟩
  · obtain ⟨f1, f2, f3, f4⟩ := hold_more_of (v := v) (o := o) (i := i) (n := m) a1 a2 a3 a4 a5 a6 hm d3 (by omega)
    rw [f2, f3, f4]
    obtain ⟨k1, k2, k3, k4⟩ := hold_less_of (v := v) (o := o) (i := i + m) (n := n) a1 a2 (by omega) (by omega) (by omega) (by omega) hn b2 (by omega)
    exact ⟨f1, k1, k2.symm, k3.symm, k4.symm⟩
  · obtain ⟨f1, f2, f3, f4⟩ := hold_less_of (v := v) (o := o) (i := i) (n := m) a1 a2 a3 a4 a5 a6 hm d2 (by omega)
    rw [f2, f3, f4]
    obtain ⟨k1, k2, k3, k4⟩ := hold_more_of (v := v) (o := o - m) (i := i) (n := n) a1 a2 (by omega) (by omega) a5 a6 hn b3 (by omega)
    exact ⟨f1, k1, k2.symm, k3.symm, k4.symm⟩
  · obtain ⟨f1, f2, f3, f4⟩ := hold_more_of (v := v) (o := o) (i := i) (n := m) a1 a2 a3 a4 a5 a6 hm d3 (by omega)
    rw [f2, f3, f4]
    obtain ⟨k1, k2, k3, k4⟩ := hold_more_of (v := v) (o := o) (i := i + m) (n := n) a1 a2 (by omega) (by omega) (by omega) (by omega) hn b3 (by omega)
    exact ⟨f1, k1, k2.symm, k3.symm, by rw [k4]; omega⟩

end Go.Proofs.Ytbgnajcmhmpjlab
