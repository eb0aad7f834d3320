/- One step of a shop: what it comes to, and that once is enough. -/
import Derived.Test.YtbgnajcmhmpjlabSBegun
import Derived.Test.YtbgnajcmhmpjlabSKit
import Derived.Test.YtbgnajcmhmpjlabSSame
namespace Go.Proofs.Ytbgnajcmhmpjlab
open Go.RowKit

def stepR (A : Bk) (x : Stp) : Int × Bk := if x.what = 0 then holdR A x.deal x.c x.d else if x.what = 1 then endR A x.deal x.done else (0, A)
theorem stepR_hold {A : Bk} {x : Stp} (h : x.what = 0) : stepR A x = holdR A x.deal x.c x.d := by unfold stepR; rw [if_pos h]
theorem stepR_end {A : Bk} {x : Stp} (h : x.what = 1) : stepR A x = endR A x.deal x.done := by unfold stepR; rw [if_neg (by omega), if_pos h]
theorem stepR_none {A : Bk} {x : Stp} (h0 : x.what ≠ 0) (h1 : x.what ≠ 1) : stepR A x = (0, A) := by unfold stepR; rw [if_neg h0, if_neg h1]
theorem good_step {A : Bk} (hG : Good A) (x : Stp) : Good (stepR A x).2 := by
  unfold stepR
  split
  · exact good_hold hG _ _ _
  · split
    · exact good_end hG _ _
    · exact hG
theorem step_len (A : Bk) (x : Stp) : (stepR A x).2.hs.length ≤ A.hs.length + 1 ∧ (stepR A x).2.es.length ≤ A.es.length + 1 ∧ (stepR A x).2.no = A.no := by
  unfold stepR
  split
  · obtain ⟨a, b, c⟩ := hold_len A x.deal x.c x.d
    exact ⟨a, by rw [b]; omega, c⟩
  · split
    · obtain ⟨a, b, c⟩ := end_len A x.deal x.done
      exact ⟨by omega, b, c⟩
    · exact ⟨by simp, by simp, rfl⟩
theorem step_code {A : Bk} {x : Stp} (h : (stepR A x).1 ≠ 0) : (stepR A x).2 = A := by
  unfold stepR at h ⊢
  split at h
  · rename_i e
    rw [if_pos e]
    rcases holdR_cases A x.deal x.c x.d with ⟨_, e⟩ | ⟨hc, m, hm, _, ⟨y, _, e⟩ | ⟨_, _, e⟩ | ⟨_, hz, e⟩⟩
    · rw [e]
    · rw [e]
    · rw [e]
    · rw [e] at h; exact absurd rfl h
  · rename_i e0
    split at h
    · rename_i e1
      rw [if_neg e0, if_pos e1]
      rcases endR_cases A x.deal x.done with ⟨_, e⟩ | ⟨h0, h8, ⟨b, _, e⟩ | ⟨_, e⟩⟩
      · rw [e]
      · rw [e]
      · rw [e] at h; exact absurd rfl h
    · exact absurd rfl h
theorem find_snoc {q : H3 → Bool} {l : List H3} {x : H3} (h : l.find? q = none) (hq : q x = true) : (l ++ [x]).find? q = some x := by
  rw [List.find?_append, h, List.find?_cons, hq]; rfl
/-- Once is enough. -/
theorem step_again {A : Bk} {x : Stp} (h : (stepR A x).1 = 0) : stepR (stepR A x).2 x = (0, (stepR A x).2) := by
  by_cases e0 : x.what = 0
  · rw [stepR_hold e0] at h ⊢
    rw [stepR_hold e0]
    rcases holdR_cases A x.deal x.c x.d with ⟨hc, e⟩ | ⟨hc, m, hm, _, ⟨y, hy, e⟩ | ⟨_, hz, e⟩ | ⟨hf, hz, e⟩⟩
    · rw [e] at h; exact absurd h hc
    · rw [e] at h
      have h' : (if y.2.2 = x.d then (0 : Int) else 9) = 0 := h
      rw [e]
      show holdR A x.deal x.c x.d = (0, A)
      rw [e, h']
    · rw [e] at h; exact absurd h hz
    · rw [e]
      show holdR (more1 A x.deal x.c x.d) x.deal x.c x.d = (0, more1 A x.deal x.c x.d)
      rw [holdR_some (A := more1 A x.deal x.c x.d) hc (find_snoc hf (by simp [same]))]
      simp
  · by_cases e1 : x.what = 1
    · rw [stepR_end e1] at h ⊢
      rw [stepR_end e1]
      rcases endR_cases A x.deal x.done with ⟨_, e⟩ | ⟨h0, h8, ⟨b, hb, e⟩ | ⟨hb, e⟩⟩
      · rw [e] at h; exact absurd (show (1 : Int) = 0 from h) (by decide)
      · rw [e] at h
        have h' : (if b = x.done then (0 : Int) else 9) = 0 := h
        rw [e]
        show endR A x.deal x.done = (0, A)
        rw [e, h']
      · rw [e]
        show endR (endA A x.deal x.done) x.deal x.done = (0, endA A x.deal x.done)
        rw [endR_over (A := endA A x.deal x.done) (b := x.done) h0 h8 (by show over (A.es ++ [(x.deal, x.done)]) x.deal = some x.done; rw [over_append, hb]; simp [over])]
        simp
    · rw [stepR_none e0 e1, stepR_none e0 e1]
/-- What is over is over. -/
theorem step_over {A : Bk} {x : Stp} (h : x.what = 1) (h0 : 0 ≤ x.deal) (h8 : x.deal < 8) : ∃ b, over (stepR A x).2.es x.deal = some b := by
  rw [stepR_end h]
  rcases endR_cases A x.deal x.done with ⟨q, e⟩ | ⟨_, _, ⟨b, hb, e⟩ | ⟨hb, e⟩⟩
  · omega
  · rw [e]; exact ⟨b, hb⟩
  · rw [e]; exact ⟨x.done, by show over (A.es ++ [(x.deal, x.done)]) x.deal = _; rw [over_append, hb]; simp [over]⟩

theorem infoCnt : (Try.prog.info? 35).map (fun i => (i.zero, i.size, i.bytes)) = some (some (.agg #[.int .i64 0, .int .i64 0, .int .i64 0]), 3, 24) := by kernel_rfl
theorem cellsCnt : Try.prog.cellsOf 35 = 3 := by kernel_rfl
/-- Are the two counters the same? -/
def eqB (f g : Nat → Int) : Bool := (f 0 == g 0 && (f 1 == g 1 && f 2 == g 2)) && (f 3 == g 3 && (f 4 == g 4 && f 5 == g 5))
theorem eqC (a0 a1 a2 a3 a4 a5 b0 b1 b2 b3 b4 b5 : Int) (W : World) :
    (Op.equalIn 10000 36 (.agg #[.int .i64 a0, .int .i64 a1, .int .i64 a2, .int .i64 a3, .int .i64 a4, .int .i64 a5]) (.agg #[.int .i64 b0, .int .i64 b1, .int .i64 b2, .int .i64 b3, .int .i64 b4, .int .i64 b5])).run Try.prog W = .ok ((a0 == b0 && (a1 == b1 && a2 == b2)) && (a3 == b3 && (a4 == b4 && a5 == b5))) W := by
  obtain ⟨i0, hi, hz0, hz1, hz2⟩ := info_parts infoCnt
  rw [show (10000 : Nat) = 9999 + 1 from rfl, run_equalIn_array W 9999 _ _ Try.underlying36 hi, cellsCnt]
  simp [List.range, List.range.loop, Op.eqItems, go_sem]
  repeat' split
  all_goals simp_all

end Go.Proofs.Ytbgnajcmhmpjlab
