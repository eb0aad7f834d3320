/- A book that may be stays one that may be. -/
import Derived.Test.YtbgnajcmhmpjlabSEnd
import Derived.Test.YtbgnajcmhmpjlabSNew
namespace Go.Proofs.Ytbgnajcmhmpjlab
open Go.RowKit

theorem good_new {no : Int} {ws : Nat → Int} (h : newOk no ws = true) : Good (book0 no ws) := by
  rw [newOk_iff] at h
  refine ⟨h.1, h.2.1, ?_, by intro x hx; simp [book0] at hx, by intro x hx; simp [book0] at hx⟩
  intro k hk
  have : k = 0 ∨ k = 1 := by omega
  rcases this with rfl | rfl
  · exact chk_of h.2.2.1 h.2.2.2.1 (by simp [Bk.out, book0, outs]) (by simp [Bk.out, book0, outs]; exact h.2.2.1) (by simp [Bk.inn, book0, inns]) (by simp [Bk.inn, book0, inns, Bk.val]; exact h.2.2.2.1)
  · exact chk_of h.2.2.2.2.1 h.2.2.2.2.2 (by simp [Bk.out, book0, outs]) (by simp [Bk.out, book0, outs]; exact h.2.2.2.2.1) (by simp [Bk.inn, book0, inns]) (by simp [Bk.inn, book0, inns, Bk.val]; exact h.2.2.2.2.2)

/-- What Hold comes to: a code and no change, none and no change, or none and one hold more. -/
theorem holdR_cases (A : Bk) (deal c d : Int) : (chkS A.no A.es deal c d ≠ 0 ∧ holdR A deal c d = (chkS A.no A.es deal c d, A)) ∨ (chkS A.no A.es deal c d = 0 ∧ ∃ m : Nat, m < 2 ∧ c = A.no * 2 + m ∧
    ((∃ x, A.hs.find? (same deal c) = some x ∧ holdR A deal c d = (if x.2.2 = d then 0 else 9, A)) ∨ (A.hs.find? (same deal c) = none ∧ hC (A.val m) (A.out m) (A.inn m) d ≠ 0 ∧ holdR A deal c d = (hC (A.val m) (A.out m) (A.inn m) d, A)) ∨ (A.hs.find? (same deal c) = none ∧ hC (A.val m) (A.out m) (A.inn m) d = 0 ∧ holdR A deal c d = (0, more1 A deal c d)))) := by
  by_cases h : chkS A.no A.es deal c d = 0
  · right
    obtain ⟨_, _, hw0, hs0, _⟩ := chkS_zero h
    obtain ⟨q1, q2, _⟩ := wnt_ok hw0
    obtain ⟨q3, q4, q5⟩ := shp_place q1 q2 hs0
    obtain ⟨m, hm⟩ := Int.eq_ofNat_of_zero_le q4
    rw [hm] at q3 q5
    have hm2 : m < 2 := by omega
    refine ⟨h, m, hm2, q3, ?_⟩
    cases hf : A.hs.find? (same deal c) with
    | some x => exact .inl ⟨x, rfl, holdR_some h hf⟩
    | none =>
      right
      subst q3
      have e := holdR_none (A := A) (deal := deal) (d := d) hm2 h hf
      by_cases hz : hC (A.val m) (A.out m) (A.inn m) d = 0
      · right
        refine ⟨rfl, hz, ?_⟩
        rw [e, hz]
        rfl
      · left
        refine ⟨rfl, hz, ?_⟩
        rw [e]
        unfold addB
        rw [if_neg hz]
  · exact .inl ⟨h, holdR_bad h⟩

theorem good_more {A : Bk} (hG : Good A) {deal d : Int} {m : Nat} (hm : m < 2) (hc : chkS A.no A.es deal (A.no * 2 + m) d = 0) (hz : hC (A.val m) (A.out m) (A.inn m) d = 0) : Good (more1 A deal (A.no * 2 + m) d) := by
  obtain ⟨d0, d8, hw0, hs0, ho0⟩ := chkS_zero hc
  refine ⟨hG.no0, hG.no3, ?_, ?_, hG.ends⟩
  · intro k hk
    obtain ⟨k1, k2, k3⟩ := more1_out A deal (A.no * 2 + m) d k
    rw [k1, k2, k3]
    by_cases e : k = m
    · subst e
      obtain ⟨⟨a1, a2, a3, a4, a5, a6⟩, n0, n1, n2, hw⟩ := hold_zero hz
      simp only [outOf, innOf, if_true]
      rcases hw with ⟨hn, hs, _⟩ | ⟨hn, hs, _⟩
      · rw [if_pos hn, if_pos hn]
        exact chk_of a1 a2 (by omega) (by omega) (by omega) (by omega)
      · rw [if_neg (by omega), if_neg (by omega)]
        exact chk_of a1 a2 (by omega) (by omega) (by omega) (by omega)
    · have q : ¬ (A.no * 2 + (m : Int) = A.no * 2 + (k : Int)) := by omega
      simp only [outOf, innOf, if_neg q, Int.add_zero]
      exact hG.cnt k hk
  · intro x hx
    rcases List.mem_append.1 hx with hx | hx
    · exact hG.each x hx
    · rw [List.mem_singleton.1 hx]
      exact ⟨d0, d8, hs0, hw0, ho0⟩
theorem good_hold {A : Bk} (hG : Good A) (deal c d : Int) : Good (holdR A deal c d).2 := by
  rcases holdR_cases A deal c d with ⟨_, e⟩ | ⟨hc, m, hm, rfl, ⟨x, _, e⟩ | ⟨_, _, e⟩ | ⟨_, hz, e⟩⟩
  · rw [e]; exact hG
  · rw [e]; exact hG
  · rw [e]; exact hG
  · rw [e]; exact good_more hG hm hc hz
theorem hold_len (A : Bk) (deal c d : Int) : (holdR A deal c d).2.hs.length ≤ A.hs.length + 1 ∧ (holdR A deal c d).2.es = A.es ∧ (holdR A deal c d).2.no = A.no := by
  rcases holdR_cases A deal c d with ⟨_, e⟩ | ⟨hc, m, hm, rfl, ⟨x, _, e⟩ | ⟨_, _, e⟩ | ⟨_, hz, e⟩⟩
  · rw [e]; exact ⟨by simp, rfl, rfl⟩
  · rw [e]; exact ⟨by simp, rfl, rfl⟩
  · rw [e]; exact ⟨by simp, rfl, rfl⟩
  · rw [e]; exact ⟨by simp [more1], rfl, rfl⟩

theorem bookK_ok {A : Bk} (hG : Good A) (deal : Int) (done : Bool) : ∀ k, k ≤ A.hs.length → AllOk (bookK A deal done k)
  | 0, _ => by rw [bookK_zero]; exact hG.cnt
  | k + 1, hk => by
    have ih := bookK_ok hG deal done k (by omega)
    obtain ⟨⟨a, c, d⟩, hkx⟩ : ∃ x, A.hs[k]? = some x := ⟨_, List.getElem?_eq_getElem (by omega)⟩
    by_cases he : a = deal
    · subst he
      obtain ⟨_, _, hs0, hw0, _⟩ := hG.each _ (List.mem_of_getElem? hkx)
      obtain ⟨q1, q2, q6⟩ := wnt_ok hw0
      obtain ⟨q3, q4, q5⟩ := shp_place q1 q2 hs0
      obtain ⟨m, hm⟩ := Int.eq_ofNat_of_zero_le q4
      have hm2 : m < 2 := by omega
      have hcq : c = A.no * 2 + (m : Int) := by simp only at q3 hm; omega
      exact (bookK_own hm2 (by rw [hkx, hcq]) ih q6).2.1
    · rw [bookK_skip hkx he]; exact ih
theorem good_endA {A : Bk} (hG : Good A) {deal : Int} (done : Bool) (h0 : 0 ≤ deal) (h8 : deal < 8) : Good (endA A deal done) := by
  refine ⟨hG.no0, hG.no3, ?_, ?_, ?_⟩
  · have h := bookK_ok hG deal done A.hs.length (Nat.le_refl _)
    rw [bookK_all]
    exact h
  · intro x hx
    have hx' : x ∈ A.hs.filter (fun h => h.1 != deal) := hx
    rw [List.mem_filter] at hx'
    obtain ⟨a1, a2, a3, a4, a5⟩ := hG.each x hx'.1
    refine ⟨a1, a2, a3, a4, ?_⟩
    show over (A.es ++ [(deal, done)]) x.1 = none
    rw [over_append, a5]
    have : ¬ (deal = x.1) := by have := hx'.2; simp at this; omega
    simp [over, this]
  · intro e he
    rcases List.mem_append.1 (show e ∈ A.es ++ [(deal, done)] from he) with he | he
    · exact hG.ends e he
    · rw [List.mem_singleton.1 he]; exact ⟨h0, h8⟩
/-- What End comes to. -/
theorem endR_cases (A : Bk) (deal : Int) (done : Bool) : ((deal < 0 ∨ 8 ≤ deal) ∧ endR A deal done = (1, A)) ∨ (0 ≤ deal ∧ deal < 8 ∧ ((∃ b, over A.es deal = some b ∧ endR A deal done = (if b = done then 0 else 9, A)) ∨ (over A.es deal = none ∧ endR A deal done = (0, endA A deal done)))) := by
  by_cases h : deal < 0 ∨ 8 ≤ deal
  · exact .inl ⟨h, endR_range h⟩
  · right
    refine ⟨by omega, by omega, ?_⟩
    cases ho : over A.es deal with
    | some b => exact .inl ⟨b, rfl, endR_over (by omega) (by omega) ho⟩
    | none => exact .inr ⟨rfl, endR_new (by omega) (by omega) ho⟩
theorem good_end {A : Bk} (hG : Good A) (deal : Int) (done : Bool) : Good (endR A deal done).2 := by
  rcases endR_cases A deal done with ⟨_, e⟩ | ⟨h0, h8, ⟨b, _, e⟩ | ⟨_, e⟩⟩
  · rw [e]; exact hG
  · rw [e]; exact hG
  · rw [e]; exact good_endA hG done h0 h8
theorem end_len (A : Bk) (deal : Int) (done : Bool) : (endR A deal done).2.hs.length ≤ A.hs.length ∧ (endR A deal done).2.es.length ≤ A.es.length + 1 ∧ (endR A deal done).2.no = A.no := by
  rcases endR_cases A deal done with ⟨_, e⟩ | ⟨h0, h8, ⟨b, _, e⟩ | ⟨_, e⟩⟩
  · rw [e]; exact ⟨Nat.le_refl _, by simp, rfl⟩
  · rw [e]; exact ⟨Nat.le_refl _, by simp, rfl⟩
  · rw [e]; exact ⟨List.length_filter_le _ _, by simp [endA], rfl⟩

end Go.Proofs.Ytbgnajcmhmpjlab
