/- How mails lie in memory. -/
import Derived.Test.YtbgnajcmhmpjlabMMath
import Derived.Test.YtbgnajcmhmpjlabSBox
namespace Go.Proofs.Ytbgnajcmhmpjlab
open Go.RowKit

/-- A list of mails as memory holds it. -/
def MailsAt (w : World) (la : Option Addr) (l : List Ml) : Prop := ∀ k x, l[k]? = some x → ∃ b off, la = some ⟨b, off, none⟩ ∧ b < w.heap.size ∧ ∀ j v, x.cells[j]? = some v → w.cell? ⟨b, off + k * 6 + j, none⟩ = some v
theorem MailsAt.below {w w' : World} {B : Nat} {la : Option Addr} {l : List Ml} (h : MailsAt w la l) (hb : Below B w w') (hB : w.heap.size ≤ B) : MailsAt w' la l := by
  intro k x hk
  obtain ⟨b, off, e, hlt, h0⟩ := h k x hk
  have hb' : b < B := by omega
  exact ⟨b, off, e, Nat.lt_of_lt_of_le hlt hb.size, fun j v hj => (hb.cell (p := ⟨b, _, none⟩) hb').trans (h0 j v hj)⟩
/-- A list of mails, cell by cell. -/
def flat6 (l : List Ml) : List Value := l.flatMap Ml.cells
theorem flat6_length (l : List Ml) : (flat6 l).length = l.length * 6 := by
  unfold flat6
  induction l with
  | nil => rfl
  | cons x r ih => rw [List.flatMap_cons, List.length_append, ih]; simp [Ml.cells]; omega
theorem flat6_append (l m : List Ml) : flat6 (l ++ m) = flat6 l ++ flat6 m := by unfold flat6; simp
theorem flat6_snoc (l : List Ml) (x : Ml) : flat6 (l ++ [x]) = flat6 l ++ x.cells := by unfold flat6; simp
theorem flat6_at (l : List Ml) : ∀ k x, l[k]? = some x → ∀ j v, x.cells[j]? = some v → (flat6 l)[k * 6 + j]? = some v := by
  intro k x h j v hj
  have hk := (List.getElem?_eq_some_iff.1 h).1
  have hj6 : j < 6 := (List.getElem?_eq_some_iff.1 hj).1
  have e : l = l.take k ++ x :: l.drop (k + 1) := by rw [← drop_cons h, List.take_append_drop]
  have hl : (flat6 (l.take k)).length = k * 6 := by rw [flat6_length, List.length_take, Nat.min_eq_left (by omega)]
  have e2 : flat6 l = flat6 (l.take k) ++ (x.cells ++ flat6 (l.drop (k + 1))) := by
    conv => lhs; rw [e]
    rw [flat6_append]
    rfl
  rw [e2, List.getElem?_append_right (by omega), hl, show k * 6 + j - k * 6 = j by omega, List.getElem?_append_left (by simpa [Ml.cells] using hj6)]
  exact hj
theorem flat6_one (l : List Ml) : ∀ u ∈ flat6 l, u.oneCell' = true := by
  intro u hu
  unfold flat6 at hu
  rw [List.mem_flatMap] at hu
  obtain ⟨x, _, hx⟩ := hu
  simp only [Ml.cells, List.mem_cons, List.not_mem_nil, or_false] at hx
  rcases hx with rfl | rfl | rfl | rfl | rfl | rfl <;> rfl
theorem mails_of_own {w : World} {B e n : Nat} {v : Value} {l : List Ml} (h : w.ownsRow B e 6 v n (flat6 l)) : ∃ ga cap, v = .slice ga n cap ∧ MailsAt w ga l ∧ l.length = n := by
  have hn : l.length = n := by have := h.1; rw [flat6_length] at this; omega
  rcases h.2 with ⟨e1, e0⟩ | ⟨g, cap, cur, e1, hb, hg, hc, hm, hz, ht⟩
  · refine ⟨none, 0, by rw [e1, e0], ?_, hn⟩
    intro k x hk
    have := (List.getElem?_eq_some_iff.1 hk).1
    omega
  · refine ⟨_, cap, e1, fun k x hk => ⟨g, 0, rfl, (Array.getElem?_eq_some_iff.1 hg).1, fun j u hj => ?_⟩, hn⟩
    have hk' := (List.getElem?_eq_some_iff.1 hk).1
    have hj6 : j < 6 := (List.getElem?_eq_some_iff.1 hj).1
    have hu := flat6_at l k x hk j u hj
    have h1 : (cur.toList.take (n * 6))[k * 6 + j]? = (flat6 l)[k * 6 + j]? := by rw [ht]
    rw [List.getElem?_take_of_lt (by omega), hu] at h1
    simp only [World.cell?, hg]
    simpa using h1
theorem MailsAt.save {O : Nat → Prop} {w w' : World} {la : Option Addr} {l : List Ml} (h : MailsAt w la l) (hb : Save O w w') (hn : ∀ a, la = some a → ¬ O a.block) : MailsAt w' la l := by
  intro k x hk
  obtain ⟨b, off, e, hlt, h0⟩ := h k x hk
  have hn' : ¬ O b := hn _ e
  exact ⟨b, off, e, Nat.lt_of_lt_of_le hlt hb.size, fun j v hj => (hb.cell (p := ⟨b, _, none⟩) hlt hn').trans (h0 j v hj)⟩

end Go.Proofs.Ytbgnajcmhmpjlab
