/- How a keeper and its records lie in memory. -/
import Derived.Test.YtbgnajcmhmpjlabKMath
import Derived.Test.YtbgnajcmhmpjlabSLive
namespace Go.Proofs.Ytbgnajcmhmpjlab
open Go.RowKit

/-- A list of records, cell by cell. -/
def flat5 (l : List Stp) : List Value := l.flatMap Stp.cells
theorem flat5_length (l : List Stp) : (flat5 l).length = l.length * 5 := by
  unfold flat5
  induction l with
  | nil => rfl
  | cons x r ih => rw [List.flatMap_cons, List.length_append, ih]; simp [Stp.cells]; omega
theorem flat5_append (l m : List Stp) : flat5 (l ++ m) = flat5 l ++ flat5 m := by unfold flat5; simp
theorem flat5_snoc (l : List Stp) (x : Stp) : flat5 (l ++ [x]) = flat5 l ++ x.cells := by unfold flat5; simp
theorem flat5_at (l : List Stp) : ∀ k x, l[k]? = some x → ∀ j v, x.cells[j]? = some v → (flat5 l)[k * 5 + j]? = some v := by
  intro k x h j v hj
  have hk := (List.getElem?_eq_some_iff.1 h).1
  have hj5 : j < 5 := (List.getElem?_eq_some_iff.1 hj).1
  have e : l = l.take k ++ x :: l.drop (k + 1) := by rw [← drop_cons h, List.take_append_drop]
  have hl : (flat5 (l.take k)).length = k * 5 := by rw [flat5_length, List.length_take, Nat.min_eq_left (by omega)]
  have e2 : flat5 l = flat5 (l.take k) ++ (x.cells ++ flat5 (l.drop (k + 1))) := by
    conv => lhs; rw [e]
    rw [flat5_append]
    rfl
  rw [e2, List.getElem?_append_right (by omega), hl, show k * 5 + j - k * 5 = j by omega, List.getElem?_append_left (by simpa [Stp.cells] using hj5)]
  exact hj
theorem flat5_one (l : List Stp) : ∀ u ∈ flat5 l, u.oneCell' = true := by
  intro u hu
  unfold flat5 at hu
  rw [List.mem_flatMap] at hu
  obtain ⟨x, _, hx⟩ := hu
  simp only [Stp.cells, List.mem_cons, List.not_mem_nil, or_false] at hx
  rcases hx with rfl | rfl | rfl | rfl | rfl <;> rfl
theorem steps_of_own {w : World} {B e n : Nat} {v : Value} {l : List Stp} (h : w.ownsRow B e 5 v n (flat5 l)) : ∃ ga cap, v = .slice ga n cap ∧ StepsAt w ga l ∧ l.length = n := by
  have hn : l.length = n := by have := h.1; rw [flat5_length] at this; omega
  rcases h.2 with ⟨e1, e0⟩ | ⟨g, cap, cur, e1, hb, hg, hc, hm, hz, ht⟩
  · refine ⟨none, 0, by rw [e1, e0], ?_, hn⟩
    intro k x hk
    have := (List.getElem?_eq_some_iff.1 hk).1
    omega
  · refine ⟨_, cap, e1, fun k x hk => ⟨g, 0, rfl, (Array.getElem?_eq_some_iff.1 hg).1, fun j u hj => ?_⟩, hn⟩
    have hk' := (List.getElem?_eq_some_iff.1 hk).1
    have hj5 : j < 5 := (List.getElem?_eq_some_iff.1 hj).1
    have hu := flat5_at l k x hk j u hj
    have h1 : (cur.toList.take (n * 5))[k * 5 + j]? = (flat5 l)[k * 5 + j]? := by rw [ht]
    rw [List.getElem?_take_of_lt (by omega), hu] at h1
    simp only [World.cell?, hg]
    simpa using h1
theorem StepsAt.save {O : Nat → Prop} {w w' : World} {la : Option Addr} {l : List Stp} (h : StepsAt w la l) (hb : Save O w w') (hn : ∀ a, la = some a → ¬ O a.block) : StepsAt w' la l := by
  intro k x hk
  obtain ⟨b, off, e, hlt, h0⟩ := h k x hk
  have hn' : ¬ O b := hn _ e
  exact ⟨b, off, e, Nat.lt_of_lt_of_le hlt hb.size, fun j v hj => (hb.cell (p := ⟨b, _, none⟩) hlt hn').trans (h0 j v hj)⟩

/-- A keeper's own block: where its shop is, its number, what the world was first, the head of its records. -/
structure KeepRaw (w : World) (q p : Nat) (no : Int) (ws : Nat → Int) (rv : Value) : Prop where
  lt : q < w.heap.size
  c0 : w.cell? ⟨q, 0, none⟩ = some (.pointer (some ⟨p, 0, none⟩))
  c1 : w.cell? ⟨q, 1, none⟩ = some (.int .i64 no)
  cw : ∀ j : Nat, j < 6 → w.cell? ⟨q, 2 + j, none⟩ = some (.int .i64 (ws j))
  c8 : w.cell? ⟨q, 8, none⟩ = some rv
  loose : ∀ k, w.frozen? ⟨q, k, none⟩ = false
theorem KeepRaw.save {O : Nat → Prop} {w w1 : World} {q p : Nat} {no : Int} {ws : Nat → Int} {rv : Value} (h : KeepRaw w q p no ws rv) (hb : Save O w w1) (hn : ¬ O q) : KeepRaw w1 q p no ws rv := by
  have hl := h.lt
  have e : ∀ o, w1.cell? ⟨q, o, none⟩ = w.cell? ⟨q, o, none⟩ := fun o => hb.cell (p := ⟨q, o, none⟩) hl hn
  exact ⟨Nat.lt_of_lt_of_le hl hb.size, (e _).trans h.c0, (e _).trans h.c1, fun j hj => (e _).trans (h.cw j hj), (e _).trans h.c8, fun k => (hb.frozen (p := ⟨q, k, none⟩) hl hn).trans (h.loose k)⟩
theorem KeepRaw.set8 {w : World} {q p : Nat} {no : Int} {ws : Nat → Int} {rv : Value} (h : KeepRaw w q p no ws rv) (u : Value) : KeepRaw (w.setCell ⟨q, 8, none⟩ u) q p no ws u :=
  ⟨by simpa using h.lt, (cell_set_off (by omega)).trans h.c0, (cell_set_off (by omega)).trans h.c1, fun j hj => (cell_set_off (by omega)).trans (h.cw j hj), cell_set_same h.c8, by simpa [go_sem] using h.loose⟩
theorem KeepRaw.set0 {w : World} {q p : Nat} {no : Int} {ws : Nat → Int} {rv : Value} (h : KeepRaw w q p no ws rv) (p' : Nat) : KeepRaw (w.setCell ⟨q, 0, none⟩ (.pointer (some ⟨p', 0, none⟩))) q p' no ws rv :=
  ⟨by simpa using h.lt, cell_set_same h.c0, (cell_set_off (by omega)).trans h.c1, fun j hj => (cell_set_off (by omega)).trans (h.cw j hj), (cell_set_off (by omega)).trans h.c8, by simpa [go_sem] using h.loose⟩

/-- A keeper whose book is K, in blocks of O: its shop in blocks Os of these, its own block and its records outside them. -/
structure KeepIn (O : Nat → Prop) (w : World) (q : Nat) (no : Int) (ws : Nat → Int) (K : Kb) : Prop where
  own : ∀ k, O k → k < w.heap.size
  mine : O q
  raw : ∃ (Os : Nat → Prop) (p : Nat) (rv : Value), KeepRaw w q p no ws rv ∧ ShopIn Os w p K.A ∧ (∀ k, Os k → O k) ∧ ¬ Os q ∧ w.ownsRow (q + 1) 51 5 rv K.rs.length (flat5 K.rs) ∧ ∀ k, rv.ownBlock = some k → O k ∧ ¬ Os k
theorem KeepIn.save {O O' : Nat → Prop} {w w1 : World} {q : Nat} {no : Int} {ws : Nat → Int} {K : Kb} (h : KeepIn O w q no ws K) (hb : Save O' w w1) (hn : ∀ k, O k → ¬ O' k) : KeepIn O w1 q no ws K := by
  obtain ⟨Os, p, rv, h1, h2, h3, h4, h5, h6⟩ := h.raw
  exact ⟨fun k hk => Nat.lt_of_lt_of_le (h.own k hk) hb.size, h.mine, Os, p, rv, h1.save hb (hn q h.mine), h2.save hb (fun k hk => hn k (h3 k hk)), h3, h4, own_save h5 hb (fun k hk => hn k (h6 k hk).1), h6⟩
theorem KeepIn.next {O : Nat → Prop} {w w1 : World} {q : Nat} {no : Int} {ws : Nat → Int} {K : Kb} (h : KeepIn O w q no ws K) (hb : Below w.heap.size w w1) : KeepIn O w1 q no ws K :=
  h.save (O' := fun _ => False) (.of_below hb) (fun _ _ q => q)

end Go.Proofs.Ytbgnajcmhmpjlab
