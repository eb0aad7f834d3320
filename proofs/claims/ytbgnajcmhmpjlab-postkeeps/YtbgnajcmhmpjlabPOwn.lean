/- Rows of a call's own, as lists of numbers and of wants; Shops as a list. -/
import Derived.Test.YtbgnajcmhmpjlabPInts
import Derived.Laws.AppendOwn
namespace Go.Proofs.Ytbgnajcmhmpjlab
open Go.RowKit

theorem grownBelow {a b : World} (h : Below a.heap.size a b) (row : Option Nat) : a.grownBy b row := ⟨h.os, h.tape, h.output, h.size, fun k hk _ => h.block k hk⟩
theorem own_next {w w1 : World} {B e s n : Nat} {v : Value} {xs : List Value} (h : w.ownsRow B e s v n xs) (hb : Below w.heap.size w w1) : w1.ownsRow B e s v n xs := by
  refine h.kept (grownBelow hb none) ?_
  cases v.ownBlock <;> simp
/-- What an append of a row of one's own leaves of what lies below. -/
theorem own_below {a w w1 : World} {B C e s n : Nat} {v : Value} {xs : List Value} (h : w.ownsRow C e s v n xs) (hg : w.grownBy w1 v.ownBlock) (hb : Below B a w) (hB : B ≤ w.heap.size) (hC : B ≤ C) : Below B a w1 :=
  hb.grown hg hB (fun k hk => Nat.le_trans hC (h.lt k hk).1)

theorem nums_of_own {w : World} {B e n : Nat} {v : Value} {l : List Int} (h : w.ownsRow B e 1 v n (l.map (Value.int .i64))) : ∃ ga cap, v = .slice ga n cap ∧ NumsAt w ga l ∧ l.length = n := by
  have hn : l.length = n := by have := h.1; simpa using this
  rcases h.2 with ⟨e1, e0⟩ | ⟨g, cap, cur, e1, hb, hg, hc, hm, hz, ht⟩
  · refine ⟨none, 0, by rw [e1, e0], ?_, hn⟩
    intro k c hk
    have := (List.getElem?_eq_some_iff.1 hk).1
    omega
  · refine ⟨_, cap, e1, fun k c hk => ⟨g, 0, rfl, (Array.getElem?_eq_some_iff.1 hg).1, ?_⟩, hn⟩
    have hk' := (List.getElem?_eq_some_iff.1 hk).1
    have h1 : (cur.toList.take (n * 1))[k]? = (l.map (Value.int .i64))[k]? := by rw [ht]
    rw [Nat.mul_one, List.getElem?_take_of_lt (by omega), List.getElem?_map, hk] at h1
    simp only [World.cell?, hg]
    simpa using h1

/-- A list of wants, cell by cell. -/
def flat (l : List (Int × Int)) : List Value := l.flatMap (fun x => [.int .i64 x.1, .int .i64 x.2])
theorem flat_length (l : List (Int × Int)) : (flat l).length = l.length * 2 := by
  unfold flat
  induction l with
  | nil => rfl
  | cons x r ih => rw [List.flatMap_cons, List.length_append, ih]; simp; omega
theorem flat_at (l : List (Int × Int)) : ∀ k c d, l[k]? = some (c, d) → (flat l)[k * 2]? = some (.int .i64 c) ∧ (flat l)[k * 2 + 1]? = some (.int .i64 d) := by
  unfold flat
  induction l with
  | nil => intro k c d h; simp at h
  | cons x r ih =>
    intro k c d h
    cases k with
    | zero =>
      have : x = (c, d) := by simpa using h
      subst this
      simp
    | succ k =>
      have h' : r[k]? = some (c, d) := by simpa using h
      obtain ⟨a, b⟩ := ih k c d h'
      rw [List.flatMap_cons]
      constructor
      · rw [List.getElem?_append_right (by simp; omega)]
        have : (k + 1) * 2 - [Value.int .i64 x.1, .int .i64 x.2].length = k * 2 := by simp; omega
        rw [this]; exact a
      · rw [List.getElem?_append_right (by simp; omega)]
        have : (k + 1) * 2 + 1 - [Value.int .i64 x.1, .int .i64 x.2].length = k * 2 + 1 := by simp; omega
        rw [this]; exact b
theorem flat_snoc (l : List (Int × Int)) (c d : Int) : flat (l ++ [(c, d)]) = flat l ++ [.int .i64 c, .int .i64 d] := by
  unfold flat; simp
theorem wants_of_own {w : World} {B e n : Nat} {v : Value} {l : List (Int × Int)} (h : w.ownsRow B e 2 v n (flat l)) : ∃ ga cap, v = .slice ga n cap ∧ WantsAt w ga l ∧ l.length = n := by
  have hn : l.length = n := by have := h.1; rw [flat_length] at this; omega
  rcases h.2 with ⟨e1, e0⟩ | ⟨g, cap, cur, e1, hb, hg, hc, hm, hz, ht⟩
  · refine ⟨none, 0, by rw [e1, e0], ?_, hn⟩
    intro k c d hk
    have := (List.getElem?_eq_some_iff.1 hk).1
    omega
  · refine ⟨_, cap, e1, fun k c d hk => ⟨g, 0, rfl, (Array.getElem?_eq_some_iff.1 hg).1, ?_, ?_⟩, hn⟩
    · have hk' := (List.getElem?_eq_some_iff.1 hk).1
      have h1 : (cur.toList.take (n * 2))[k * 2]? = (flat l)[k * 2]? := by rw [ht]
      rw [List.getElem?_take_of_lt (by omega), (flat_at l k c d hk).1] at h1
      simp only [World.cell?, hg]
      simpa using h1
    · have hk' := (List.getElem?_eq_some_iff.1 hk).1
      have h1 : (cur.toList.take (n * 2))[k * 2 + 1]? = (flat l)[k * 2 + 1]? := by rw [ht]
      rw [List.getElem?_take_of_lt (by omega), (flat_at l k c d hk).2] at h1
      simp only [World.cell?, hg]
      simpa using h1

/-- Does a want of l stand in shop s? -/
def stands (l : List (Int × Int)) (s : Int) : Bool := l.any (fun y => shp y.1 == s)
/-- The shops below k that wants of l stand in, rising. -/
def shopsTo (l : List (Int × Int)) (k : Nat) : List Int := ((List.range k).filter (fun s : Nat => stands l (s : Int))).map (fun s => ((s : Nat) : Int))
theorem shopsTo_zero (l : List (Int × Int)) : shopsTo l 0 = [] := rfl
theorem shopsTo_hit {l : List (Int × Int)} {k : Nat} (h : stands l (k : Int) = true) : shopsTo l (k + 1) = shopsTo l k ++ [(k : Int)] := by
  unfold shopsTo
  rw [List.range_succ, List.filter_append, List.map_append]
  simp [h]
theorem shopsTo_miss {l : List (Int × Int)} {k : Nat} (h : stands l (k : Int) = false) : shopsTo l (k + 1) = shopsTo l k := by
  unfold shopsTo
  rw [List.range_succ, List.filter_append, List.map_append]
  simp [h]
theorem shopsTo_length (l : List (Int × Int)) (k : Nat) : (shopsTo l k).length ≤ k := by
  unfold shopsTo
  rw [List.length_map]
  have := List.length_filter_le (fun s => stands l ((s : Nat) : Int)) (List.range k)
  simpa using this
theorem stands_next {l : List (Int × Int)} {k : Nat} {c d : Int} (h : l[k]? = some (c, d)) (s : Int) : stands (l.take (k + 1)) s = (stands (l.take k) s || shp c == s) := by
  unfold stands
  rw [take_snoc h]; simp
/-- Shops' answer. -/
def shopsL (l : List (Int × Int)) : List Int := shopsTo l 3

theorem num_new {w : World} {n : Int} {t : TypeId} (H : Nat) (hH : w.heap.size = H) : ∀ j u, [Value.int .i64 n][j]? = some u → (w.alloc (.cells #[.int .i64 n] t)).cell? ((⟨H, 0, none⟩ : Addr).add j) = some u := by
  subst hH
  intro j u h
  cases j with
  | zero => have e : u = .int .i64 n := by simpa using h.symm
            subst e; simp [go_sem, Addr.add]
  | succ j => simp at h
theorem num_cell {n : Int} : ∀ u ∈ [Value.int .i64 n], u.oneCell' = true := by
  intro u hu
  rw [List.mem_singleton.1 hu]; rfl
theorem want_new {w : World} {c d : Int} {t : TypeId} (H : Nat) (hH : w.heap.size = H) : ∀ j u, [Value.int .i64 c, .int .i64 d][j]? = some u → (w.alloc (.cells #[.int .i64 c, .int .i64 d] t)).cell? ((⟨H, 0, none⟩ : Addr).add j) = some u := by
  subst hH
  intro j u h
  match j, h with
  | 0, h => have e : u = .int .i64 c := by simpa using h.symm
            subst e; simp [go_sem, Addr.add]
  | 1, h => have e : u = .int .i64 d := by simpa using h.symm
            subst e; simp [go_sem, Addr.add]
  | j + 2, h => simp at h
theorem want_cell {c d : Int} : ∀ u ∈ [Value.int .i64 c, .int .i64 d], u.oneCell' = true := by
  intro u hu
  rcases List.mem_cons.1 hu with rfl | hu
  · rfl
  · rw [List.mem_singleton.1 hu]; rfl
theorem infoInt : (Try.prog.info? 3).map (fun i => (i.zero, i.size, i.bytes)) = some (some (.int .i64 0), 1, 8) := by kernel_rfl
theorem infoWant : (Try.prog.info? 69).map (fun i => (i.zero, i.size, i.bytes)) = some (some (.agg #[.int .i64 0, .int .i64 0]), 2, 16) := by kernel_rfl

end Go.Proofs.Ytbgnajcmhmpjlab
