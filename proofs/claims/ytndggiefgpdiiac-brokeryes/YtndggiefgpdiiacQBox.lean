/- How the document's book of deals lies in memory: a row of deals, each with three rows of its own. The types of a deal, a want and a number are handed in. -/
import Derived.Test.YtndggiefgpdiiacTBook
import Derived.Test.YtndggiefgpdiiacSBox
namespace Go.Proofs.Ytndggiefgpdiiac
open Go.RowKit

/-- The heads of a deal's three rows: its wants, those that are held, the shops where it is over. -/
structure DV where
  w : Value
  y : Value
  o : Value
def DV.all (v : DV) : List Value := [v.w, v.y, v.o]
/-- A row of deals, cell by cell. -/
def flatD : List Dl → List DV → List Value
  | D :: r, v :: s => v.w :: .int .i64 D.st :: v.y :: v.o :: flatD r s
  | _, _ => []
theorem flatD_length : ∀ {L : List Dl} {V : List DV}, V.length = L.length → (flatD L V).length = L.length * 4
  | [], [], _ => rfl
  | D :: r, v :: s, h => by
    have h' : s.length = r.length := by simpa using h
    simp only [flatD, List.length_cons, flatD_length h']
    omega
theorem flatD_at : ∀ {L : List Dl} {V : List DV} {k : Nat} {D : Dl} {v : DV}, L[k]? = some D → V[k]? = some v → (flatD L V)[k * 4]? = some v.w ∧ (flatD L V)[k * 4 + 1]? = some (.int .i64 D.st) ∧ (flatD L V)[k * 4 + 2]? = some v.y ∧ (flatD L V)[k * 4 + 3]? = some v.o
  | E :: r, u :: s, 0, D, v, h1, h2 => by
    obtain rfl : E = D := by simpa using h1
    obtain rfl : u = v := by simpa using h2
    exact ⟨rfl, rfl, rfl, rfl⟩
  | E :: r, u :: s, k + 1, D, v, h1, h2 => by
    obtain ⟨a, b, c, d⟩ := flatD_at (L := r) (V := s) (k := k) (by simpa using h1) (by simpa using h2)
    refine ⟨?_, ?_, ?_, ?_⟩
    · rw [show (k + 1) * 4 = k * 4 + 4 by omega]; simpa [flatD] using a
    · rw [show (k + 1) * 4 + 1 = k * 4 + 1 + 4 by omega]; simpa [flatD] using b
    · rw [show (k + 1) * 4 + 2 = k * 4 + 2 + 4 by omega]; simpa [flatD] using c
    · rw [show (k + 1) * 4 + 3 = k * 4 + 3 + 4 by omega]; simpa [flatD] using d
theorem flatD_snoc : ∀ {L : List Dl} {V : List DV} (D : Dl) (v : DV), V.length = L.length → flatD (L ++ [D]) (V ++ [v]) = flatD L V ++ [v.w, .int .i64 D.st, v.y, v.o]
  | [], [], _, _, _ => rfl
  | E :: r, u :: s, D, v, h => by
    have h' : s.length = r.length := by simpa using h
    simp only [List.cons_append, flatD, flatD_snoc D v h']
theorem flatD_st : ∀ {L : List Dl} {V : List DV} {k : Nat} {D : Dl} (x : Int), V.length = L.length → L[k]? = some D → flatD (L.set k { D with st := x }) V = (flatD L V).set (k * 4 + 1) (.int .i64 x)
  | E :: r, u :: s, 0, D, x, _, h => by
    obtain rfl : E = D := by simpa using h
    rfl
  | E :: r, u :: s, k + 1, D, x, hl, h => by
    have := flatD_st (L := r) (V := s) (k := k) (D := D) x (by simpa using hl) (by simpa using h)
    rw [show (k + 1) * 4 + 1 = k * 4 + 1 + 4 by omega]
    simp only [List.set_cons_succ, flatD, this]
theorem flatD_yes : ∀ {L : List Dl} {V : List DV} {k : Nat} {D : Dl} {v : DV} (l : List Int) (u : Value), V.length = L.length → L[k]? = some D → V[k]? = some v → flatD (L.set k { D with yes := l }) (V.set k { v with y := u }) = (flatD L V).set (k * 4 + 2) u
  | E :: r, t :: s, 0, D, v, l, u, _, h, h2 => by
    obtain rfl : E = D := by simpa using h
    obtain rfl : t = v := by simpa using h2
    rfl
  | E :: r, t :: s, k + 1, D, v, l, u, hl, h, h2 => by
    have := flatD_yes (L := r) (V := s) (k := k) (D := D) (v := v) l u (by simpa using hl) (by simpa using h) (by simpa using h2)
    rw [show (k + 1) * 4 + 2 = k * 4 + 2 + 4 by omega]
    simp only [List.set_cons_succ, flatD, this]
theorem flatD_ov : ∀ {L : List Dl} {V : List DV} {k : Nat} {D : Dl} {v : DV} (l : List Int) (u : Value), V.length = L.length → L[k]? = some D → V[k]? = some v → flatD (L.set k { D with ov := l }) (V.set k { v with o := u }) = (flatD L V).set (k * 4 + 3) u
  | E :: r, t :: s, 0, D, v, l, u, _, h, h2 => by
    obtain rfl : E = D := by simpa using h
    obtain rfl : t = v := by simpa using h2
    rfl
  | E :: r, t :: s, k + 1, D, v, l, u, hl, h, h2 => by
    have := flatD_ov (L := r) (V := s) (k := k) (D := D) (v := v) l u (by simpa using hl) (by simpa using h) (by simpa using h2)
    rw [show (k + 1) * 4 + 3 = k * 4 + 3 + 4 by omega]
    simp only [List.set_cons_succ, flatD, this]
/-- One cell of a row of one's own is stored. -/
theorem own_set {w : World} {B e s n g cap i : Nat} {xs : List Value} (h : w.ownsRow B e s (.slice (some ⟨g, 0, none⟩) n cap) n xs) (hi : i < xs.length) (u : Value) : (w.setCell ⟨g, i, none⟩ u).ownsRow B e s (.slice (some ⟨g, 0, none⟩) n cap) n (xs.set i u) := by
  obtain ⟨hB, hr, hc, hm, hx⟩ := own_row h
  refine row_own (hr.setCell _ _) hB hc hm (by simpa using h.1) (fun j v hj => ?_)
  by_cases q : j = i
  · subst q
    rw [List.getElem?_set_self hi] at hj
    obtain rfl := Option.some.inj hj
    exact cell_set_same (hx j _ (List.getElem?_eq_getElem hi))
  · rw [List.getElem?_set_ne (by omega)] at hj
    exact (cell_set_off q).trans (hx j v hj)

/-- Rows that have no block together. -/
def ApartV (l : List Value) : Prop := l.Pairwise (fun u v => ∀ k, u.ownBlock = some k → v.ownBlock ≠ some k)
/-- A book of deals, at the places o and o + 1 of the block q: the heads of its rows. -/
structure BokRaw (tD tW tI : TypeId) (w : World) (q o : Nat) (B : Bok) (rv ov : Value) (V : List DV) : Prop where
  len : V.length = B.L.length
  c0 : w.cell? ⟨q, o, none⟩ = some rv
  c1 : w.cell? ⟨q, o + 1, none⟩ = some ov
  row : w.ownsRow (q + 1) tD 4 rv B.L.length (flatD B.L V)
  ord : w.ownsRow (q + 1) tI 1 ov B.ord.length (B.ord.map (Value.int .i64))
  deal : ∀ (k : Nat) (D : Dl) (v : DV), B.L[k]? = some D → V[k]? = some v → w.ownsRow (q + 1) tW 2 v.w D.w.length (flat D.w) ∧ w.ownsRow (q + 1) tI 1 v.y D.yes.length (D.yes.map (Value.int .i64)) ∧ w.ownsRow (q + 1) tI 1 v.o D.ov.length (D.ov.map (Value.int .i64))
  apart : ApartV (rv :: ov :: V.flatMap DV.all)
/-- A book of deals, in blocks of O. -/
structure BokIn (tD tW tI : TypeId) (O : Nat → Prop) (w : World) (q o : Nat) (B : Bok) : Prop where
  own : ∀ k, O k → k < w.heap.size
  mine : O q
  loose : ∀ k, w.frozen? ⟨q, k, none⟩ = false
  raw : ∃ (rv ov : Value) (V : List DV), BokRaw tD tW tI w q o B rv ov V ∧ ∀ u ∈ rv :: ov :: V.flatMap DV.all, ∀ k, u.ownBlock = some k → O k
theorem BokIn.lt {tD tW tI : TypeId} {O : Nat → Prop} {w : World} {q o : Nat} {B : Bok} (h : BokIn tD tW tI O w q o B) : q < w.heap.size := h.own q h.mine
theorem mem_all {V : List DV} {k : Nat} {v : DV} (h : V[k]? = some v) : v.w ∈ V.flatMap DV.all ∧ v.y ∈ V.flatMap DV.all ∧ v.o ∈ V.flatMap DV.all := by
  have hm := List.mem_of_getElem? h
  refine ⟨List.mem_flatMap.2 ⟨v, hm, ?_⟩, List.mem_flatMap.2 ⟨v, hm, ?_⟩, List.mem_flatMap.2 ⟨v, hm, ?_⟩⟩ <;> simp [DV.all]
theorem BokRaw.save {tD tW tI : TypeId} {O' : Nat → Prop} {w w1 : World} {q o : Nat} {B : Bok} {rv ov : Value} {V : List DV} (h : BokRaw tD tW tI w q o B rv ov V) (hl : q < w.heap.size) (hb : Save O' w w1) (hq : ¬ O' q) (out : ∀ u ∈ rv :: ov :: V.flatMap DV.all, ∀ k, u.ownBlock = some k → ¬ O' k) : BokRaw tD tW tI w1 q o B rv ov V := by
  refine ⟨h.len, (hb.cell (p := ⟨q, o, none⟩) hl hq).trans h.c0, (hb.cell (p := ⟨q, o + 1, none⟩) hl hq).trans h.c1, own_save h.row hb (out rv (by simp)), own_save h.ord hb (out ov (by simp)), fun k D v hD hv => ?_, h.apart⟩
  obtain ⟨a, b, c⟩ := h.deal k D v hD hv
  obtain ⟨m1, m2, m3⟩ := mem_all hv
  exact ⟨own_save a hb (out _ (by simp [m1])), own_save b hb (out _ (by simp [m2])), own_save c hb (out _ (by simp [m3]))⟩
theorem BokIn.save {tD tW tI : TypeId} {O O' : Nat → Prop} {w w1 : World} {q o : Nat} {B : Bok} (h : BokIn tD tW tI O w q o B) (hb : Save O' w w1) (hn : ∀ k, O k → ¬ O' k) : BokIn tD tW tI O w1 q o B := by
  obtain ⟨rv, ov, V, h1, h7⟩ := h.raw
  have hl := h.lt
  have hq := hn q h.mine
  exact ⟨fun k hk => Nat.lt_of_lt_of_le (h.own k hk) hb.size, h.mine, fun k => (hb.frozen (p := ⟨q, k, none⟩) hl hq).trans (h.loose k), rv, ov, V, h1.save hl hb hq (fun u hu k hk => hn k (h7 u hu k hk)), h7⟩
theorem BokIn.next {tD tW tI : TypeId} {O : Nat → Prop} {w w1 : World} {q o : Nat} {B : Bok} (h : BokIn tD tW tI O w q o B) (hb : Below w.heap.size w w1) : BokIn tD tW tI O w1 q o B :=
  h.save (O' := fun _ => False) (.of_below hb) (fun _ _ q => q)

theorem all_y : ∀ {V : List DV} {k : Nat} {v : DV} (u : Value), V[k]? = some v → (V.set k { v with y := u }).flatMap DV.all = (V.flatMap DV.all).set (k * 3 + 1) u ∧ (V.flatMap DV.all)[k * 3 + 1]? = some v.y
  | t :: s, 0, v, u, h => by
    obtain rfl : t = v := by simpa using h
    exact ⟨rfl, rfl⟩
  | t :: s, k + 1, v, u, h => by
    obtain ⟨a, b⟩ := all_y (V := s) (k := k) u (by simpa using h)
    rw [show (k + 1) * 3 + 1 = k * 3 + 1 + 3 by omega]
    refine ⟨?_, ?_⟩
    · simp only [List.set_cons_succ, List.flatMap_cons, a, DV.all, List.cons_append, List.nil_append]
    · simpa [DV.all] using b
theorem all_o : ∀ {V : List DV} {k : Nat} {v : DV} (u : Value), V[k]? = some v → (V.set k { v with o := u }).flatMap DV.all = (V.flatMap DV.all).set (k * 3 + 2) u ∧ (V.flatMap DV.all)[k * 3 + 2]? = some v.o
  | t :: s, 0, v, u, h => by
    obtain rfl : t = v := by simpa using h
    exact ⟨rfl, rfl⟩
  | t :: s, k + 1, v, u, h => by
    obtain ⟨a, b⟩ := all_o (V := s) (k := k) u (by simpa using h)
    rw [show (k + 1) * 3 + 2 = k * 3 + 2 + 3 by omega]
    refine ⟨?_, ?_⟩
    · simp only [List.set_cons_succ, List.flatMap_cons, a, DV.all, List.cons_append, List.nil_append]
    · simpa [DV.all] using b
/-- A row is another one now, in its own block or in one that none has. -/
theorem apart_set {l : List Value} {i : Nat} {u u' : Value} (h : ApartV l) (hi : l[i]? = some u) (hu : ∀ k, u'.ownBlock = some k → u.ownBlock = some k ∨ ∀ v ∈ l, v.ownBlock ≠ some k) : ApartV (l.set i u') := by
  obtain ⟨hi', rfl⟩ := List.getElem?_eq_some_iff.1 hi
  unfold ApartV
  rw [List.pairwise_iff_getElem]
  intro a b ha hb hab k h1 h2
  have ha' : a < l.length := by simpa using ha
  have hb' : b < l.length := by simpa using hb
  have hp := List.pairwise_iff_getElem.1 h
  rw [List.getElem_set] at h1 h2
  by_cases ea : i = a
  · rw [if_pos ea] at h1
    rw [if_neg (by omega)] at h2
    rcases hu k h1 with q | q
    · subst ea
      exact hp i b hi' hb' hab k q h2
    · exact q _ (List.getElem_mem hb') h2
  · rw [if_neg ea] at h1
    by_cases eb : i = b
    · rw [if_pos eb] at h2
      rcases hu k h2 with q | q
      · subst eb
        exact hp a i ha' hi' hab k h1 q
      · exact q _ (List.getElem_mem ha') h1
    · rw [if_neg eb] at h2
      exact hp a b ha' hb' hab k h1 h2
/-- A row more, in a block that none has. -/
theorem apart_more {l m : List Value} (h : ApartV l) (hm : ApartV m) (hn : ∀ u ∈ m, ∀ k, u.ownBlock = some k → ∀ v ∈ l, v.ownBlock ≠ some k) : ApartV (l ++ m) :=
  List.pairwise_append.2 ⟨h, hm, fun v hv u hu k h1 h2 => hn u hu k h2 v hv h1⟩
theorem apart_at {l : List Value} {i j : Nat} {u v : Value} (h : ApartV l) (hi : l[i]? = some u) (hj : l[j]? = some v) (hij : i ≠ j) : ∀ k, u.ownBlock = some k → v.ownBlock ≠ some k := by
  obtain ⟨hi', rfl⟩ := List.getElem?_eq_some_iff.1 hi
  obtain ⟨hj', rfl⟩ := List.getElem?_eq_some_iff.1 hj
  have hp := List.pairwise_iff_getElem.1 h
  intro k h1 h2
  rcases Nat.lt_or_gt_of_ne hij with q | q
  · exact hp i j hi' hj' q k h1 h2
  · exact hp j i hj' hi' q k h2 h1

theorem all_w : ∀ {V : List DV} {k : Nat} {v : DV}, V[k]? = some v → (V.flatMap DV.all)[k * 3]? = some v.w
  | t :: s, 0, v, h => by
    obtain rfl : t = v := by simpa using h
    rfl
  | t :: s, k + 1, v, h => by
    have := all_w (V := s) (k := k) (v := v) (by simpa using h)
    rw [show (k + 1) * 3 = k * 3 + 3 by omega]
    simpa [DV.all] using this
theorem at_w {rv ov : Value} {V : List DV} {k : Nat} {v : DV} (h : V[k]? = some v) : (rv :: ov :: V.flatMap DV.all)[k * 3 + 2]? = some v.w := by
  simpa using all_w h
theorem at_y {rv ov : Value} {V : List DV} {k : Nat} {v : DV} (h : V[k]? = some v) : (rv :: ov :: V.flatMap DV.all)[k * 3 + 1 + 2]? = some v.y := by
  simpa using (all_y v.y h).2
theorem at_o {rv ov : Value} {V : List DV} {k : Nat} {v : DV} (h : V[k]? = some v) : (rv :: ov :: V.flatMap DV.all)[k * 3 + 2 + 2]? = some v.o := by
  simpa using (all_o v.o h).2
/-- The row of deals lies in no other row's block. -/
theorem BokRaw.other {tD tW tI : TypeId} {w : World} {q o g n cap : Nat} {B : Bok} {ov : Value} {V : List DV} (h : BokRaw tD tW tI w q o B (.slice (some ⟨g, 0, none⟩) n cap) ov V) : ∀ u ∈ ov :: V.flatMap DV.all, ∀ k, u.ownBlock = some k → k ≠ g := by
  intro u hu k hk e
  have h1 := (List.pairwise_cons.1 h.apart).1 u hu g rfl
  exact h1 (by rw [hk, e])
/-- A deal's state is stored. -/
theorem BokRaw.st {tD tW tI : TypeId} {w : World} {q o g n cap k : Nat} {B : Bok} {ov : Value} {V : List DV} {D : Dl} (h : BokRaw tD tW tI w q o B (.slice (some ⟨g, 0, none⟩) n cap) ov V) (hl : q < w.heap.size) (hk : B.L[k]? = some D) (x : Int) : BokRaw tD tW tI (w.setCell ⟨g, k * 4 + 1, none⟩ (.int .i64 x)) q o (putD B (k : Int) { D with st := x }) (.slice (some ⟨g, 0, none⟩) n cap) ov V := by
  have hn : B.L.length = n := by
    rcases h.row.2 with ⟨e1, e0⟩ | ⟨g', cap', cur, e1, _⟩
    · cases e1
    · simp only [Value.slice.injEq] at e1; omega
  subst hn
  obtain ⟨hB, _⟩ := own_row h.row
  have hkl := (List.getElem?_eq_some_iff.1 hk).1
  have hS : Save (fun b => b = g) w (w.setCell ⟨g, k * 4 + 1, none⟩ (.int .i64 x)) := Save.setCell (O := fun b => b = g) (Save.refl _ _) (p := ⟨g, k * 4 + 1, none⟩) (fun _ => rfl) _
  have hq : ¬ q = g := by omega
  have out := h.other
  have e1 : (putD B (k : Int) { D with st := x }).L = B.L.set k { D with st := x } := by simp [putD]
  refine ⟨by rw [put_len]; exact h.len, (hS.cell (p := ⟨q, o, none⟩) hl hq).trans h.c0, (hS.cell (p := ⟨q, o + 1, none⟩) hl hq).trans h.c1, ?_, own_save h.ord hS (fun j hj => out _ (by simp) j hj), fun j E v hE hv => ?_, h.apart⟩
  · rw [e1, List.length_set, flatD_st x h.len hk]
    exact own_set h.row (by rw [flatD_length h.len]; omega) _
  · have hE' : ∃ E', B.L[j]? = some E' ∧ E.w = E'.w ∧ E.yes = E'.yes ∧ E.ov = E'.ov := by
      rw [e1] at hE
      by_cases ej : k = j
      · subst ej
        rw [List.getElem?_set_self hkl] at hE
        obtain rfl := Option.some.inj hE
        exact ⟨D, hk, rfl, rfl, rfl⟩
      · rw [List.getElem?_set_ne ej] at hE
        exact ⟨E, hE, rfl, rfl, rfl⟩
    obtain ⟨E', hE', q1, q2, q3⟩ := hE'
    obtain ⟨a, b, c⟩ := h.deal j E' v hE' hv
    obtain ⟨m1, m2, m3⟩ := mem_all hv
    rw [q1, q2, q3]
    exact ⟨own_save a hS (out _ (by simp [m1])), own_save b hS (out _ (by simp [m2])), own_save c hS (out _ (by simp [m3]))⟩
/-- The row of a deal's wants that are held is another one now. -/
theorem BokRaw.yes {tD tW tI : TypeId} {w w8 : World} {q o g n cap k : Nat} {B : Bok} {ov v8 : Value} {V : List DV} {D : Dl} {v : DV} {l : List Int} (h : BokRaw tD tW tI w q o B (.slice (some ⟨g, 0, none⟩) n cap) ov V) (hl : q < w.heap.size) (hall : ∀ u ∈ (.slice (some ⟨g, 0, none⟩) n cap : Value) :: ov :: V.flatMap DV.all, ∀ j, u.ownBlock = some j → j < w.heap.size) (hk : B.L[k]? = some D) (hv : V[k]? = some v)
    (h8 : Save (fun b => v.y.ownBlock = some b) w w8) (hr8 : w8.ownsRow (q + 1) tI 1 v8 l.length (l.map (Value.int .i64))) (hw8 : ∀ j, v8.ownBlock = some j → v.y.ownBlock = some j ∨ w.heap.size ≤ j) :
    BokRaw tD tW tI (w8.setCell ⟨g, k * 4 + 2, none⟩ v8) q o (putD B (k : Int) { D with yes := l }) (.slice (some ⟨g, 0, none⟩) n cap) ov (V.set k { v with y := v8 }) := by
  have hn : B.L.length = n := by
    rcases h.row.2 with ⟨e1, e0⟩ | ⟨g', cap', cur, e1, _⟩
    · cases e1
    · simp only [Value.slice.injEq] at e1; omega
  subst hn
  obtain ⟨hB, _⟩ := own_row h.row
  have hkl := (List.getElem?_eq_some_iff.1 hk).1
  have hvl := (List.getElem?_eq_some_iff.1 hv).1
  have hS : Save (fun b => b = g) w8 (w8.setCell ⟨g, k * 4 + 2, none⟩ v8) := Save.setCell (O := fun b => b = g) (Save.refl _ _) (p := ⟨g, k * 4 + 2, none⟩) (fun _ => rfl) _
  have hq : ¬ q = g := by omega
  have out := h.other
  have hvy := (mem_all hv).2.1
  have hgl : g < w.heap.size := hall (.slice (some ⟨g, 0, none⟩) B.L.length cap) List.mem_cons_self g rfl
  have hqy : ¬ v.y.ownBlock = some q := fun e => by
    have hr := (h.deal k D v hk hv).2.1
    have := (hr.lt q e).1
    omega
  have hgy : ¬ v.y.ownBlock = some g := fun e => out v.y (by simp [hvy]) g e rfl
  have hl8 : q < w8.heap.size := Nat.lt_of_lt_of_le hl h8.size
  have h8g : v8.ownBlock ≠ some g := fun e => (hw8 g e).elim hgy (fun q => by omega)
  have e1 : (putD B (k : Int) { D with yes := l }).L = B.L.set k { D with yes := l } := by simp [putD]
  have far : ∀ {i : Nat} {u : Value}, ((.slice (some ⟨g, 0, none⟩) B.L.length cap : Value) :: ov :: V.flatMap DV.all)[i]? = some u → i ≠ k * 3 + 1 + 2 → ∀ j, u.ownBlock = some j → ¬ v.y.ownBlock = some j := fun {i u} hi hne j h1 h2 => apart_at h.apart hi (at_y hv) hne j h1 h2
  refine ⟨by rw [put_len, List.length_set]; exact h.len, (hS.cell (p := ⟨q, o, none⟩) hl8 hq).trans ((h8.cell (p := ⟨q, o, none⟩) hl hqy).trans h.c0), (hS.cell (p := ⟨q, o + 1, none⟩) hl8 hq).trans ((h8.cell (p := ⟨q, o + 1, none⟩) hl hqy).trans h.c1), ?_, own_save (own_save h.ord h8 (fun j hj => far (i := 1) rfl (by omega) j hj)) hS (fun j hj => out _ (by simp) j hj), fun j E u hE hu => ?_, ?_⟩
  · rw [e1, List.length_set, flatD_yes l v8 h.len hk hv]
    exact own_set (own_save h.row h8 (fun j hj => far (i := 0) rfl (by omega) j hj)) (by rw [flatD_length h.len]; omega) _
  · rw [e1] at hE
    by_cases ej : k = j
    · subst ej
      rw [List.getElem?_set_self hkl] at hE
      rw [List.getElem?_set_self hvl] at hu
      obtain rfl := Option.some.inj hE
      obtain rfl := Option.some.inj hu
      obtain ⟨a, b, c⟩ := h.deal k D v hk hv
      obtain ⟨m1, m2, m3⟩ := mem_all hv
      refine ⟨own_save (own_save a h8 (fun i hi => far (at_w hv) (by omega) i hi)) hS (out _ (by simp [m1])), own_save hr8 hS (fun i hi e => h8g (by rw [hi, e])), own_save (own_save c h8 (fun i hi => far (at_o hv) (by omega) i hi)) hS (out _ (by simp [m3]))⟩
    · rw [List.getElem?_set_ne ej] at hE hu
      obtain ⟨a, b, c⟩ := h.deal j E u hE hu
      obtain ⟨m1, m2, m3⟩ := mem_all hu
      exact ⟨own_save (own_save a h8 (fun i hi => far (at_w hu) (by omega) i hi)) hS (out _ (by simp [m1])), own_save (own_save b h8 (fun i hi => far (at_y hu) (by omega) i hi)) hS (out _ (by simp [m2])), own_save (own_save c h8 (fun i hi => far (at_o hu) (by omega) i hi)) hS (out _ (by simp [m3]))⟩
  · have e2 := (all_y v8 hv).1
    show ApartV (_ :: ov :: (V.set k { v with y := v8 }).flatMap DV.all)
    rw [e2]
    have := apart_set h.apart (at_y hv) (u' := v8) (fun j hj => (hw8 j hj).imp id (fun q u hu e => by have := hall u hu j e; omega))
    simpa using this

/-- The row of the shops where a deal is over is another one now. -/
theorem BokRaw.ov' {tD tW tI : TypeId} {w w8 : World} {q o g n cap k : Nat} {B : Bok} {ov v8 : Value} {V : List DV} {D : Dl} {v : DV} {l : List Int} (h : BokRaw tD tW tI w q o B (.slice (some ⟨g, 0, none⟩) n cap) ov V) (hl : q < w.heap.size) (hall : ∀ u ∈ (.slice (some ⟨g, 0, none⟩) n cap : Value) :: ov :: V.flatMap DV.all, ∀ j, u.ownBlock = some j → j < w.heap.size) (hk : B.L[k]? = some D) (hv : V[k]? = some v)
    (h8 : Save (fun b => v.o.ownBlock = some b) w w8) (hr8 : w8.ownsRow (q + 1) tI 1 v8 l.length (l.map (Value.int .i64))) (hw8 : ∀ j, v8.ownBlock = some j → v.o.ownBlock = some j ∨ w.heap.size ≤ j) :
    BokRaw tD tW tI (w8.setCell ⟨g, k * 4 + 3, none⟩ v8) q o (putD B (k : Int) { D with ov := l }) (.slice (some ⟨g, 0, none⟩) n cap) ov (V.set k { v with o := v8 }) := by
  have hn : B.L.length = n := by
    rcases h.row.2 with ⟨e1, e0⟩ | ⟨g', cap', cur, e1, _⟩
    · cases e1
    · simp only [Value.slice.injEq] at e1; omega
  subst hn
  obtain ⟨hB, _⟩ := own_row h.row
  have hkl := (List.getElem?_eq_some_iff.1 hk).1
  have hvl := (List.getElem?_eq_some_iff.1 hv).1
  have hS : Save (fun b => b = g) w8 (w8.setCell ⟨g, k * 4 + 3, none⟩ v8) := Save.setCell (O := fun b => b = g) (Save.refl _ _) (p := ⟨g, k * 4 + 3, none⟩) (fun _ => rfl) _
  have hq : ¬ q = g := by omega
  have out := h.other
  have hvy := (mem_all hv).2.2
  have hgl : g < w.heap.size := hall (.slice (some ⟨g, 0, none⟩) B.L.length cap) List.mem_cons_self g rfl
  have hqy : ¬ v.o.ownBlock = some q := fun e => by
    have hr := (h.deal k D v hk hv).2.2
    have := (hr.lt q e).1
    omega
  have hgy : ¬ v.o.ownBlock = some g := fun e => out v.o (by simp [hvy]) g e rfl
  have hl8 : q < w8.heap.size := Nat.lt_of_lt_of_le hl h8.size
  have h8g : v8.ownBlock ≠ some g := fun e => (hw8 g e).elim hgy (fun q => by omega)
  have e1 : (putD B (k : Int) { D with ov := l }).L = B.L.set k { D with ov := l } := by simp [putD]
  have far : ∀ {i : Nat} {u : Value}, ((.slice (some ⟨g, 0, none⟩) B.L.length cap : Value) :: ov :: V.flatMap DV.all)[i]? = some u → i ≠ k * 3 + 2 + 2 → ∀ j, u.ownBlock = some j → ¬ v.o.ownBlock = some j := fun {i u} hi hne j h1 h2 => apart_at h.apart hi (at_o hv) hne j h1 h2
  refine ⟨by rw [put_len, List.length_set]; exact h.len, (hS.cell (p := ⟨q, o, none⟩) hl8 hq).trans ((h8.cell (p := ⟨q, o, none⟩) hl hqy).trans h.c0), (hS.cell (p := ⟨q, o + 1, none⟩) hl8 hq).trans ((h8.cell (p := ⟨q, o + 1, none⟩) hl hqy).trans h.c1), ?_, own_save (own_save h.ord h8 (fun j hj => far (i := 1) rfl (by omega) j hj)) hS (fun j hj => out _ (by simp) j hj), fun j E u hE hu => ?_, ?_⟩
  · rw [e1, List.length_set, flatD_ov l v8 h.len hk hv]
    exact own_set (own_save h.row h8 (fun j hj => far (i := 0) rfl (by omega) j hj)) (by rw [flatD_length h.len]; omega) _
  · rw [e1] at hE
    by_cases ej : k = j
    · subst ej
      rw [List.getElem?_set_self hkl] at hE
      rw [List.getElem?_set_self hvl] at hu
      obtain rfl := Option.some.inj hE
      obtain rfl := Option.some.inj hu
      obtain ⟨a, b, c⟩ := h.deal k D v hk hv
      obtain ⟨m1, m2, m3⟩ := mem_all hv
      refine ⟨own_save (own_save a h8 (fun i hi => far (at_w hv) (by omega) i hi)) hS (out _ (by simp [m1])), own_save (own_save b h8 (fun i hi => far (at_y hv) (by omega) i hi)) hS (out _ (by simp [m2])), own_save hr8 hS (fun i hi e => h8g (by rw [hi, e]))⟩
    · rw [List.getElem?_set_ne ej] at hE hu
      obtain ⟨a, b, c⟩ := h.deal j E u hE hu
      obtain ⟨m1, m2, m3⟩ := mem_all hu
      exact ⟨own_save (own_save a h8 (fun i hi => far (at_w hu) (by omega) i hi)) hS (out _ (by simp [m1])), own_save (own_save b h8 (fun i hi => far (at_y hu) (by omega) i hi)) hS (out _ (by simp [m2])), own_save (own_save c h8 (fun i hi => far (at_o hu) (by omega) i hi)) hS (out _ (by simp [m3]))⟩
  · have e2 := (all_o v8 hv).1
    show ApartV (_ :: ov :: (V.set k { v with o := v8 }).flatMap DV.all)
    rw [e2]
    have := apart_set h.apart (at_o hv) (u' := v8) (fun j hj => (hw8 j hj).imp id (fun q u hu e => by have := hall u hu j e; omega))
    simpa using this

/-- The order in which deals were done is another row now. -/
theorem BokRaw.ordr {tD tW tI : TypeId} {w w8 : World} {q o : Nat} {B : Bok} {rv ov v8 : Value} {V : List DV} {l : List Int} (h : BokRaw tD tW tI w q o B rv ov V) (hl : q < w.heap.size) (hall : ∀ u ∈ rv :: ov :: V.flatMap DV.all, ∀ j, u.ownBlock = some j → j < w.heap.size)
    (h8 : Save (fun b => ov.ownBlock = some b) w w8) (hr8 : w8.ownsRow (q + 1) tI 1 v8 l.length (l.map (Value.int .i64))) (hw8 : ∀ j, v8.ownBlock = some j → ov.ownBlock = some j ∨ w.heap.size ≤ j) :
    BokRaw tD tW tI (w8.setCell ⟨q, o + 1, none⟩ v8) q o { B with ord := l } rv v8 V := by
  have hqo : ¬ ov.ownBlock = some q := fun e => by
    have := (h.ord.lt q e).1
    omega
  have far : ∀ {i : Nat} {u : Value}, (rv :: ov :: V.flatMap DV.all)[i]? = some u → i ≠ 1 → ∀ j, u.ownBlock = some j → ¬ ov.ownBlock = some j := fun {i u} hi hne j h1 h2 => apart_at h.apart hi (show (rv :: ov :: V.flatMap DV.all)[1]? = some ov from rfl) hne j h1 h2
  have bq : ∀ {e s : Nat} {u : Value} {m : Nat} {xs : List Value}, w8.ownsRow (q + 1) e s u m xs → (w8.setCell ⟨q, o + 1, none⟩ v8).ownsRow (q + 1) e s u m xs := fun hr => ownsRow_setCell_below hr (Nat.lt_succ_self q) _
  refine ⟨h.len, (cell_set_off (by omega)).trans ((h8.cell (p := ⟨q, o, none⟩) hl hqo).trans h.c0), cell_set_same ((h8.cell (p := ⟨q, o + 1, none⟩) hl hqo).trans h.c1), bq (own_save h.row h8 (fun j hj => far (i := 0) rfl (by omega) j hj)), bq hr8, fun j E u hE hu => ?_, ?_⟩
  · obtain ⟨a, b, c⟩ := h.deal j E u hE hu
    exact ⟨bq (own_save a h8 (fun i hi => far (at_w hu) (by omega) i hi)), bq (own_save b h8 (fun i hi => far (at_y hu) (by omega) i hi)), bq (own_save c h8 (fun i hi => far (at_o hu) (by omega) i hi))⟩
  · exact apart_set h.apart (show (rv :: ov :: V.flatMap DV.all)[1]? = some ov from rfl) (u' := v8) (fun j hj => (hw8 j hj).imp id (fun q u hu e => by have := hall u hu j e; omega))
/-- A deal more: a new row of wants, and the row of deals is another one now. -/
theorem BokRaw.begin {tD tW tI : TypeId} {w w7 w8 : World} {q o : Nat} {B : Bok} {rv ov v7 v8 : Value} {V : List DV} {l : List (Int × Int)} (h : BokRaw tD tW tI w q o B rv ov V) (hl : q < w.heap.size) (hall : ∀ u ∈ rv :: ov :: V.flatMap DV.all, ∀ j, u.ownBlock = some j → j < w.heap.size)
    (h7 : Below w.heap.size w w7) (hr7 : w7.ownsRow (q + 1) tW 2 v7 l.length (flat l)) (hw7 : ∀ j, v7.ownBlock = some j → w.heap.size ≤ j ∧ j < w7.heap.size)
    (h8 : Save (fun b => rv.ownBlock = some b) w7 w8) (hr8 : w8.ownsRow (q + 1) tD 4 v8 (B.L.length + 1) (flatD B.L V ++ [v7, .int .i64 0, .slice none 0 0, .slice none 0 0])) (hw8 : ∀ j, v8.ownBlock = some j → rv.ownBlock = some j ∨ w7.heap.size ≤ j) :
    BokRaw tD tW tI (w8.setCell ⟨q, o, none⟩ v8) q o { B with L := B.L ++ [⟨l, 0, [], []⟩] } v8 ov (V ++ [⟨v7, .slice none 0 0, .slice none 0 0⟩]) := by
  have hq7 : q < w7.heap.size := Nat.lt_of_lt_of_le hl h7.size
  have hqr : ¬ rv.ownBlock = some q := fun e => by
    have := (h.row.lt q e).1
    omega
  have hc : ∀ j, (w8.cell? ⟨q, j, none⟩) = w.cell? ⟨q, j, none⟩ := fun j => (h8.cell (p := ⟨q, j, none⟩) hq7 hqr).trans (h7.cell (p := ⟨q, j, none⟩) hl)
  have far : ∀ {i : Nat} {u : Value}, (rv :: ov :: V.flatMap DV.all)[i]? = some u → i ≠ 0 → ∀ j, u.ownBlock = some j → ¬ rv.ownBlock = some j := fun {i u} hi hne j h1 h2 => apart_at h.apart hi (show (rv :: ov :: V.flatMap DV.all)[0]? = some rv from rfl) hne j h1 h2
  have bq : ∀ {e s : Nat} {u : Value} {m : Nat} {xs : List Value}, w8.ownsRow (q + 1) e s u m xs → (w8.setCell ⟨q, o, none⟩ v8).ownsRow (q + 1) e s u m xs := fun hr => ownsRow_setCell_below hr (Nat.lt_succ_self q) _
  have up : ∀ {e s : Nat} {u : Value} {m : Nat} {xs : List Value}, w.ownsRow (q + 1) e s u m xs → (∀ j, u.ownBlock = some j → ¬ rv.ownBlock = some j) → (w8.setCell ⟨q, o, none⟩ v8).ownsRow (q + 1) e s u m xs := fun hr hf => bq (own_save (own_next hr h7) h8 hf)
  have nn : ∀ k, ¬ (Value.slice none 0 0).ownBlock = some k := fun k e => by simp [Value.ownBlock] at e
  refine ⟨by simpa using h.len, cell_set_same ((hc o).trans h.c0), (cell_set_off (by omega)).trans ((hc (o + 1)).trans h.c1), ?_, up h.ord (fun j hj => far (i := 1) rfl (by omega) j hj), fun j E u hE hu => ?_, ?_⟩
  · show World.ownsRow _ _ _ _ _ (B.L ++ [_]).length (flatD (B.L ++ [⟨l, 0, [], []⟩]) (V ++ [⟨v7, .slice none 0 0, .slice none 0 0⟩]))
    rw [flatD_snoc _ _ h.len, List.length_append]
    exact bq hr8
  · have hE' : (B.L ++ [(⟨l, 0, [], []⟩ : Dl)])[j]? = some E := hE
    by_cases hj : j < B.L.length
    · rw [List.getElem?_append_left hj] at hE'
      rw [List.getElem?_append_left (by rw [h.len]; exact hj)] at hu
      obtain ⟨a, b, c⟩ := h.deal j E u hE' hu
      exact ⟨up a (fun i hi => far (at_w hu) (by omega) i hi), up b (fun i hi => far (at_y hu) (by omega) i hi), up c (fun i hi => far (at_o hu) (by omega) i hi)⟩
    · have hj' := (List.getElem?_eq_some_iff.1 hE').1
      simp at hj'
      have ej : j = B.L.length := by omega
      subst ej
      simp at hE'
      rw [← h.len] at hu
      simp at hu
      subst hE'
      subst hu
      refine ⟨bq (own_save hr7 h8 (fun j hj e => ?_)), World.ownsRow_nil _ _ _ _, World.ownsRow_nil _ _ _ _⟩
      have h1 := hw7 j hj
      have h2 := hall rv (by simp) j e
      omega
  · have hfl : (V ++ [(⟨v7, .slice none 0 0, .slice none 0 0⟩ : DV)]).flatMap DV.all = V.flatMap DV.all ++ [v7, .slice none 0 0, .slice none 0 0] := by simp [DV.all]
    rw [hfl]
    have h1 : ApartV ((rv :: ov :: V.flatMap DV.all) ++ [v7, .slice none 0 0, .slice none 0 0]) := by
      refine apart_more h.apart ?_ ?_
      · refine List.pairwise_cons.2 ⟨fun u hu k _ e => ?_, List.pairwise_cons.2 ⟨fun u _ k e _ => nn k e, List.pairwise_singleton _ _⟩⟩
        simp at hu
        rw [hu] at e
        exact nn k e
      · intro u hu k hk x hx e
        simp at hu
        rcases hu with rfl | rfl
        · have h1 := hw7 k hk
          have h2 := hall x hx k e
          omega
        · exact nn k hk
    have h2 := apart_set (l := (rv :: ov :: V.flatMap DV.all) ++ [v7, .slice none 0 0, .slice none 0 0]) (i := 0) (u := rv) (u' := v8) h1 rfl (fun j hj => (hw8 j hj).imp id (fun q x hx e => by
      rcases List.mem_append.1 hx with z | z
      · have := hall x z j e
        have := h7.size
        omega
      · simp at z
        rcases z with rfl | rfl
        · have := hw7 j e; omega
        · exact nn j e))
    simpa using h2

/-- All other cells of the block q are as they were. -/
def Rest2 (q o : Nat) (w w' : World) : Prop := ∀ j, j ≠ o → j ≠ o + 1 → w'.cell? ⟨q, j, none⟩ = w.cell? ⟨q, j, none⟩
/-- What a step leaves: the book is B', all but O is as it was, all other cells of q are. -/
def BokTo (tD tW tI : TypeId) (O : Nat → Prop) (w w' : World) (q o : Nat) (B' : Bok) : Prop := ∃ O', BokIn tD tW tI O' w' q o B' ∧ Save O w w' ∧ Moved O O' w ∧ Rest2 q o w w'
theorem BokTo.stay {tD tW tI : TypeId} {O : Nat → Prop} {w w' : World} {q o : Nat} {B : Bok} (h : BokIn tD tW tI O w q o B) (hb : Below w.heap.size w w') : BokTo tD tW tI O w w' q o B :=
  ⟨O, h.next hb, .of_below hb, .refl _ _, fun j _ _ => hb.cell (p := ⟨q, j, none⟩) h.lt⟩
theorem BokTo.behind {tD tW tI : TypeId} {O : Nat → Prop} {w w1 w' : World} {q o : Nat} {B B' : Bok} (h : BokIn tD tW tI O w q o B) (hb : Below w.heap.size w w1) (hs : BokTo tD tW tI O w1 w' q o B') : BokTo tD tW tI O w w' q o B' := by
  obtain ⟨O', h1, h2, h3, h4⟩ := hs
  exact ⟨O', h1, (Save.of_below hb).trans h2 (fun _ _ hj => hj), fun k hk => (h3 k hk).imp id (fun q => Nat.le_trans hb.size q), fun j a b => (h4 j a b).trans (hb.cell (p := ⟨q, j, none⟩) h.lt)⟩
/-- The rows are as a step has them: the book behind it. -/
theorem bok_to {tD tW tI : TypeId} {O : Nat → Prop} {w w9 : World} {q o : Nat} {B' : Bok} {rv ov : Value} {V : List DV} (hO : ∀ k, O k → k < w.heap.size) (hm : O q) (hS : Save O w w9) (hR : BokRaw tD tW tI w9 q o B' rv ov V) (hf : ∀ k, w9.frozen? ⟨q, k, none⟩ = false) (hrow : ∀ u ∈ rv :: ov :: V.flatMap DV.all, ∀ k, u.ownBlock = some k → (O k ∨ w.heap.size ≤ k) ∧ k < w9.heap.size) (h2 : Rest2 q o w w9) : BokTo tD tW tI O w w9 q o B' := by
  refine ⟨fun k => O k ∨ ∃ u ∈ rv :: ov :: V.flatMap DV.all, u.ownBlock = some k, ⟨fun k hk => ?_, .inl hm, hf, rv, ov, V, hR, fun u hu k hk => .inr ⟨u, hu, hk⟩⟩, hS, fun k hk => ?_, h2⟩
  · rcases hk with hk | ⟨u, hu, hk⟩
    · exact Nat.lt_of_lt_of_le (hO k hk) hS.size
    · exact (hrow u hu k hk).2
  · rcases hk with hk | ⟨u, hu, hk⟩
    · exact .inl hk
    · exact (hrow u hu k hk).1

end Go.Proofs.Ytndggiefgpdiiac
