/- How package broker's Broker lies in memory: a row of deals, nine cells each, and a row of wants for each of them. -/
import Derived.Test.YtndggiefgpdiiacQBox
import Derived.Test.YtndggiefgpdiiacTBrk
namespace Go.Proofs.Ytndggiefgpdiiac
open Go.RowKit

theorem fm_at {α β : Type} {f : α → List β} {s : Nat} (hf : ∀ x, (f x).length = s) : ∀ {l : List α} {k : Nat} {x : α}, l[k]? = some x → ∀ {j : Nat}, j < s → (l.flatMap f)[k * s + j]? = (f x)[j]?
  | y :: r, 0, x, h, j, hj => by
    obtain rfl : y = x := by simpa using h
    rw [List.flatMap_cons, Nat.zero_mul, Nat.zero_add, List.getElem?_append_left (by rw [hf]; exact hj)]
  | y :: r, k + 1, x, h, j, hj => by
    have := fm_at hf (l := r) (k := k) (x := x) (by simpa using h) hj
    rw [List.flatMap_cons, List.getElem?_append_right (by rw [hf, Nat.succ_mul]; omega), hf, show (k + 1) * s + j - s = k * s + j by rw [Nat.succ_mul]; omega]
    exact this
theorem fm_len {α β : Type} {f : α → List β} {s : Nat} (hf : ∀ x, (f x).length = s) : ∀ (l : List α), (l.flatMap f).length = l.length * s
  | [] => by simp
  | y :: r => by rw [List.flatMap_cons, List.length_append, fm_len hf r, hf, List.length_cons, Nat.succ_mul]; omega
theorem fm_set {α β : Type} {f : α → List β} {s : Nat} (hf : ∀ x, (f x).length = s) : ∀ {l : List α} {k : Nat} {x y : α} {j : Nat} {u : β}, l[k]? = some x → j < s → f y = (f x).set j u → (l.set k y).flatMap f = (l.flatMap f).set (k * s + j) u
  | z :: r, 0, x, y, j, u, h, hj, e => by
    obtain rfl : z = x := by simpa using h
    rw [List.set_cons_zero, List.flatMap_cons, List.flatMap_cons, e, Nat.zero_mul, Nat.zero_add, List.set_append_left _ _ (by rw [hf]; exact hj)]
  | z :: r, k + 1, x, y, j, u, h, hj, e => by
    have := fm_set hf (l := r) (k := k) (x := x) (y := y) (j := j) (u := u) (by simpa using h) hj e
    rw [List.set_cons_succ, List.flatMap_cons, List.flatMap_cons, this, List.set_append_right _ _ (by rw [hf, Nat.succ_mul]; omega), hf, show (k + 1) * s + j - s = k * s + j by rw [Nat.succ_mul]; omega]

/-- A deal, cell by cell; v: the head of its wants' row. -/
def dcells (x : Dl × Value) : List Value := [x.2, .int .i64 x.1.st, .bool (decide ((0 : Int) ∈ x.1.yes)), .bool (decide ((1 : Int) ∈ x.1.yes)), .bool (decide ((2 : Int) ∈ x.1.yes)), .bool (decide ((3 : Int) ∈ x.1.yes)), .bool (decide ((0 : Int) ∈ x.1.ov)), .bool (decide ((1 : Int) ∈ x.1.ov)), .bool (decide ((2 : Int) ∈ x.1.ov))]
theorem dcells_len (x : Dl × Value) : (dcells x).length = 9 := rfl
def flatB (P : List (Dl × Value)) : List Value := P.flatMap dcells
theorem flatB_length (P : List (Dl × Value)) : (flatB P).length = P.length * 9 := fm_len dcells_len P
theorem flatB_snoc (P : List (Dl × Value)) (x : Dl × Value) : flatB (P ++ [x]) = flatB P ++ dcells x := by unfold flatB; simp
theorem flatB_at {P : List (Dl × Value)} {k : Nat} {x : Dl × Value} (h : P[k]? = some x) {j : Nat} (hj : j < 9) : (flatB P)[k * 9 + j]? = (dcells x)[j]? := fm_at dcells_len h hj
theorem flatB_set {P : List (Dl × Value)} {k : Nat} {x y : Dl × Value} {j : Nat} {u : Value} (h : P[k]? = some x) (hj : j < 9) (e : dcells y = (dcells x).set j u) : flatB (P.set k y) = (flatB P).set (k * 9 + j) u := fm_set dcells_len h hj e

/-- A broker at the block q: the heads of its rows. -/
structure BrkRaw (w : World) (q : Nat) (B : Bok) (rv dv : Value) (P : List (Dl × Value)) : Prop where
  fst : B.L = P.map Prod.fst
  c0 : w.cell? ⟨q, 0, none⟩ = some rv
  c1 : w.cell? ⟨q, 1, none⟩ = some dv
  row : w.ownsRow (q + 1) 53 9 rv P.length (flatB P)
  ord : w.ownsRow (q + 1) 3 1 dv B.ord.length (B.ord.map (Value.int .i64))
  deal : ∀ x ∈ P, w.ownsRow (q + 1) 35 2 x.2 x.1.w.length (flat x.1.w)
  apart : ApartV (rv :: dv :: P.map Prod.snd)
/-- A broker, in blocks of O. -/
structure BrkIn (O : Nat → Prop) (w : World) (q : Nat) (B : Bok) : Prop where
  own : ∀ k, O k → k < w.heap.size
  mine : O q
  loose : ∀ k, w.frozen? ⟨q, k, none⟩ = false
  raw : ∃ (rv dv : Value) (P : List (Dl × Value)), BrkRaw w q B rv dv P ∧ ∀ u ∈ rv :: dv :: P.map Prod.snd, ∀ k, u.ownBlock = some k → O k
theorem BrkIn.lt {O : Nat → Prop} {w : World} {q : Nat} {B : Bok} (h : BrkIn O w q B) : q < w.heap.size := h.own q h.mine
theorem BrkRaw.len {w : World} {q : Nat} {B : Bok} {rv dv : Value} {P : List (Dl × Value)} (h : BrkRaw w q B rv dv P) : B.L.length = P.length := by rw [h.fst, List.length_map]
theorem BrkRaw.at {w : World} {q : Nat} {B : Bok} {rv dv : Value} {P : List (Dl × Value)} (h : BrkRaw w q B rv dv P) {k : Nat} {D : Dl} (hk : B.L[k]? = some D) : ∃ v, P[k]? = some (D, v) := by
  rw [h.fst, List.getElem?_map] at hk
  cases hp : P[k]? with
  | none => rw [hp] at hk; cases hk
  | some x =>
    rw [hp] at hk
    obtain rfl := Option.some.inj hk
    exact ⟨x.2, rfl⟩
theorem BrkRaw.save {O' : Nat → Prop} {w w1 : World} {q : Nat} {B : Bok} {rv dv : Value} {P : List (Dl × Value)} (h : BrkRaw w q B rv dv P) (hl : q < w.heap.size) (hb : Save O' w w1) (hq : ¬ O' q) (out : ∀ u ∈ rv :: dv :: P.map Prod.snd, ∀ k, u.ownBlock = some k → ¬ O' k) : BrkRaw w1 q B rv dv P :=
  ⟨h.fst, (hb.cell (p := ⟨q, 0, none⟩) hl hq).trans h.c0, (hb.cell (p := ⟨q, 1, none⟩) hl hq).trans h.c1, own_save h.row hb (out rv (by simp)), own_save h.ord hb (out dv (by simp)), fun x hx => own_save (h.deal x hx) hb (out _ (List.mem_cons_of_mem _ (List.mem_cons_of_mem _ (List.mem_map_of_mem hx)))), h.apart⟩
theorem BrkIn.save {O O' : Nat → Prop} {w w1 : World} {q : Nat} {B : Bok} (h : BrkIn O w q B) (hb : Save O' w w1) (hn : ∀ k, O k → ¬ O' k) : BrkIn O w1 q B := by
  obtain ⟨rv, dv, P, h1, h7⟩ := h.raw
  have hl := h.lt
  have hq := hn q h.mine
  exact ⟨fun k hk => Nat.lt_of_lt_of_le (h.own k hk) hb.size, h.mine, fun k => (hb.frozen (p := ⟨q, k, none⟩) hl hq).trans (h.loose k), rv, dv, P, h1.save hl hb hq (fun u hu k hk => hn k (h7 u hu k hk)), h7⟩
theorem BrkIn.next {O : Nat → Prop} {w w1 : World} {q : Nat} {B : Bok} (h : BrkIn O w q B) (hb : Below w.heap.size w w1) : BrkIn O w1 q B :=
  h.save (O' := fun _ => False) (.of_below hb) (fun _ _ q => q)
/-- What a step leaves: the book is B', all but O is as it was. -/
def BrkTo (O : Nat → Prop) (w w' : World) (q : Nat) (B' : Bok) : Prop := ∃ O', BrkIn O' w' q B' ∧ Save O w w' ∧ Moved O O' w
theorem BrkTo.stay {O : Nat → Prop} {w w' : World} {q : Nat} {B : Bok} (h : BrkIn O w q B) (hb : Below w.heap.size w w') : BrkTo O w w' q B := ⟨O, h.next hb, .of_below hb, .refl _ _⟩
theorem BrkTo.behind {O : Nat → Prop} {w w1 w' : World} {q : Nat} {B' : Bok} (hb : Below w.heap.size w w1) (hs : BrkTo O w1 w' q B') : BrkTo O w w' q B' := by
  obtain ⟨O', h1, h2, h3⟩ := hs
  exact ⟨O', h1, (Save.of_below hb).trans h2 (fun _ _ hj => hj), fun k hk => (h3 k hk).imp id (fun q => Nat.le_trans hb.size q)⟩
theorem BrkTo.next {O : Nat → Prop} {w w1 w' : World} {q : Nat} {B' : Bok} (hs : BrkTo O w w1 q B') (hb : Below w1.heap.size w1 w') : BrkTo O w w' q B' := by
  obtain ⟨O', h1, h2, h3⟩ := hs
  exact ⟨O', h1.next hb, h2.next hb, h3⟩
/-- The rows are as a step has them: the broker behind it. -/
theorem brk_to {O : Nat → Prop} {w w9 : World} {q : Nat} {B' : Bok} {rv dv : Value} {P : List (Dl × Value)} (hO : ∀ k, O k → k < w.heap.size) (hm : O q) (hS : Save O w w9) (hR : BrkRaw w9 q B' rv dv P) (hf : ∀ k, w9.frozen? ⟨q, k, none⟩ = false) (hrow : ∀ u ∈ rv :: dv :: P.map Prod.snd, ∀ k, u.ownBlock = some k → (O k ∨ w.heap.size ≤ k) ∧ k < w9.heap.size) : BrkTo O w w9 q B' := by
  refine ⟨fun k => O k ∨ ∃ u ∈ rv :: dv :: P.map Prod.snd, u.ownBlock = some k, ⟨fun k hk => ?_, .inl hm, hf, rv, dv, P, hR, fun u hu k hk => .inr ⟨u, hu, hk⟩⟩, hS, fun k hk => ?_⟩
  · rcases hk with hk | ⟨u, hu, hk⟩
    · exact Nat.lt_of_lt_of_le (hO k hk) hS.size
    · exact (hrow u hu k hk).2
  · rcases hk with hk | ⟨u, hu, hk⟩
    · exact .inl hk
    · exact (hrow u hu k hk).1
theorem map_set_snd {P : List (Dl × Value)} {k : Nat} {D D' : Dl} {v : Value} (hk : P[k]? = some (D, v)) : (P.set k (D', v)).map Prod.snd = P.map Prod.snd := by
  rw [List.map_set]
  apply List.ext_getElem?
  intro j
  by_cases e : k = j
  · subst e
    have hkl := (List.getElem?_eq_some_iff.1 hk).1
    rw [List.getElem?_set_self (by simpa using hkl), List.getElem?_map, hk]
    rfl
  · rw [List.getElem?_set_ne e]
theorem BrkRaw.gcap {w : World} {q g n cap : Nat} {B : Bok} {dv : Value} {P : List (Dl × Value)} (h : BrkRaw w q B (.slice (some ⟨g, 0, none⟩) n cap) dv P) : P.length = n := by
  rcases h.row.2 with ⟨e1, e0⟩ | ⟨g', cap', cur, e1, _⟩
  · cases e1
  · simp only [Value.slice.injEq] at e1; omega
/-- One cell of a deal is stored. -/
theorem BrkRaw.set {w : World} {q g n cap k j : Nat} {B : Bok} {dv u v : Value} {P : List (Dl × Value)} {D D' : Dl} (h : BrkRaw w q B (.slice (some ⟨g, 0, none⟩) n cap) dv P) (hl : q < w.heap.size) (hk : P[k]? = some (D, v)) (hj : j < 9) (hw : D'.w = D.w) (e : dcells (D', v) = (dcells (D, v)).set j u) : BrkRaw (w.setCell ⟨g, k * 9 + j, none⟩ u) q (putD B (k : Int) D') (.slice (some ⟨g, 0, none⟩) n cap) dv (P.set k (D', v)) := by
  have hn := h.gcap
  subst hn
  obtain ⟨hB, _⟩ := own_row h.row
  have hkl := (List.getElem?_eq_some_iff.1 hk).1
  have hS : Save (fun b => b = g) w (w.setCell ⟨g, k * 9 + j, none⟩ u) := Save.setCell (O := fun b => b = g) (Save.refl _ _) (p := ⟨g, k * 9 + j, none⟩) (fun _ => rfl) _
  have hq : ¬ q = g := by omega
  have out : ∀ u ∈ dv :: P.map Prod.snd, ∀ i, u.ownBlock = some i → i ≠ g := fun u hu i hi e => (List.pairwise_cons.1 h.apart).1 u hu g rfl (by rw [hi, e])
  refine ⟨?_, (hS.cell (p := ⟨q, 0, none⟩) hl hq).trans h.c0, (hS.cell (p := ⟨q, 1, none⟩) hl hq).trans h.c1, ?_, own_save h.ord hS (fun i hi => out _ (by simp) i hi), fun x hx => ?_, by rw [map_set_snd hk]; exact h.apart⟩
  · show B.L.set (k : Int).toNat D' = _
    rw [List.map_set, ← h.fst]
    simp
  · rw [flatB_set hk hj e, List.length_set]
    exact own_set h.row (by rw [flatB_length]; omega) _
  · rcases mem_set hx with rfl | hx
    · have hm := List.mem_of_getElem? hk
      show World.ownsRow _ _ _ _ v D'.w.length (flat D'.w)
      rw [hw]
      exact own_save (h.deal _ hm) hS (fun i hi => out _ (List.mem_cons_of_mem _ (List.mem_map_of_mem hm)) i hi)
    · exact own_save (h.deal _ hx) hS (fun i hi => out _ (List.mem_cons_of_mem _ (List.mem_map_of_mem hx)) i hi)
/-- The row of deals is another one: the deals' wants are as they were. -/
theorem BrkRaw.rows {w w' : World} {q g n cap : Nat} {B : Bok} {dv : Value} {P P' : List (Dl × Value)} (h : BrkRaw w q B (.slice (some ⟨g, 0, none⟩) n cap) dv P) (hl : q < w.heap.size) (hS : Save (fun b => b = g) w w') (hr : w'.ownsRow (q + 1) 53 9 (.slice (some ⟨g, 0, none⟩) n cap) P'.length (flatB P')) (hs : P'.map (fun x => (x.1.w, x.2)) = P.map (fun x => (x.1.w, x.2))) : BrkRaw w' q { B with L := P'.map Prod.fst } (.slice (some ⟨g, 0, none⟩) n cap) dv P' := by
  have hn := h.gcap
  subst hn
  obtain ⟨hB, _⟩ := own_row h.row
  have hq : ¬ q = g := by omega
  have out : ∀ u ∈ dv :: P.map Prod.snd, ∀ i, u.ownBlock = some i → i ≠ g := fun u hu i hi e => (List.pairwise_cons.1 h.apart).1 u hu g rfl (by rw [hi, e])
  have e2 : P'.map Prod.snd = P.map Prod.snd := by
    have := congrArg (List.map Prod.snd) hs
    simpa [List.map_map, Function.comp_def] using this
  refine ⟨rfl, (hS.cell (p := ⟨q, 0, none⟩) hl hq).trans h.c0, (hS.cell (p := ⟨q, 1, none⟩) hl hq).trans h.c1, hr, own_save h.ord hS (fun i hi => out _ (by simp) i hi), fun x hx => ?_, by rw [e2]; exact h.apart⟩
  have hm : (x.1.w, x.2) ∈ P.map (fun x => (x.1.w, x.2)) := by rw [← hs]; exact List.mem_map_of_mem (f := fun x : Dl × Value => (x.1.w, x.2)) hx
  obtain ⟨y, hy, e⟩ := List.mem_map.1 hm
  simp only [Prod.mk.injEq] at e
  have := h.deal y hy
  rw [e.1, e.2] at this
  exact own_save this hS (fun i hi => out _ (List.mem_cons_of_mem _ (by rw [← e2]; exact List.mem_map_of_mem hx)) i hi)
/-- The order in which deals were done is another row now. -/
theorem BrkRaw.ordr {w w8 : World} {q : Nat} {B : Bok} {rv dv v8 : Value} {P : List (Dl × Value)} {l : List Int} (h : BrkRaw w q B rv dv P) (hl : q < w.heap.size) (hall : ∀ u ∈ rv :: dv :: P.map Prod.snd, ∀ j, u.ownBlock = some j → j < w.heap.size)
    (h8 : Save (fun b => dv.ownBlock = some b) w w8) (hr8 : w8.ownsRow (q + 1) 3 1 v8 l.length (l.map (Value.int .i64))) (hw8 : ∀ j, v8.ownBlock = some j → dv.ownBlock = some j ∨ w.heap.size ≤ j) :
    BrkRaw (w8.setCell ⟨q, 1, none⟩ v8) q { B with ord := l } rv v8 P := by
  have hqo : ¬ dv.ownBlock = some q := fun e => by
    have := (h.ord.lt q e).1
    omega
  have far : ∀ {i : Nat} {u : Value}, (rv :: dv :: P.map Prod.snd)[i]? = some u → i ≠ 1 → ∀ j, u.ownBlock = some j → ¬ dv.ownBlock = some j := fun {i u} hi hne j h1 h2 => apart_at h.apart hi (show (rv :: dv :: P.map Prod.snd)[1]? = some dv from rfl) hne j h1 h2
  have bq : ∀ {e s : Nat} {u : Value} {m : Nat} {xs : List Value}, w8.ownsRow (q + 1) e s u m xs → (w8.setCell ⟨q, 1, none⟩ v8).ownsRow (q + 1) e s u m xs := fun hr => ownsRow_setCell_below hr (Nat.lt_succ_self q) _
  refine ⟨h.fst, (cell_set_off (by omega)).trans ((h8.cell (p := ⟨q, 0, none⟩) hl hqo).trans h.c0), cell_set_same ((h8.cell (p := ⟨q, 1, none⟩) hl hqo).trans h.c1), bq (own_save h.row h8 (fun j hj => far (i := 0) rfl (by omega) j hj)), bq hr8, fun x hx => ?_, ?_⟩
  · obtain ⟨k, hk, rfl⟩ := List.getElem_of_mem hx
    exact bq (own_save (h.deal _ hx) h8 (fun i hi => far (i := k + 2) (u := P[k].2) (by simp [hk]) (by omega) i hi))
  · exact apart_set h.apart (show (rv :: dv :: P.map Prod.snd)[1]? = some dv from rfl) (u' := v8) (fun j hj => (hw8 j hj).imp id (fun q u hu e => by have := hall u hu j e; omega))
/-- A deal more: a new row of wants, and the row of deals is another one now. -/
theorem BrkRaw.begin {w w7 w8 : World} {q : Nat} {B : Bok} {rv dv v7 v8 : Value} {P : List (Dl × Value)} {l : List (Int × Int)} (h : BrkRaw w q B rv dv P) (hl : q < w.heap.size) (hall : ∀ u ∈ rv :: dv :: P.map Prod.snd, ∀ j, u.ownBlock = some j → j < w.heap.size)
    (h7 : Below w.heap.size w w7) (hr7 : w7.ownsRow (q + 1) 35 2 v7 l.length (flat l)) (hw7 : ∀ j, v7.ownBlock = some j → w.heap.size ≤ j ∧ j < w7.heap.size)
    (h8 : Save (fun b => rv.ownBlock = some b) w7 w8) (hr8 : w8.ownsRow (q + 1) 53 9 v8 (P.length + 1) (flatB P ++ [v7, .int .i64 0, .bool false, .bool false, .bool false, .bool false, .bool false, .bool false, .bool false])) (hw8 : ∀ j, v8.ownBlock = some j → rv.ownBlock = some j ∨ w7.heap.size ≤ j) :
    BrkRaw (w8.setCell ⟨q, 0, none⟩ v8) q { B with L := B.L ++ [⟨l, 0, [], []⟩] } v8 dv (P ++ [(⟨l, 0, [], []⟩, v7)]) := by
  have hq7 : q < w7.heap.size := Nat.lt_of_lt_of_le hl h7.size
  have hqr : ¬ rv.ownBlock = some q := fun e => by
    have := (h.row.lt q e).1
    omega
  have hc : ∀ j, (w8.cell? ⟨q, j, none⟩) = w.cell? ⟨q, j, none⟩ := fun j => (h8.cell (p := ⟨q, j, none⟩) hq7 hqr).trans (h7.cell (p := ⟨q, j, none⟩) hl)
  have far : ∀ {i : Nat} {u : Value}, (rv :: dv :: P.map Prod.snd)[i]? = some u → i ≠ 0 → ∀ j, u.ownBlock = some j → ¬ rv.ownBlock = some j := fun {i u} hi hne j h1 h2 => apart_at h.apart hi (show (rv :: dv :: P.map Prod.snd)[0]? = some rv from rfl) hne j h1 h2
  have bq : ∀ {e s : Nat} {u : Value} {m : Nat} {xs : List Value}, w8.ownsRow (q + 1) e s u m xs → (w8.setCell ⟨q, 0, none⟩ v8).ownsRow (q + 1) e s u m xs := fun hr => ownsRow_setCell_below hr (Nat.lt_succ_self q) _
  have up : ∀ {e s : Nat} {u : Value} {m : Nat} {xs : List Value}, w.ownsRow (q + 1) e s u m xs → (∀ j, u.ownBlock = some j → ¬ rv.ownBlock = some j) → (w8.setCell ⟨q, 0, none⟩ v8).ownsRow (q + 1) e s u m xs := fun hr hf => bq (own_save (own_next hr h7) h8 hf)
  refine ⟨by simp [h.fst], cell_set_same ((hc 0).trans h.c0), (cell_set_off (by omega)).trans ((hc 1).trans h.c1), ?_, up h.ord (fun j hj => far (i := 1) rfl (by omega) j hj), fun x hx => ?_, ?_⟩
  · rw [flatB_snoc, List.length_append]
    exact bq hr8
  · rcases List.mem_append.1 hx with hx | hx
    · obtain ⟨k, hk, rfl⟩ := List.getElem_of_mem hx
      exact up (h.deal _ hx) (fun i hi => far (i := k + 2) (u := P[k].2) (by simp [hk]) (by omega) i hi)
    · obtain rfl := List.mem_singleton.1 hx
      refine bq (own_save hr7 h8 (fun j hj e => ?_))
      have h1 := hw7 j hj
      have h2 := hall rv (by simp) j e
      omega
  · have hfl : (P ++ [((⟨l, 0, [], []⟩ : Dl), v7)]).map Prod.snd = P.map Prod.snd ++ [v7] := by simp
    rw [hfl]
    have h1 : ApartV ((rv :: dv :: P.map Prod.snd) ++ [v7]) := by
      refine apart_more h.apart (List.pairwise_singleton _ _) ?_
      intro u hu k hk x hx e
      obtain rfl := List.mem_singleton.1 hu
      have h1 := hw7 k hk
      have h2 := hall x hx k e
      omega
    have h2 := apart_set (l := (rv :: dv :: P.map Prod.snd) ++ [v7]) (i := 0) (u := rv) (u' := v8) h1 rfl (fun j hj => (hw8 j hj).imp id (fun q x hx e => by
      rcases List.mem_append.1 hx with z | z
      · have := hall x z j e
        have := h7.size
        omega
      · obtain rfl := List.mem_singleton.1 z
        have := hw7 j e
        omega))
    simpa using h2

end Go.Proofs.Ytndggiefgpdiiac
