/- What is read of a broker, and of the document's book, in memory: cells of a deal, its rows. -/
import Derived.Test.YtndggiefgpdiiacRBox
import Derived.Test.YtndggiefgpdiiacTBrk2
namespace Go.Proofs.Ytndggiefgpdiiac
open Go.RowKit

theorem own_any {w : World} {B e s n : Nat} {v : Value} {xs : List Value} (h : w.ownsRow B e s v n xs) (hn : n ≠ 0) : ∃ g cap, v = .slice (some ⟨g, 0, none⟩) n cap := by
  rcases h.2 with ⟨e1, e0⟩ | ⟨g, cap, cur, e1, _⟩
  · exact absurd e0 hn
  · exact ⟨g, cap, e1⟩
theorem own_sl {w : World} {B e s n : Nat} {v : Value} {xs : List Value} (h : w.ownsRow B e s v n xs) : ∃ ga cap, v = .slice ga n cap := by
  rcases h.2 with ⟨e1, e0⟩ | ⟨g, cap, cur, e1, _⟩
  · exact ⟨none, 0, by rw [e1, e0]⟩
  · exact ⟨_, cap, e1⟩
/-- The nine cells of a deal. -/
structure Deal9 (w : World) (g k : Nat) (D : Dl) (v : Value) : Prop where
  c0 : w.cell? ⟨g, k * 9, none⟩ = some v
  c1 : w.cell? ⟨g, k * 9 + 1, none⟩ = some (.int .i64 D.st)
  c2 : w.cell? ⟨g, k * 9 + 2, none⟩ = some (.bool (decide ((0 : Int) ∈ D.yes)))
  c3 : w.cell? ⟨g, k * 9 + 3, none⟩ = some (.bool (decide ((1 : Int) ∈ D.yes)))
  c4 : w.cell? ⟨g, k * 9 + 4, none⟩ = some (.bool (decide ((2 : Int) ∈ D.yes)))
  c5 : w.cell? ⟨g, k * 9 + 5, none⟩ = some (.bool (decide ((3 : Int) ∈ D.yes)))
  c6 : w.cell? ⟨g, k * 9 + 6, none⟩ = some (.bool (decide ((0 : Int) ∈ D.ov)))
  c7 : w.cell? ⟨g, k * 9 + 7, none⟩ = some (.bool (decide ((1 : Int) ∈ D.ov)))
  c8 : w.cell? ⟨g, k * 9 + 8, none⟩ = some (.bool (decide ((2 : Int) ∈ D.ov)))
  lt : g < w.heap.size
  fr : ∀ j, w.frozen? ⟨g, j, none⟩ = false
theorem Deal9.next {w w1 : World} {g k : Nat} {D : Dl} {v : Value} (h : Deal9 w g k D v) (hb : Below w.heap.size w w1) : Deal9 w1 g k D v := by
  have q : ∀ o, w1.cell? ⟨g, o, none⟩ = w.cell? ⟨g, o, none⟩ := fun o => (bcell hb).1 _ _ h.lt
  exact ⟨(q _).trans h.c0, (q _).trans h.c1, (q _).trans h.c2, (q _).trans h.c3, (q _).trans h.c4, (q _).trans h.c5, (q _).trans h.c6, (q _).trans h.c7, (q _).trans h.c8, Nat.lt_of_lt_of_le h.lt hb.size, loose g hb h.lt h.fr⟩
/-- A deal of a broker: where its cells lie. -/
theorem BrkRaw.deal9 {w : World} {q : Nat} {B : Bok} {rv dv : Value} {P : List (Dl × Value)} (h : BrkRaw w q B rv dv P) {k : Nat} {D : Dl} (hk : B.L[k]? = some D) : ∃ g cap v, rv = .slice (some ⟨g, 0, none⟩) B.L.length cap ∧ P[k]? = some (D, v) ∧ Deal9 w g k D v ∧ w.ownsRow (q + 1) 35 2 v D.w.length (flat D.w) ∧ q < g ∧ B.L.length ≤ cap := by
  obtain ⟨v, hv⟩ := h.at hk
  have hkl := (List.getElem?_eq_some_iff.1 hv).1
  have hrow := h.row
  obtain ⟨g, cap, rfl⟩ := own_any hrow (by omega)
  obtain ⟨hB, hR, hc, hm, hcell⟩ := own_row hrow
  have q9 : ∀ j u, j < 9 → (dcells (D, v))[j]? = some u → w.cell? ⟨g, k * 9 + j, none⟩ = some u := fun j u hj hu => hcell _ _ ((flatB_at hv hj).trans hu)
  exact ⟨g, cap, v, by rw [h.len], hv, ⟨q9 0 _ (by decide) rfl, q9 1 _ (by decide) rfl, q9 2 _ (by decide) rfl, q9 3 _ (by decide) rfl, q9 4 _ (by decide) rfl, q9 5 _ (by decide) rfl, q9 6 _ (by decide) rfl, q9 7 _ (by decide) rfl, q9 8 _ (by decide) rfl, hR.lt, hR.loose⟩, h.deal _ (List.mem_of_getElem? hv), hB, by rw [h.len]; exact hc⟩
/-- The four cells of a deal of the document's book. -/
structure Deal4 (w : World) (g k : Nat) (D : Dl) (v : DV) : Prop where
  c0 : w.cell? ⟨g, k * 4, none⟩ = some v.w
  c1 : w.cell? ⟨g, k * 4 + 1, none⟩ = some (.int .i64 D.st)
  c2 : w.cell? ⟨g, k * 4 + 2, none⟩ = some v.y
  c3 : w.cell? ⟨g, k * 4 + 3, none⟩ = some v.o
  lt : g < w.heap.size
  fr : ∀ j, w.frozen? ⟨g, j, none⟩ = false
theorem Deal4.next {w w1 : World} {g k : Nat} {D : Dl} {v : DV} (h : Deal4 w g k D v) (hb : Below w.heap.size w w1) : Deal4 w1 g k D v := by
  have q : ∀ o, w1.cell? ⟨g, o, none⟩ = w.cell? ⟨g, o, none⟩ := fun o => (bcell hb).1 _ _ h.lt
  exact ⟨(q _).trans h.c0, (q _).trans h.c1, (q _).trans h.c2, (q _).trans h.c3, Nat.lt_of_lt_of_le h.lt hb.size, loose g hb h.lt h.fr⟩
theorem BokRaw.deal4 {tD tW tI : TypeId} {w : World} {q o : Nat} {B : Bok} {rv ov : Value} {V : List DV} (h : BokRaw tD tW tI w q o B rv ov V) {k : Nat} {D : Dl} (hk : B.L[k]? = some D) : ∃ g cap v, rv = .slice (some ⟨g, 0, none⟩) B.L.length cap ∧ V[k]? = some v ∧ Deal4 w g k D v ∧ q < g ∧ B.L.length ≤ cap := by
  have hkl := (List.getElem?_eq_some_iff.1 hk).1
  obtain ⟨v, hv⟩ : ∃ v, V[k]? = some v := ⟨_, List.getElem?_eq_getElem (by rw [h.len]; exact hkl)⟩
  have hrow := h.row
  obtain ⟨g, cap, rfl⟩ := own_any hrow (by omega)
  obtain ⟨hB, hR, hc, hm, hcell⟩ := own_row hrow
  obtain ⟨a, b, c, d⟩ := flatD_at hk hv
  exact ⟨g, cap, v, rfl, hv, ⟨hcell _ _ a, hcell _ _ b, hcell _ _ c, hcell _ _ d, hR.lt, hR.loose⟩, hB, hc⟩
theorem BokIn.rows {tD tW tI : TypeId} {O : Nat → Prop} {w : World} {q o : Nat} {B : Bok} (h : BokIn tD tW tI O w q o B) {rv ov : Value} {V : List DV} (hs : ∀ u ∈ rv :: ov :: V.flatMap DV.all, ∀ k, u.ownBlock = some k → O k) : ∀ u ∈ rv :: ov :: V.flatMap DV.all, ∀ k, u.ownBlock = some k → k < w.heap.size := fun u hu k hk => h.own k (hs u hu k hk)
theorem BrkIn.rows {O : Nat → Prop} {w : World} {q : Nat} {B : Bok} (h : BrkIn O w q B) {rv dv : Value} {P : List (Dl × Value)} (hs : ∀ u ∈ rv :: dv :: P.map Prod.snd, ∀ k, u.ownBlock = some k → O k) : ∀ u ∈ rv :: dv :: P.map Prod.snd, ∀ k, u.ownBlock = some k → k < w.heap.size := fun u hu k hk => h.own k (hs u hu k hk)
theorem dealAt_out {B : Bok} {n : Int} (h : dealAt B n = none) : n < 0 ∨ (B.L.length : Int) ≤ n := by
  unfold dealAt at h
  split at h
  · omega
  · have := List.getElem?_eq_none_iff.1 h
    omega

end Go.Proofs.Ytndggiefgpdiiac
