/- What a statement asks of a keeper, and how it lies then. -/
import Derived.Test.YtbgnajcmhmpjlabKBegun
namespace Go.Proofs.Ytbgnajcmhmpjlab
open Go.RowKit

/-- What a Do leaves of the records: all, and perhaps one more, that was not there. -/
theorem do_recs (K : Kb) (x : Stp) : (doR K x).2.rs = K.rs ∨ ((doR K x).1 = 0 ∧ (doR K x).2.rs = K.rs ++ [x] ∧ ¬ x ∈ K.rs) := by
  by_cases hz : (tellR K.A x).1 = 0
  · rw [doR_done hz]
    by_cases hm : x ∈ K.rs
    · exact .inl (noteR_in hm)
    · exact .inr ⟨rfl, noteR_out hm, hm⟩
  · rw [doR_code hz]; exact .inl rfl
theorem StepsAt.fst {w : World} {la : Option Addr} {l m : List Stp} (h : StepsAt w la (l ++ m)) : StepsAt w la l := by
  intro k x hk
  have hk' := (List.getElem?_eq_some_iff.1 hk).1
  exact h k x (by rw [List.getElem?_append_left hk']; exact hk)
theorem do_same {K : Kb} {x : Stp} (h : (doR K x).1 ≠ 0) : (doR K x).2 = K := by
  rw [doR_fst] at h
  rw [doR_code h]

theorem box_6 {w : World} {b : Nat} {x0 x1 x2 x3 x4 x5 : Value} (hlt : b < w.heap.size) (h0 : w.cell? ⟨b, 0, none⟩ = some x0) (h1 : w.cell? ⟨b, 1, none⟩ = some x1) (h2 : w.cell? ⟨b, 2, none⟩ = some x2) (h3 : w.cell? ⟨b, 3, none⟩ = some x3) (h4 : w.cell? ⟨b, 4, none⟩ = some x4) (h5 : w.cell? ⟨b, 5, none⟩ = some x5) : BoxAt w b [x0, x1, x2, x3, x4, x5] := by
  refine ⟨hlt, fun j v hj => ?_⟩
  match j, hj with
  | 0, hj => simp at hj; subst hj; exact h0
  | 1, hj => simp at hj; subst hj; exact h1
  | 2, hj => simp at hj; subst hj; exact h2
  | 3, hj => simp at hj; subst hj; exact h3
  | 4, hj => simp at hj; subst hj; exact h4
  | 5, hj => simp at hj; subst hj; exact h5
  | j + 6, hj => simp at hj
theorem box_set6 {w : World} {cb : Nat} (hlt : cb < w.heap.size) (h : ∀ j, j < 6 → ∃ u, w.cell? ⟨cb, j, none⟩ = some u) (v0 v1 v2 v3 v4 v5 : Value) : BoxAt ((((((w.setCell ⟨cb, 0, none⟩ v0).setCell ⟨cb, 1, none⟩ v1).setCell ⟨cb, 2, none⟩ v2).setCell ⟨cb, 3, none⟩ v3).setCell ⟨cb, 4, none⟩ v4).setCell ⟨cb, 5, none⟩ v5) cb [v0, v1, v2, v3, v4, v5] := by
  obtain ⟨u0, h0⟩ := h 0 (by omega)
  obtain ⟨u1, h1⟩ := h 1 (by omega)
  obtain ⟨u2, h2⟩ := h 2 (by omega)
  obtain ⟨u3, h3⟩ := h 3 (by omega)
  obtain ⟨u4, h4⟩ := h 4 (by omega)
  obtain ⟨u5, h5⟩ := h 5 (by omega)
  refine box_6 (by simpa using hlt) ?_ ?_ ?_ ?_ ?_ ?_
  · rw [cell_set_off (by omega), cell_set_off (by omega), cell_set_off (by omega), cell_set_off (by omega), cell_set_off (by omega), cell_set_same h0]
  · rw [cell_set_off (by omega), cell_set_off (by omega), cell_set_off (by omega), cell_set_off (by omega), cell_set_same ((cell_set_off (by omega)).trans h1)]
  · rw [cell_set_off (by omega), cell_set_off (by omega), cell_set_off (by omega), cell_set_same ((cell_set_off (by omega)).trans ((cell_set_off (by omega)).trans h2))]
  · rw [cell_set_off (by omega), cell_set_off (by omega), cell_set_same ((cell_set_off (by omega)).trans ((cell_set_off (by omega)).trans ((cell_set_off (by omega)).trans h3)))]
  · rw [cell_set_off (by omega), cell_set_same ((cell_set_off (by omega)).trans ((cell_set_off (by omega)).trans ((cell_set_off (by omega)).trans ((cell_set_off (by omega)).trans h4))))]
  · rw [cell_set_same ((cell_set_off (by omega)).trans ((cell_set_off (by omega)).trans ((cell_set_off (by omega)).trans ((cell_set_off (by omega)).trans ((cell_set_off (by omega)).trans h5)))))]
theorem box_new6' (w : World) (v0 v1 v2 v3 v4 v5 : Value) (t : TypeId) : BoxAt (w.alloc (.cells #[v0, v1, v2, v3, v4, v5] t)) w.heap.size [v0, v1, v2, v3, v4, v5] := BoxAt.new _ _ _
theorem save_new (w : World) (o : Obj) : Save (fun b => b = w.heap.size) w (w.alloc o) := .of_below ((Below.refl _ _).alloc (Nat.le_refl _) _)
theorem save_6 (w : World) (cb : Nat) (v0 v1 v2 v3 v4 v5 : Value) : Save (fun b => b = cb) w ((((((w.setCell ⟨cb, 0, none⟩ v0).setCell ⟨cb, 1, none⟩ v1).setCell ⟨cb, 2, none⟩ v2).setCell ⟨cb, 3, none⟩ v3).setCell ⟨cb, 4, none⟩ v4).setCell ⟨cb, 5, none⟩ v5) :=
  ((((((Save.refl (fun b => b = cb) w).setCell (p := ⟨cb, 0, none⟩) (fun _ => rfl) v0).setCell (p := ⟨cb, 1, none⟩) (fun _ => rfl) v1).setCell (p := ⟨cb, 2, none⟩) (fun _ => rfl) v2).setCell (p := ⟨cb, 3, none⟩) (fun _ => rfl) v3).setCell (p := ⟨cb, 4, none⟩) (fun _ => rfl) v4).setCell (p := ⟨cb, 5, none⟩) (fun _ => rfl) v5
/-- What was asked of a keeper at one time: its counters in a block, what it holds, its records; the keeper is as it was. -/
def Asked (w z : World) (Z : Nat → Prop) (q : Nat) (no : Int) (ws : Nat → Int) (K : Kb) (s9 s10 s11 : Value) (wx : World) : Prop :=
  ∃ cb ga capa gr capr, s9 = .pointer (some ⟨cb, 0, none⟩) ∧ s10 = .slice ga K.A.hs.length capa ∧ s11 = .slice gr K.rs.length capr ∧ BoxAt wx cb [.int .i64 (cnt6 K.A 0), .int .i64 (cnt6 K.A 1), .int .i64 (cnt6 K.A 2), .int .i64 (cnt6 K.A 3), .int .i64 (cnt6 K.A 4), .int .i64 (cnt6 K.A 5)] ∧ HoldsAt wx ga K.A.hs ∧ StepsAt wx gr K.rs ∧ KLive w (fun b => Z b ∨ b = cb ∨ (∃ a, ga = some a ∧ b = a.block) ∨ ∃ a, gr = some a ∧ b = a.block) wx q no ws K ∧ Below z.heap.size z wx
theorem asked_of {w wr w11 WN : World} {Z : Nat → Prop} {q capa capr cb : Nat} {no : Int} {ws : Nat → Int} {K : Kb} {ga gr : Option Addr} (hL : KLive w Z wr q no ws K) (hw11 : Below wr.heap.size wr w11) (hA : HoldsAt w11 ga K.A.hs) (hR : StepsAt w11 gr K.rs)
    (hB : BoxAt WN cb [.int .i64 (cnt6 K.A 0), .int .i64 (cnt6 K.A 1), .int .i64 (cnt6 K.A 2), .int .i64 (cnt6 K.A 3), .int .i64 (cnt6 K.A 4), .int .i64 (cnt6 K.A 5)]) (hS : Save (fun b => b = cb) w11 WN) (hcb : wr.heap.size ≤ cb)
    (hF : ∀ a, ga = some a → wr.heap.size ≤ a.block ∧ a.block < w11.heap.size ∧ a.block ≠ cb) (hG : ∀ a, gr = some a → wr.heap.size ≤ a.block ∧ a.block < w11.heap.size ∧ a.block ≠ cb) :
    Asked w wr Z q no ws K (.pointer (some ⟨cb, 0, none⟩)) (.slice ga K.A.hs.length capa) (.slice gr K.rs.length capr) WN := by
  have hs := hS.size
  have hq4 : Below wr.heap.size wr WN := hw11.trans (hS.below (fun k hk e => by omega) hw11.size)
  refine ⟨cb, ga, capa, gr, capr, rfl, rfl, rfl, hB, hA.save hS (fun a e h => (hF a e).2.2 h), hR.save hS (fun a e h => (hG a e).2.2 h), hL.more hq4 (fun b hb => ?_), hq4⟩
  rcases hb with hb | rfl | ⟨a, e, rfl⟩ | ⟨a, e, rfl⟩
  · exact .inl hb
  · exact .inr ⟨hcb, hB.1⟩
  · have := hF a e
    exact .inr ⟨by omega, by omega⟩
  · have := hG a e
    exact .inr ⟨by omega, by omega⟩

theorem KLive.keep {O : Nat → Prop} {w0 w w1 : World} {Z : Nat → Prop} {q : Nat} {no : Int} {ws : Nat → Int} {K : Kb} (h : KLive w0 Z w q no ws K) (hs : Save O w w1) (hO : ∀ k, O k → Z k ∧ w0.heap.size ≤ k) : KLive w0 Z w1 q no ws K := by
  obtain ⟨Q, h1, h2⟩ := h.inn
  exact ⟨⟨Q, h1.save hs (fun k hk hq => (h2 k hk).2 (hO k hq).1), h2⟩, h.below.trans (hs.below (fun k hk hq => by have := (hO k hq).2; omega) h.below.size), fun k hk => Nat.lt_of_lt_of_le (h.kept k hk) hs.size⟩

/-- Eight answers in a block of one's own. -/
structure BAt (w : World) (b : Nat) (f : Nat → Bool) : Prop where
  lt : b < w.heap.size
  cell : ∀ j : Nat, j < 8 → w.cell? ⟨b, j, none⟩ = some (.bool (f j))
  loose : ∀ k, w.frozen? ⟨b, k, none⟩ = false
theorem BAt.save {O : Nat → Prop} {w w1 : World} {b : Nat} {f : Nat → Bool} (h : BAt w b f) (hb : Save O w w1) (hn : ¬ O b) : BAt w1 b f :=
  ⟨Nat.lt_of_lt_of_le h.lt hb.size, fun j hj => (hb.cell (p := ⟨b, j, none⟩) h.lt hn).trans (h.cell j hj), fun k => (hb.frozen (p := ⟨b, k, none⟩) h.lt hn).trans (h.loose k)⟩
theorem BAt.next {w w1 : World} {b : Nat} {f : Nat → Bool} (h : BAt w b f) (hb : Below w.heap.size w w1) : BAt w1 b f := h.save (O := fun _ => False) (.of_below hb) (fun q => q)
theorem BAt.set {w : World} {b : Nat} {f : Nat → Bool} (h : BAt w b f) (m : Nat) (v : Bool) : BAt (w.setCell ⟨b, m, none⟩ (.bool v)) b (updB f m v) := by
  refine ⟨by simpa using h.lt, ?_, by simpa [go_sem] using h.loose⟩
  intro j hj
  unfold updB
  by_cases e : j = m
  · subst e
    rw [cell_set_same (h.cell j hj), if_pos rfl]
  · rw [cell_set_off e, h.cell j hj, if_neg e]
theorem BAt.off {w : World} {b c m : Nat} {f : Nat → Bool} (h : BAt w b f) (hn : b ≠ c) (v : Value) : BAt (w.setCell ⟨c, m, none⟩ v) b f :=
  h.save (O := fun k => k = c) (Save.setCell (O := fun k => k = c) (Save.refl _ _) (p := ⟨c, m, none⟩) (fun _ => rfl) _) hn
theorem BAt.congr {w : World} {b : Nat} {f g : Nat → Bool} (h : BAt w b f) (he : ∀ j, j < 8 → f j = g j) : BAt w b g := ⟨h.lt, fun j hj => by rw [← he j hj]; exact h.cell j hj, h.loose⟩
theorem BAt.new (w : World) (t : TypeId) : BAt (w.alloc (.cells #[.bool false, .bool false, .bool false, .bool false, .bool false, .bool false, .bool false, .bool false] t)) w.heap.size (fun _ => false) := by
  refine ⟨by simp, ?_, by simp [go_sem]⟩
  intro j hj
  have : j = 0 ∨ j = 1 ∨ j = 2 ∨ j = 3 ∨ j = 4 ∨ j = 5 ∨ j = 6 ∨ j = 7 := by omega
  rcases this with rfl | rfl | rfl | rfl | rfl | rfl | rfl | rfl <;> simp [go_sem]
/-- The first k are told. -/
def upto (k : Nat) (f : Nat → Bool) : Nat → Bool := fun j => if j < k then f j else false
theorem upto_next (k : Nat) (f : Nat → Bool) : ∀ j, j < 8 → updB (upto k f) k (f k) j = upto (k + 1) f j := by
  intro j _
  unfold updB upto
  by_cases e : j = k
  · subst e; rw [if_pos rfl, if_pos (by omega)]
  · rw [if_neg e]
    by_cases e2 : j < k
    · rw [if_pos e2, if_pos (by omega)]
    · rw [if_neg e2, if_neg (by omega)]
theorem upto_all (f : Nat → Bool) : ∀ j, j < 8 → upto 8 f j = f j := fun _ hj => if_pos hj

end Go.Proofs.Ytbgnajcmhmpjlab
