/- The walk of ShopSums: it answers true, whatever shop, world and steps it is given. -/
import Derived.Test.YtbgnajcmhmpjlaaQuiet
import Derived.Test.YtbgnajcmhmpjlaaSLive
import Derived.Deep.CutBlock
import Derived.BigRegion
import Derived.BigQuiet
namespace Go.Proofs.Ytbgnajcmhmpjlaa
open Go.RowKit

/-- The two numbers that the statement reckons itself. -/
structure VAt (w : World) (b : Nat) (f : Nat → Int) : Prop where
  lt : b < w.heap.size
  cell : ∀ j : Nat, j < 2 → w.cell? ⟨b, j, none⟩ = some (.int .i64 (f j))
  loose : ∀ k, w.frozen? ⟨b, k, none⟩ = false
theorem VAt.save {O : Nat → Prop} {w w1 : World} {b : Nat} {f : Nat → Int} (h : VAt w b f) (hb : Save O w w1) (hn : ¬ O b) : VAt w1 b f :=
  ⟨Nat.lt_of_lt_of_le h.lt hb.size, fun j hj => (hb.cell (p := ⟨b, j, none⟩) h.lt hn).trans (h.cell j hj), fun k => (hb.frozen (p := ⟨b, k, none⟩) h.lt hn).trans (h.loose k)⟩
theorem VAt.next {w w1 : World} {b : Nat} {f : Nat → Int} (h : VAt w b f) (hb : Below w.heap.size w w1) : VAt w1 b f := h.save (O := fun _ => False) (.of_below hb) (fun q => q)
theorem VAt.set {w : World} {b : Nat} {f : Nat → Int} (h : VAt w b f) (m : Nat) (v : Int) : VAt (w.setCell ⟨b, m, none⟩ (.int .i64 v)) b (upd f m v) := by
  refine ⟨by simpa using h.lt, ?_, by simpa [go_sem] using h.loose⟩
  intro j hj
  unfold upd
  by_cases e : j = m
  · subst e
    rw [cell_set_same (h.cell j hj), if_pos rfl]
  · rw [cell_set_off e, h.cell j hj, if_neg e]
theorem VAt.congr {w : World} {b : Nat} {f g : Nat → Int} (h : VAt w b f) (he : ∀ j, j < 2 → f j = g j) : VAt w b g := ⟨h.lt, fun j hj => by rw [← he j hj]; exact h.cell j hj, h.loose⟩
theorem VAt.new (w : World) (t : TypeId) : VAt (w.alloc (.cells #[.int .i64 0, .int .i64 0] t)) w.heap.size (fun _ => 0) := by
  refine ⟨by simp, ?_, by simp [go_sem]⟩
  intro j hj
  have : j = 0 ∨ j = 1 := by omega
  rcases this with rfl | rfl <;> simp [go_sem]

theorem gain_no (deal : Int) (l : List H3) (c : Int) : gain deal false l c = 0 := by
  induction l with
  | nil => rfl
  | cons h r ih => simp only [gain, ih]; simp [gainOf]
/-- What the two numbers are when j holds of a deal that is over and done were looked at. -/
def valK (A : Bk) (deal : Int) (j : Nat) : Nat → Int := fun m => A.val m + gain deal true (A.hs.take j) (A.no * 2 + m)
theorem valK_zero (A : Bk) (deal : Int) : ∀ m, m < 2 → A.val m = valK A deal 0 m := by
  intro m _
  simp [valK, gain]
theorem valK_all (A : Bk) (deal : Int) : ∀ m, m < 2 → valK A deal A.hs.length m = (endA A deal true).val m := by
  intro m hm
  have : m = 0 ∨ m = 1 := by omega
  unfold valK
  rw [List.take_of_length_le (Nat.le_refl _)]
  rcases this with rfl | rfl
  · simp [Bk.val, endA]
  · simp [Bk.val, endA]
theorem val_no (A : Bk) (deal : Int) : ∀ m, m < 2 → A.val m = (endA A deal false).val m := by
  intro m hm
  have : m = 0 ∨ m = 1 := by omega
  rcases this with rfl | rfl
  · simp [Bk.val, endA, gain_no]
  · simp [Bk.val, endA, gain_no]

theorem valK_next {A : Bk} {deal c d : Int} {j m : Nat} (h : A.hs[j]? = some (deal, c, d)) (hc : c = A.no * 2 + m) : ∀ i, i < 2 → upd (valK A deal j) m (valK A deal j m + d) i = valK A deal (j + 1) i := by
  intro i _
  unfold upd valK
  rw [gain_snoc h]
  unfold gainOf
  by_cases e : i = m
  · subst e
    rw [if_pos rfl, if_pos ⟨rfl, hc, rfl⟩]
    simp only
    omega
  · rw [if_neg e, if_neg (by rintro ⟨_, q, _⟩; simp only at q; omega), Int.add_zero]
theorem valK_skip {A : Bk} {deal a c d : Int} {j : Nat} (h : A.hs[j]? = some (a, c, d)) (ha : a ≠ deal) : ∀ i, i < 2 → valK A deal j i = valK A deal (j + 1) i := by
  intro i _
  unfold valK
  rw [gain_snoc h]
  unfold gainOf
  rw [if_neg (fun q => ha q.1), Int.add_zero]
theorem valK_ok {A : Bk} (hG : Good A) (deal : Int) {j m : Nat} (hj : j ≤ A.hs.length) (hm : m < 2) : 0 ≤ valK A deal j m ∧ valK A deal j m ≤ 100 := by
  have h := chk_ok (bookK_ok hG deal true j hj m hm)
  rw [bookK_val A deal true j m hm] at h
  exact ⟨h.1, h.2.1⟩
theorem hold_val (A : Bk) (deal c d : Int) (j : Nat) : A.val j = (holdR A deal c d).2.val j := by
  rcases holdR_cases A deal c d with ⟨_, e⟩ | ⟨hc, m, hm, rfl, ⟨x, _, e⟩ | ⟨_, _, e⟩ | ⟨_, hz, e⟩⟩
  · rw [e]
  · rw [e]
  · rw [e]
  · rw [e]; cases j <;> rfl

end Go.Proofs.Ytbgnajcmhmpjlaa
