/- The contract of plan.Shops. -/
import Derived.Test.YtboenplenoemfabPOwn
import Derived.OwnWalk
namespace Go.Proofs.Ytboenplenoemfab
open Go.RowKit

/-- Shops' memory at its first loop's head: which shops are wanted. -/
structure SSt (B : Nat) (w : World) (s : Int → Bool) (wr : World) : Prop where
  row : ∀ j : Nat, j < 3 → wr.cell? ⟨B, j, none⟩ = some (.bool (s j))
  f0 : ∀ k, wr.frozen? ⟨B, k, none⟩ = false
  below : Below B w wr
  lt : B < wr.heap.size

theorem SSt.next {B : Nat} {w wr wx : World} {s : Int → Bool} (h : SSt B w s wr) (hb : Below wr.heap.size wr wx) : SSt B w s wx := by
  have hlt := h.lt
  have := hb.size
  exact ⟨fun j hj => ((bcell hb).1 _ _ h.lt).trans (h.row j hj), loose B hb h.lt h.f0, after h.below hb (by omega), by omega⟩

theorem SSt.set {B : Nat} {w wr : World} {s : Int → Bool} (h : SSt B w s wr) (n : Nat) : SSt B w (fun j => s j || (n : Int) == j) (wr.setCell ⟨B, n, none⟩ (.bool true)) := by
  refine ⟨?_, by simpa [go_sem] using h.f0, h.below.setCell (by simp) _, by simpa using h.lt⟩
  intro j hj
  by_cases e : j = n
  · subst e
    rw [World.cell?_setCell_same _ _ _ (h.row j hj)]
    simp
  · rw [World.cell?_setCell_other _ _ _ _ (by intro e'; simp only [Addr.mk.injEq] at e'; omega), h.row j hj]
    have : ((n : Int) == (j : Int)) = false := by simp; omega
    rw [this, Bool.or_false]

end Go.Proofs.Ytboenplenoemfab
