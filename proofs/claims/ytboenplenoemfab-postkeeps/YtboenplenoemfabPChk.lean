/- The contract of plan.Check. -/
import Derived.Test.YtboenplenoemfabPW1
import Derived.Deep.LoopGhost
import Derived.Deep.DeepCutAuto
namespace Go.Proofs.Ytboenplenoemfab
open Go.RowKit

/-- Check's memory at a loop's head: its answer's two cells, and which counters were wanted. -/
structure CSt (B : Nat) (w : World) (s : Int → Bool) (wr : World) : Prop where
  c0 : wr.cell? ⟨B, 0, none⟩ = some (.int .i64 0)
  c1 : wr.cell? ⟨B, 1, none⟩ = some (.int .i64 0)
  f0 : ∀ k, wr.frozen? ⟨B, k, none⟩ = false
  row : ∀ j : Nat, j < 6 → wr.cell? ⟨B + 1, j, none⟩ = some (.bool (s j))
  f1 : ∀ k, wr.frozen? ⟨B + 1, k, none⟩ = false
  below : Below B w wr
  lt : B + 1 < wr.heap.size

theorem CSt.next {B : Nat} {w wr wx : World} {s : Int → Bool} (h : CSt B w s wr) (hb : Below wr.heap.size wr wx) : CSt B w s wx := by
  have hlt := h.lt
  refine ⟨((bcell hb).1 _ _ (by omega)).trans h.c0, ((bcell hb).1 _ _ (by omega)).trans h.c1, loose B hb (by omega) h.f0, fun j hj => ((bcell hb).1 _ _ h.lt).trans (h.row j hj), loose (B + 1) hb h.lt h.f1, after h.below hb (by omega), ?_⟩
  have := hb.size
  omega

theorem CSt.set {B : Nat} {w wr : World} {s : Int → Bool} (h : CSt B w s wr) (n : Nat) (hn : n < 6) : CSt B w (fun j => s j || (n : Int) == j) (wr.setCell ⟨B + 1, n, none⟩ (.bool true)) := by
  have ho : ∀ o, (wr.setCell ⟨B + 1, n, none⟩ (.bool true)).cell? ⟨B, o, none⟩ = wr.cell? ⟨B, o, none⟩ := fun o => World.cell?_setCell_other _ _ _ _ (by intro e; simp only [Addr.mk.injEq] at e; omega)
  refine ⟨(ho 0).trans h.c0, (ho 1).trans h.c1, by simpa [go_sem] using h.f0, ?_, by simpa [go_sem] using h.f1, h.below.setCell (by simp) _, by simpa using h.lt⟩
  intro j hj
  by_cases e : j = n
  · subst e
    rw [World.cell?_setCell_same _ _ _ (h.row j hj)]
    simp
  · rw [World.cell?_setCell_other _ _ _ _ (by intro e'; simp only [Addr.mk.injEq] at e'; omega), h.row j hj]
    have : ((n : Int) == (j : Int)) = false := by simp; omega
    rw [this, Bool.or_false]

theorem CSt.answer {B : Nat} {w wr : World} {s : Int → Bool} (h : CSt B w s wr) (x y : Value) : Below B w ((wr.setCell ⟨B, 0, none⟩ x).setCell ⟨B, 1, none⟩ y) := (h.below.setCell (Nat.le_refl _) _).setCell (Nat.le_refl _) _

end Go.Proofs.Ytboenplenoemfab
