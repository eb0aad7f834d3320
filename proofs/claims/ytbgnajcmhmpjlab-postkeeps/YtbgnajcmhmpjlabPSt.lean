/- The memory of Apply and of Applied at a loop's head. -/
import Derived.Test.YtbgnajcmhmpjlabPW2
namespace Go.Proofs.Ytbgnajcmhmpjlab
open Go.RowKit

structure PSt (B : Nat) (w : World) (ws : Nat → Int) (wr : World) : Prop where
  row : ∀ j : Nat, j < 6 → wr.cell? ⟨B, j, none⟩ = some (.int .i64 (ws j))
  f0 : ∀ k, wr.frozen? ⟨B, k, none⟩ = false
  zer : ∀ j : Nat, j < 6 → wr.cell? ⟨B + 1, j, none⟩ = some (.int .i64 0)
  f1 : ∀ k, wr.frozen? ⟨B + 1, k, none⟩ = false
  c0 : wr.cell? ⟨B + 2, 0, none⟩ = some (.int .i64 0)
  c1 : wr.cell? ⟨B + 2, 1, none⟩ = some (.int .i64 0)
  f2 : ∀ k, wr.frozen? ⟨B + 2, k, none⟩ = false
  below : Below B w wr
  lt : B + 2 < wr.heap.size

theorem six_cases {j : Nat} (h : j < 6) : j = 0 ∨ j = 1 ∨ j = 2 ∨ j = 3 ∨ j = 4 ∨ j = 5 := by omega

theorem PSt.next {B : Nat} {w wr wx : World} {ws : Nat → Int} (h : PSt B w ws wr) (hb : Below wr.heap.size wr wx) : PSt B w ws wx := by
  have hlt := h.lt
  have hsz := hb.size
  exact ⟨fun j hj => ((bcell hb).1 _ _ (by omega)).trans (h.row j hj), loose B hb (by omega) h.f0, fun j hj => ((bcell hb).1 _ _ (by omega)).trans (h.zer j hj), loose (B + 1) hb (by omega) h.f1, ((bcell hb).1 _ _ (by omega)).trans h.c0, ((bcell hb).1 _ _ (by omega)).trans h.c1, loose (B + 2) hb (by omega) h.f2, after h.below hb (by omega), by omega⟩

theorem PSt.set {B : Nat} {w wr : World} {ws : Nat → Int} (h : PSt B w ws wr) (n : Nat) (hn : n < 6) (v : Int) : PSt B w (upd ws n v) (wr.setCell ⟨B, n, none⟩ (.int .i64 v)) := by
  have ho : ∀ b o, b ≠ B → (wr.setCell ⟨B, n, none⟩ (.int .i64 v)).cell? ⟨b, o, none⟩ = wr.cell? ⟨b, o, none⟩ := fun b o hb => World.cell?_setCell_other _ _ _ _ (by intro e; simp only [Addr.mk.injEq] at e; omega)
  refine ⟨?_, by simpa [go_sem] using h.f0, fun j hj => (ho _ _ (by omega)).trans (h.zer j hj), by simpa [go_sem] using h.f1, (ho _ _ (by omega)).trans h.c0, (ho _ _ (by omega)).trans h.c1, by simpa [go_sem] using h.f2, h.below.setCell (Nat.le_refl _) _, by simpa using h.lt⟩
  intro j hj
  unfold upd
  by_cases e : j = n
  · subst e
    rw [World.cell?_setCell_same _ _ _ (h.row j hj), if_pos rfl]
  · rw [World.cell?_setCell_other _ _ _ _ (by intro e'; simp only [Addr.mk.injEq] at e'; omega), h.row j hj, if_neg e]

theorem PSt.begin (ws : Nat → Int) (w : World) (t1 t2 : Nat) : PSt w.heap.size w ws (((w.alloc (.cells #[.int .i64 (ws 0), .int .i64 (ws 1), .int .i64 (ws 2), .int .i64 (ws 3), .int .i64 (ws 4), .int .i64 (ws 5)] t1)).alloc (.cells #[.int .i64 0, .int .i64 0, .int .i64 0, .int .i64 0, .int .i64 0, .int .i64 0] t1)).alloc (.cells #[.int .i64 0, .int .i64 0] t2)) := by
  refine ⟨?_, by simp [go_sem], ?_, by simp [go_sem], by simp [go_sem], by simp [go_sem], by simp [go_sem], by go_grown, by simp⟩
  · intro j hj
    rcases six_cases hj with rfl | rfl | rfl | rfl | rfl | rfl <;> simp [go_sem]
  · intro j hj
    rcases six_cases hj with rfl | rfl | rfl | rfl | rfl | rfl <;> simp [go_sem]

end Go.Proofs.Ytbgnajcmhmpjlab
