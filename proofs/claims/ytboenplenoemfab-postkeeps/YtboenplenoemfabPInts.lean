/- The contracts of SameInts and In. -/
import Derived.Test.YtboenplenoemfabPW2
namespace Go.Proofs.Ytboenplenoemfab
open Go.RowKit

/-- A list of numbers as memory holds it. -/
def NumsAt (w : World) (la : Option Addr) (l : List Int) : Prop := ∀ k c, l[k]? = some c → ∃ b off, la = some ⟨b, off, none⟩ ∧ b < w.heap.size ∧ w.cell? ⟨b, off + k, none⟩ = some (.int .i64 c)

theorem NumsAt.below {w w' : World} {B : Nat} {la : Option Addr} {l : List Int} (h : NumsAt w la l) (hb : Below B w w') (hB : w.heap.size ≤ B) : NumsAt w' la l := by
  intro k c hk
  obtain ⟨b, off, e, hlt, h0⟩ := h k c hk
  have hb' : b < B := by omega
  refine ⟨b, off, e, ?_, (hb.cell (p := ⟨b, off + k, none⟩) hb').trans h0⟩
  have := hb.size
  omega

theorem same_of {l m : List Int} (k : Nat) (h : l.take k = m.take k) {c : Int} (h1 : l[k]? = some c) (h2 : m[k]? = some c) : l.take (k + 1) = m.take (k + 1) := by
  rw [take_snoc h1, take_snoc h2, h]
theorem other_of {l m : List Int} (k : Nat) {c c' : Int} (h1 : l[k]? = some c) (h2 : m[k]? = some c') (h : c ≠ c') : ¬ l = m := by
  intro e
  rw [e, h2] at h1
  exact h (Option.some.inj h1).symm

end Go.Proofs.Ytboenplenoemfab
