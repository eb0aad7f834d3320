/- The contract of planBegun: it answers true. -/
import Derived.Test.YtboenplenoemfabPApp
import Derived.Test.YtboenplenoemfabPShops
import Derived.Test.YtboenplenoemfabPEq
namespace Go.Proofs.Ytboenplenoemfab
open Go.RowKit

/-- The first cells of a block. -/
def BoxAt (w : World) (b : Nat) (vs : List Value) : Prop := b < w.heap.size ∧ ∀ j v, vs[j]? = some v → w.cell? ⟨b, j, none⟩ = some v
theorem BoxAt.next {w w1 : World} {b : Nat} {vs : List Value} (h : BoxAt w b vs) (hb : Below w.heap.size w w1) : BoxAt w1 b vs :=
  ⟨by have := hb.size; have := h.1; omega, fun j v hj => ((bcell hb).1 _ _ h.1).trans (h.2 j v hj)⟩
theorem BoxAt.new (w : World) (vs : List Value) (t : TypeId) : BoxAt (w.alloc (.cells vs.toArray t)) w.heap.size vs :=
  ⟨by simp, fun j v hj => by simpa [go_sem] using hj⟩

/-- Two blocks, one behind the other. -/
theorem pair_new (w : World) (vs us : List Value) (t u : TypeId) : BoxAt ((w.alloc (.cells vs.toArray t)).alloc (.cells us.toArray u)) w.heap.size vs ∧ BoxAt ((w.alloc (.cells vs.toArray t)).alloc (.cells us.toArray u)) (w.heap.size + 1) us ∧ Below w.heap.size w ((w.alloc (.cells vs.toArray t)).alloc (.cells us.toArray u)) := by
  refine ⟨(BoxAt.new w vs t).next ((Below.refl _ _).alloc (Nat.le_refl _) _), ?_, ((Below.refl _ _).alloc (Nat.le_refl _) _).alloc (by simp) _⟩
  have := BoxAt.new (w.alloc (.cells vs.toArray t)) us u
  simpa using this

def wsB : Nat → Int
  | 0 => 5
  | 2 => 7
  | _ => 0
def lB : List (Int × Int) := [(5, 3), (0, -2)]

theorem want_begun (w : World) : Calls Try.prog 76 #[.agg #[.int .i64 0, .int .i64 0]] w fun e w' => e = .returned (.int .i64 2) ∧ Below w.heap.size w w' := want_any 0 0 w
theorem shop_begun (w : World) : Calls Try.prog 77 #[.int .i64 3] w fun e w' => e = .returned (.int .i64 1) ∧ w' = w := shop_any 3 w

end Go.Proofs.Ytboenplenoemfab
