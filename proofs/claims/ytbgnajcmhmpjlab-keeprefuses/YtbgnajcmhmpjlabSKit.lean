/- How a list of steps, and one step, come in as arguments. -/
import Derived.Test.YtbgnajcmhmpjlabPKit
namespace Go.Proofs.Ytbgnajcmhmpjlab
open Go.ChangeShapes Go.WideShapes Go.ChangeAt Go.RowKit Go.Deep

/-- A step: what is done, the deal, the counter, the delta, done? -/
structure Stp where
  what : Int
  deal : Int
  c : Int
  d : Int
  done : Bool
def Stp.cells (x : Stp) : List Value := [.int .i64 x.what, .int .i64 x.deal, .int .i64 x.c, .int .i64 x.d, .bool x.done]
/-- A list of steps as memory holds it. -/
def StepsAt (w : World) (la : Option Addr) (l : List Stp) : Prop := ∀ k x, l[k]? = some x → ∃ b off, la = some ⟨b, off, none⟩ ∧ b < w.heap.size ∧ ∀ j v, x.cells[j]? = some v → w.cell? ⟨b, off + k * 5 + j, none⟩ = some v

theorem Try.cellsBoolP : Try.prog.cellsOf 4 = 1 := by kernel_rfl

end Go.Proofs.Ytbgnajcmhmpjlab
