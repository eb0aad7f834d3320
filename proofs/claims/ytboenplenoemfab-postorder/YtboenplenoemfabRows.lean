/-
  No cell of these rows narrows 'for every input' (looked for: loops, veiled, ifaces, maps, wideKeys, modest, calm, conditions, laid).
  DERIVED. THE GIVEN ROWS OF THIS SEAT. 9 by the template 'for every input the law returns true; each argument reads behind the call as it read before'; 0 by the template 'total and deterministic' (their statements: YtboenplenoemfabTotals.lean).
  GIVEN WITH THE SEED: the statements are not yours to turn. If you find one false, say at which input.
  Laid BY PROGRAM, IN A SANDBOX (cutbox-rows.mjs): the forced cells as the released guide's own fill.sh prints them over the translation bd518b8dd8bccd06… (all of the seat's roots in one cut). By AI agents, Wed Nov 11 2026. No macro, syntax, notation, axiom, sorry.
-/
import Derived.Test.YtboenplenoemfabChecked
import GoSem.Claim
import GoSem.ClaimJoined
import GoSem.ClaimMapViews
import Derived.JoinedTies
import Derived.KernelRfl
namespace Go.Proofs.Ytboenplenoemfab
/- THE CELL 'sum', in the pinned program and in every row, IS THE sha256 OF THE DUMP (.gsa) THAT YtboenplenoemfabProg.lean LOADS. Nothing in Lean hashes anything: it is a label: what it is worth is what the hold of that sum in a sandbox is worth. -/
noncomputable def Try.pinned : Pinned := { name := "ytboenplenoemfab", sum := "bd518b8dd8bccd0656fb9b2a951c2b0e21dac844b75c6c3e5b982ed937e6f694", checked := Try.checked }
namespace Rows
def none {H : Type} : Left H := { results := [], args := [] }

/-- 'handsellaw.KeepDoes': WHATEVER THE INPUT: true; the input reads as it did. -/
def keepDoesSpec : ChangeSpec := { name := "keepDoes", fn := fun _ => fun
  | [d1, d2, d3, d4, d5] => { results := [.lit (.bool true)], args := [d1, d2, d3, d4, d5] }
  | _ => none }
def keepDoesRow : OpenClaim := { program := "ytboenplenoemfab", sum := "bd518b8dd8bccd0656fb9b2a951c2b0e21dac844b75c6c3e5b982ed937e6f694", func := "handsel/handsellaw.KeepDoes", spec := "keepDoes", unfollowed := true, recurses := true, apart := false }
def KeepDoesSaid : Prop := keepDoesRow.holds Try.pinned (OpenSpec.ofChange keepDoesSpec)

/-- ITS FALSE NEIGHBOUR: 'it returns false'. Refute it at one input. -/
def keepDoesWrong : ChangeSpec := { name := "keepDoes", fn := fun _ => fun
  | [d1, d2, d3, d4, d5] => { results := [.lit (.bool false)], args := [d1, d2, d3, d4, d5] }
  | _ => none }
def KeepDoesWrongFalsely : Prop := keepDoesRow.holds Try.pinned (OpenSpec.ofChange keepDoesWrong)

/-- 'handsellaw.KeepAgain': WHATEVER THE INPUT: true; the input reads as it did. -/
def keepAgainSpec : ChangeSpec := { name := "keepAgain", fn := fun _ => fun
  | [d1, d2, d3] => { results := [.lit (.bool true)], args := [d1, d2, d3] }
  | _ => none }
def keepAgainRow : OpenClaim := { program := "ytboenplenoemfab", sum := "bd518b8dd8bccd0656fb9b2a951c2b0e21dac844b75c6c3e5b982ed937e6f694", func := "handsel/handsellaw.KeepAgain", spec := "keepAgain", unfollowed := true, recurses := true, apart := false }
def KeepAgainSaid : Prop := keepAgainRow.holds Try.pinned (OpenSpec.ofChange keepAgainSpec)

/-- ITS FALSE NEIGHBOUR: 'it returns false'. Refute it at one input. -/
def keepAgainWrong : ChangeSpec := { name := "keepAgain", fn := fun _ => fun
  | [d1, d2, d3] => { results := [.lit (.bool false)], args := [d1, d2, d3] }
  | _ => none }
def KeepAgainWrongFalsely : Prop := keepAgainRow.holds Try.pinned (OpenSpec.ofChange keepAgainWrong)

/-- 'handsellaw.KeepRefuses': WHATEVER THE INPUT: true; the input reads as it did. -/
def keepRefusesSpec : ChangeSpec := { name := "keepRefuses", fn := fun _ => fun
  | [d1, d2, d3] => { results := [.lit (.bool true)], args := [d1, d2, d3] }
  | _ => none }
def keepRefusesRow : OpenClaim := { program := "ytboenplenoemfab", sum := "bd518b8dd8bccd0656fb9b2a951c2b0e21dac844b75c6c3e5b982ed937e6f694", func := "handsel/handsellaw.KeepRefuses", spec := "keepRefuses", unfollowed := true, recurses := true, apart := false }
def KeepRefusesSaid : Prop := keepRefusesRow.holds Try.pinned (OpenSpec.ofChange keepRefusesSpec)

/-- ITS FALSE NEIGHBOUR: 'it returns false'. Refute it at one input. -/
def keepRefusesWrong : ChangeSpec := { name := "keepRefuses", fn := fun _ => fun
  | [d1, d2, d3] => { results := [.lit (.bool false)], args := [d1, d2, d3] }
  | _ => none }
def KeepRefusesWrongFalsely : Prop := keepRefusesRow.holds Try.pinned (OpenSpec.ofChange keepRefusesWrong)

/-- 'handsellaw.PostDoes': WHATEVER THE INPUT: true; the input reads as it did. -/
def postDoesSpec : ChangeSpec := { name := "postDoes", fn := fun _ => fun
  | [d] => { results := [.lit (.bool true)], args := [d] }
  | _ => none }
def postDoesRow : OpenClaim := { program := "ytboenplenoemfab", sum := "bd518b8dd8bccd0656fb9b2a951c2b0e21dac844b75c6c3e5b982ed937e6f694", func := "handsel/handsellaw.PostDoes", spec := "postDoes", apart := false }
def PostDoesSaid : Prop := postDoesRow.holds Try.pinned (OpenSpec.ofChange postDoesSpec)

/-- ITS FALSE NEIGHBOUR: 'it returns false'. Refute it at one input. -/
def postDoesWrong : ChangeSpec := { name := "postDoes", fn := fun _ => fun
  | [d] => { results := [.lit (.bool false)], args := [d] }
  | _ => none }
def PostDoesWrongFalsely : Prop := postDoesRow.holds Try.pinned (OpenSpec.ofChange postDoesWrong)

/-- 'handsellaw.PostKeeps': WHATEVER THE INPUT: true; the input reads as it did. -/
def postKeepsSpec : ChangeSpec := { name := "postKeeps", fn := fun _ => fun
  | [d] => { results := [.lit (.bool true)], args := [d] }
  | _ => none }
def postKeepsRow : OpenClaim := { program := "ytboenplenoemfab", sum := "bd518b8dd8bccd0656fb9b2a951c2b0e21dac844b75c6c3e5b982ed937e6f694", func := "handsel/handsellaw.PostKeeps", spec := "postKeeps", apart := false }
def PostKeepsSaid : Prop := postKeepsRow.holds Try.pinned (OpenSpec.ofChange postKeepsSpec)

/-- ITS FALSE NEIGHBOUR: 'it returns false'. Refute it at one input. -/
def postKeepsWrong : ChangeSpec := { name := "postKeeps", fn := fun _ => fun
  | [d] => { results := [.lit (.bool false)], args := [d] }
  | _ => none }
def PostKeepsWrongFalsely : Prop := postKeepsRow.holds Try.pinned (OpenSpec.ofChange postKeepsWrong)

/-- 'handsellaw.PostOrder': WHATEVER THE INPUT: true; the input reads as it did. -/
def postOrderSpec : ChangeSpec := { name := "postOrder", fn := fun _ => fun
  | [d1, d2] => { results := [.lit (.bool true)], args := [d1, d2] }
  | _ => none }
def postOrderRow : OpenClaim := { program := "ytboenplenoemfab", sum := "bd518b8dd8bccd0656fb9b2a951c2b0e21dac844b75c6c3e5b982ed937e6f694", func := "handsel/handsellaw.PostOrder", spec := "postOrder", apart := false }
def PostOrderSaid : Prop := postOrderRow.holds Try.pinned (OpenSpec.ofChange postOrderSpec)

/-- ITS FALSE NEIGHBOUR: 'it returns false'. Refute it at one input. -/
def postOrderWrong : ChangeSpec := { name := "postOrder", fn := fun _ => fun
  | [d1, d2] => { results := [.lit (.bool false)], args := [d1, d2] }
  | _ => none }
def PostOrderWrongFalsely : Prop := postOrderRow.holds Try.pinned (OpenSpec.ofChange postOrderWrong)

/-- 'handsellaw.ClerkDoes': WHATEVER THE INPUT: true; the input reads as it did. -/
def clerkDoesSpec : ChangeSpec := { name := "clerkDoes", fn := fun _ => fun
  | [d1, d2, d3, d4] => { results := [.lit (.bool true)], args := [d1, d2, d3, d4] }
  | _ => none }
def clerkDoesRow : OpenClaim := { program := "ytboenplenoemfab", sum := "bd518b8dd8bccd0656fb9b2a951c2b0e21dac844b75c6c3e5b982ed937e6f694", func := "handsel/handsellaw.ClerkDoes", spec := "clerkDoes", unfollowed := true, recurses := true, apart := false }
def ClerkDoesSaid : Prop := clerkDoesRow.holds Try.pinned (OpenSpec.ofChange clerkDoesSpec)

/-- ITS FALSE NEIGHBOUR: 'it returns false'. Refute it at one input. -/
def clerkDoesWrong : ChangeSpec := { name := "clerkDoes", fn := fun _ => fun
  | [d1, d2, d3, d4] => { results := [.lit (.bool false)], args := [d1, d2, d3, d4] }
  | _ => none }
def ClerkDoesWrongFalsely : Prop := clerkDoesRow.holds Try.pinned (OpenSpec.ofChange clerkDoesWrong)

/-- 'handsellaw.ClerkTwice': WHATEVER THE INPUT: true; the input reads as it did. -/
def clerkTwiceSpec : ChangeSpec := { name := "clerkTwice", fn := fun _ => fun
  | [d1, d2, d3] => { results := [.lit (.bool true)], args := [d1, d2, d3] }
  | _ => none }
def clerkTwiceRow : OpenClaim := { program := "ytboenplenoemfab", sum := "bd518b8dd8bccd0656fb9b2a951c2b0e21dac844b75c6c3e5b982ed937e6f694", func := "handsel/handsellaw.ClerkTwice", spec := "clerkTwice", unfollowed := true, recurses := true, apart := false }
def ClerkTwiceSaid : Prop := clerkTwiceRow.holds Try.pinned (OpenSpec.ofChange clerkTwiceSpec)

/-- ITS FALSE NEIGHBOUR: 'it returns false'. Refute it at one input. -/
def clerkTwiceWrong : ChangeSpec := { name := "clerkTwice", fn := fun _ => fun
  | [d1, d2, d3] => { results := [.lit (.bool false)], args := [d1, d2, d3] }
  | _ => none }
def ClerkTwiceWrongFalsely : Prop := clerkTwiceRow.holds Try.pinned (OpenSpec.ofChange clerkTwiceWrong)

/-- 'handsellaw.ClerkOthers': WHATEVER THE INPUT: true; the input reads as it did. -/
def clerkOthersSpec : ChangeSpec := { name := "clerkOthers", fn := fun _ => fun
  | [d1, d2, d3, d4] => { results := [.lit (.bool true)], args := [d1, d2, d3, d4] }
  | _ => none }
def clerkOthersRow : OpenClaim := { program := "ytboenplenoemfab", sum := "bd518b8dd8bccd0656fb9b2a951c2b0e21dac844b75c6c3e5b982ed937e6f694", func := "handsel/handsellaw.ClerkOthers", spec := "clerkOthers", unfollowed := true, recurses := true, apart := false }
def ClerkOthersSaid : Prop := clerkOthersRow.holds Try.pinned (OpenSpec.ofChange clerkOthersSpec)

/-- ITS FALSE NEIGHBOUR: 'it returns false'. Refute it at one input. -/
def clerkOthersWrong : ChangeSpec := { name := "clerkOthers", fn := fun _ => fun
  | [d1, d2, d3, d4] => { results := [.lit (.bool false)], args := [d1, d2, d3, d4] }
  | _ => none }
def ClerkOthersWrongFalsely : Prop := clerkOthersRow.holds Try.pinned (OpenSpec.ofChange clerkOthersWrong)

/- THE SECOND FORM. 'bulk': how many values and letters a reading holds, each counted each time it is reached (what is shared counts as often as it is met; a slice's spare places count too). A statement '..UptoSaid' is the law's where the arguments, and the package variables that the reading takes, are together of bulk at most 1048576: NARROWER than '..Said'. Prove '..Said' where nothing that the law and all that it calls make is longer than what came in: it says more and counts as full. Else prove '..UptoSaid'. A law counts once. -/
mutual
def uptoBulk {H : Type} : DataW H → Nat
  | .lit (.string bytes) => bytes.length + 1
  | .lit _ => 1
  | .nil => 1
  | .ptr d => uptoBulk d + 1
  | .slice elems spare => uptoBulkAll elems + uptoBulkAll spare + 1
  | .agg parts => uptoBulkAll parts + 1
  | .iface _ d => uptoBulk d + 1
  | .map entries => uptoBulkEntries entries + 1
  | .held _ => 1
def uptoBulkAll {H : Type} : List (DataW H) → Nat
  | [] => 0
  | d :: r => uptoBulk d + uptoBulkAll r
def uptoBulkEntries {H : Type} : List (Lit × DataW H) → Nat
  | [] => 0
  | x :: r => uptoBulkEntry x + uptoBulkEntries r
def uptoBulkEntry {H : Type} : Lit × DataW H → Nat
  | (.string bytes, d) => bytes.length + uptoBulk d + 1
  | (_, d) => uptoBulk d + 1
 end
def uptoSmall : (H : Type) → List (DataW H) → Bool := fun _ ds => decide (uptoBulkAll ds ≤ 1048576)
def OpenSpec.upto (s : _root_.Go.ChangeSpec) : _root_.Go.OpenSpec := { _root_.Go.OpenSpec.ofChange s with cond := some uptoSmall }

/-- 'handsellaw.KeepDoes', WHERE WHAT IT READS IS OF BULK AT MOST 1048576: true; the input reads as it did. -/
def keepDoesUptoRow : OpenClaim := { program := "ytboenplenoemfab", sum := "bd518b8dd8bccd0656fb9b2a951c2b0e21dac844b75c6c3e5b982ed937e6f694", func := "handsel/handsellaw.KeepDoes", spec := "keepDoes", unfollowed := true, recurses := true, apart := false, narrowed := true }
def KeepDoesUptoSaid : Prop := keepDoesUptoRow.holds Try.pinned (OpenSpec.upto keepDoesSpec)

/-- 'handsellaw.KeepAgain', WHERE WHAT IT READS IS OF BULK AT MOST 1048576: true; the input reads as it did. -/
def keepAgainUptoRow : OpenClaim := { program := "ytboenplenoemfab", sum := "bd518b8dd8bccd0656fb9b2a951c2b0e21dac844b75c6c3e5b982ed937e6f694", func := "handsel/handsellaw.KeepAgain", spec := "keepAgain", unfollowed := true, recurses := true, apart := false, narrowed := true }
def KeepAgainUptoSaid : Prop := keepAgainUptoRow.holds Try.pinned (OpenSpec.upto keepAgainSpec)

/-- 'handsellaw.KeepRefuses', WHERE WHAT IT READS IS OF BULK AT MOST 1048576: true; the input reads as it did. -/
def keepRefusesUptoRow : OpenClaim := { program := "ytboenplenoemfab", sum := "bd518b8dd8bccd0656fb9b2a951c2b0e21dac844b75c6c3e5b982ed937e6f694", func := "handsel/handsellaw.KeepRefuses", spec := "keepRefuses", unfollowed := true, recurses := true, apart := false, narrowed := true }
def KeepRefusesUptoSaid : Prop := keepRefusesUptoRow.holds Try.pinned (OpenSpec.upto keepRefusesSpec)

/-- 'handsellaw.PostDoes', WHERE WHAT IT READS IS OF BULK AT MOST 1048576: true; the input reads as it did. -/
def postDoesUptoRow : OpenClaim := { program := "ytboenplenoemfab", sum := "bd518b8dd8bccd0656fb9b2a951c2b0e21dac844b75c6c3e5b982ed937e6f694", func := "handsel/handsellaw.PostDoes", spec := "postDoes", apart := false, narrowed := true }
def PostDoesUptoSaid : Prop := postDoesUptoRow.holds Try.pinned (OpenSpec.upto postDoesSpec)

/-- 'handsellaw.PostKeeps', WHERE WHAT IT READS IS OF BULK AT MOST 1048576: true; the input reads as it did. -/
def postKeepsUptoRow : OpenClaim := { program := "ytboenplenoemfab", sum := "bd518b8dd8bccd0656fb9b2a951c2b0e21dac844b75c6c3e5b982ed937e6f694", func := "handsel/handsellaw.PostKeeps", spec := "postKeeps", apart := false, narrowed := true }
def PostKeepsUptoSaid : Prop := postKeepsUptoRow.holds Try.pinned (OpenSpec.upto postKeepsSpec)

/-- 'handsellaw.PostOrder', WHERE WHAT IT READS IS OF BULK AT MOST 1048576: true; the input reads as it did. -/
def postOrderUptoRow : OpenClaim := { program := "ytboenplenoemfab", sum := "bd518b8dd8bccd0656fb9b2a951c2b0e21dac844b75c6c3e5b982ed937e6f694", func := "handsel/handsellaw.PostOrder", spec := "postOrder", apart := false, narrowed := true }
def PostOrderUptoSaid : Prop := postOrderUptoRow.holds Try.pinned (OpenSpec.upto postOrderSpec)

/-- 'handsellaw.ClerkDoes', WHERE WHAT IT READS IS OF BULK AT MOST 1048576: true; the input reads as it did. -/
def clerkDoesUptoRow : OpenClaim := { program := "ytboenplenoemfab", sum := "bd518b8dd8bccd0656fb9b2a951c2b0e21dac844b75c6c3e5b982ed937e6f694", func := "handsel/handsellaw.ClerkDoes", spec := "clerkDoes", unfollowed := true, recurses := true, apart := false, narrowed := true }
def ClerkDoesUptoSaid : Prop := clerkDoesUptoRow.holds Try.pinned (OpenSpec.upto clerkDoesSpec)

/-- 'handsellaw.ClerkTwice', WHERE WHAT IT READS IS OF BULK AT MOST 1048576: true; the input reads as it did. -/
def clerkTwiceUptoRow : OpenClaim := { program := "ytboenplenoemfab", sum := "bd518b8dd8bccd0656fb9b2a951c2b0e21dac844b75c6c3e5b982ed937e6f694", func := "handsel/handsellaw.ClerkTwice", spec := "clerkTwice", unfollowed := true, recurses := true, apart := false, narrowed := true }
def ClerkTwiceUptoSaid : Prop := clerkTwiceUptoRow.holds Try.pinned (OpenSpec.upto clerkTwiceSpec)

/-- 'handsellaw.ClerkOthers', WHERE WHAT IT READS IS OF BULK AT MOST 1048576: true; the input reads as it did. -/
def clerkOthersUptoRow : OpenClaim := { program := "ytboenplenoemfab", sum := "bd518b8dd8bccd0656fb9b2a951c2b0e21dac844b75c6c3e5b982ed937e6f694", func := "handsel/handsellaw.ClerkOthers", spec := "clerkOthers", unfollowed := true, recurses := true, apart := false, narrowed := true }
def ClerkOthersUptoSaid : Prop := clerkOthersUptoRow.holds Try.pinned (OpenSpec.upto clerkOthersSpec)

end Rows
end Go.Proofs.Ytboenplenoemfab
