/-
  No cell of these rows narrows 'for every input' (looked for: loops, veiled, ifaces, maps, wideKeys, modest, calm, conditions, laid).
  DERIVED. THE GIVEN ROWS OF THIS SEAT. 12 by the template 'for every input the law returns true; each argument reads behind the call as it read before'; 0 by the template 'total and deterministic' (their statements: YtbgnajcmhmpjlabTotals.lean).
  GIVEN WITH THE SEED: the statements are not yours to turn. If you find one false, say at which input.
  Laid BY PROGRAM, IN A SANDBOX (cutbox-rows.mjs): the forced cells as the released guide's own fill.sh prints them over the translation f24d5f0bc3ddacc2… (all of the seat's roots in one cut). By AI agents, Wed Nov 11 2026. No macro, syntax, notation, axiom, sorry.
-/
import Derived.Test.YtbgnajcmhmpjlabChecked
import GoSem.Claim
import GoSem.ClaimJoined
import GoSem.ClaimMapViews
import Derived.JoinedTies
import Derived.KernelRfl
namespace Go.Proofs.Ytbgnajcmhmpjlab
/- THE CELL 'sum', in the pinned program and in every row, IS THE sha256 OF THE DUMP (.gsa) THAT YtbgnajcmhmpjlabProg.lean LOADS. Nothing in Lean hashes anything: it is a label: what it is worth is what the hold of that sum in a sandbox is worth. -/
noncomputable def Try.pinned : Pinned := { name := "ytbgnajcmhmpjlab", sum := "f24d5f0bc3ddacc2734c039f2b7ebb06909a9d2c7f0884ff0dc781398e484bae", checked := Try.checked }
namespace Rows
def none {H : Type} : Left H := { results := [], args := [] }

/-- 'handsellaw.KeepDoes': WHATEVER THE INPUT: true; the input reads as it did. -/
def keepDoesSpec : ChangeSpec := { name := "keepDoes", fn := fun _ => fun
  | [d1, d2, d3, d4, d5] => { results := [.lit (.bool true)], args := [d1, d2, d3, d4, d5] }
  | _ => none }
def keepDoesRow : OpenClaim := { program := "ytbgnajcmhmpjlab", sum := "f24d5f0bc3ddacc2734c039f2b7ebb06909a9d2c7f0884ff0dc781398e484bae", func := "handsel/handsellaw.KeepDoes", spec := "keepDoes", unfollowed := true, recurses := true, apart := false }
def KeepDoesSaid : Prop := keepDoesRow.holds Try.pinned (OpenSpec.ofChange keepDoesSpec)

/-- ITS FALSE NEIGHBOUR: 'it returns false'. Refute it at one input. -/
def keepDoesWrong : ChangeSpec := { name := "keepDoes", fn := fun _ => fun
  | [d1, d2, d3, d4, d5] => { results := [.lit (.bool false)], args := [d1, d2, d3, d4, d5] }
  | _ => none }
def KeepDoesWrongFalsely : Prop := keepDoesRow.holds Try.pinned (OpenSpec.ofChange keepDoesWrong)

/-- 'handsellaw.KeepAgain': WHATEVER THE INPUT: true; the input reads as it did. -/
def keepAgainSpec : ChangeSpec := { name := "keepAgain", fn := fun _ => fun
  | [d1, d2, d3] => { results := [.lit (.bool true)], args := [d1, d2, d3] }
  | _ => none }
def keepAgainRow : OpenClaim := { program := "ytbgnajcmhmpjlab", sum := "f24d5f0bc3ddacc2734c039f2b7ebb06909a9d2c7f0884ff0dc781398e484bae", func := "handsel/handsellaw.KeepAgain", spec := "keepAgain", unfollowed := true, recurses := true, apart := false }
def KeepAgainSaid : Prop := keepAgainRow.holds Try.pinned (OpenSpec.ofChange keepAgainSpec)

/-- ITS FALSE NEIGHBOUR: 'it returns false'. Refute it at one input. -/
def keepAgainWrong : ChangeSpec := { name := "keepAgain", fn := fun _ => fun
  | [d1, d2, d3] => { results := [.lit (.bool false)], args := [d1, d2, d3] }
  | _ => none }
def KeepAgainWrongFalsely : Prop := keepAgainRow.holds Try.pinned (OpenSpec.ofChange keepAgainWrong)

/-- 'handsellaw.KeepRefuses': WHATEVER THE INPUT: true; the input reads as it did. -/
def keepRefusesSpec : ChangeSpec := { name := "keepRefuses", fn := fun _ => fun
  | [d1, d2, d3] => { results := [.lit (.bool true)], args := [d1, d2, d3] }
  | _ => none }
def keepRefusesRow : OpenClaim := { program := "ytbgnajcmhmpjlab", sum := "f24d5f0bc3ddacc2734c039f2b7ebb06909a9d2c7f0884ff0dc781398e484bae", func := "handsel/handsellaw.KeepRefuses", spec := "keepRefuses", unfollowed := true, recurses := true, apart := false }
def KeepRefusesSaid : Prop := keepRefusesRow.holds Try.pinned (OpenSpec.ofChange keepRefusesSpec)

/-- ITS FALSE NEIGHBOUR: 'it returns false'. Refute it at one input. -/
def keepRefusesWrong : ChangeSpec := { name := "keepRefuses", fn := fun _ => fun
  | [d1, d2, d3] => { results := [.lit (.bool false)], args := [d1, d2, d3] }
  | _ => none }
def KeepRefusesWrongFalsely : Prop := keepRefusesRow.holds Try.pinned (OpenSpec.ofChange keepRefusesWrong)

/-- 'handsellaw.PostDoes': WHATEVER THE INPUT: true; the input reads as it did. -/
def postDoesSpec : ChangeSpec := { name := "postDoes", fn := fun _ => fun
  | [d] => { results := [.lit (.bool true)], args := [d] }
  | _ => none }
def postDoesRow : OpenClaim := { program := "ytbgnajcmhmpjlab", sum := "f24d5f0bc3ddacc2734c039f2b7ebb06909a9d2c7f0884ff0dc781398e484bae", func := "handsel/handsellaw.PostDoes", spec := "postDoes", apart := false }
def PostDoesSaid : Prop := postDoesRow.holds Try.pinned (OpenSpec.ofChange postDoesSpec)

/-- ITS FALSE NEIGHBOUR: 'it returns false'. Refute it at one input. -/
def postDoesWrong : ChangeSpec := { name := "postDoes", fn := fun _ => fun
  | [d] => { results := [.lit (.bool false)], args := [d] }
  | _ => none }
def PostDoesWrongFalsely : Prop := postDoesRow.holds Try.pinned (OpenSpec.ofChange postDoesWrong)

/-- 'handsellaw.PostKeeps': WHATEVER THE INPUT: true; the input reads as it did. -/
def postKeepsSpec : ChangeSpec := { name := "postKeeps", fn := fun _ => fun
  | [d] => { results := [.lit (.bool true)], args := [d] }
  | _ => none }
def postKeepsRow : OpenClaim := { program := "ytbgnajcmhmpjlab", sum := "f24d5f0bc3ddacc2734c039f2b7ebb06909a9d2c7f0884ff0dc781398e484bae", func := "handsel/handsellaw.PostKeeps", spec := "postKeeps", apart := false }
def PostKeepsSaid : Prop := postKeepsRow.holds Try.pinned (OpenSpec.ofChange postKeepsSpec)

/-- ITS FALSE NEIGHBOUR: 'it returns false'. Refute it at one input. -/
def postKeepsWrong : ChangeSpec := { name := "postKeeps", fn := fun _ => fun
  | [d] => { results := [.lit (.bool false)], args := [d] }
  | _ => none }
def PostKeepsWrongFalsely : Prop := postKeepsRow.holds Try.pinned (OpenSpec.ofChange postKeepsWrong)

/-- 'handsellaw.PostOrder': WHATEVER THE INPUT: true; the input reads as it did. -/
def postOrderSpec : ChangeSpec := { name := "postOrder", fn := fun _ => fun
  | [d1, d2] => { results := [.lit (.bool true)], args := [d1, d2] }
  | _ => none }
def postOrderRow : OpenClaim := { program := "ytbgnajcmhmpjlab", sum := "f24d5f0bc3ddacc2734c039f2b7ebb06909a9d2c7f0884ff0dc781398e484bae", func := "handsel/handsellaw.PostOrder", spec := "postOrder", apart := false }
def PostOrderSaid : Prop := postOrderRow.holds Try.pinned (OpenSpec.ofChange postOrderSpec)

/-- ITS FALSE NEIGHBOUR: 'it returns false'. Refute it at one input. -/
def postOrderWrong : ChangeSpec := { name := "postOrder", fn := fun _ => fun
  | [d1, d2] => { results := [.lit (.bool false)], args := [d1, d2] }
  | _ => none }
def PostOrderWrongFalsely : Prop := postOrderRow.holds Try.pinned (OpenSpec.ofChange postOrderWrong)

/-- 'handsellaw.ClerkDoes': WHATEVER THE INPUT: true; the input reads as it did. -/
def clerkDoesSpec : ChangeSpec := { name := "clerkDoes", fn := fun _ => fun
  | [d1, d2, d3, d4] => { results := [.lit (.bool true)], args := [d1, d2, d3, d4] }
  | _ => none }
def clerkDoesRow : OpenClaim := { program := "ytbgnajcmhmpjlab", sum := "f24d5f0bc3ddacc2734c039f2b7ebb06909a9d2c7f0884ff0dc781398e484bae", func := "handsel/handsellaw.ClerkDoes", spec := "clerkDoes", unfollowed := true, recurses := true, apart := false }
def ClerkDoesSaid : Prop := clerkDoesRow.holds Try.pinned (OpenSpec.ofChange clerkDoesSpec)

/-- ITS FALSE NEIGHBOUR: 'it returns false'. Refute it at one input. -/
def clerkDoesWrong : ChangeSpec := { name := "clerkDoes", fn := fun _ => fun
  | [d1, d2, d3, d4] => { results := [.lit (.bool false)], args := [d1, d2, d3, d4] }
  | _ => none }
def ClerkDoesWrongFalsely : Prop := clerkDoesRow.holds Try.pinned (OpenSpec.ofChange clerkDoesWrong)

/-- 'handsellaw.ClerkTwice': WHATEVER THE INPUT: true; the input reads as it did. -/
def clerkTwiceSpec : ChangeSpec := { name := "clerkTwice", fn := fun _ => fun
  | [d1, d2, d3] => { results := [.lit (.bool true)], args := [d1, d2, d3] }
  | _ => none }
def clerkTwiceRow : OpenClaim := { program := "ytbgnajcmhmpjlab", sum := "f24d5f0bc3ddacc2734c039f2b7ebb06909a9d2c7f0884ff0dc781398e484bae", func := "handsel/handsellaw.ClerkTwice", spec := "clerkTwice", unfollowed := true, recurses := true, apart := false }
def ClerkTwiceSaid : Prop := clerkTwiceRow.holds Try.pinned (OpenSpec.ofChange clerkTwiceSpec)

/-- ITS FALSE NEIGHBOUR: 'it returns false'. Refute it at one input. -/
def clerkTwiceWrong : ChangeSpec := { name := "clerkTwice", fn := fun _ => fun
  | [d1, d2, d3] => { results := [.lit (.bool false)], args := [d1, d2, d3] }
  | _ => none }
def ClerkTwiceWrongFalsely : Prop := clerkTwiceRow.holds Try.pinned (OpenSpec.ofChange clerkTwiceWrong)

/-- 'handsellaw.ClerkOthers': WHATEVER THE INPUT: true; the input reads as it did. -/
def clerkOthersSpec : ChangeSpec := { name := "clerkOthers", fn := fun _ => fun
  | [d1, d2, d3, d4] => { results := [.lit (.bool true)], args := [d1, d2, d3, d4] }
  | _ => none }
def clerkOthersRow : OpenClaim := { program := "ytbgnajcmhmpjlab", sum := "f24d5f0bc3ddacc2734c039f2b7ebb06909a9d2c7f0884ff0dc781398e484bae", func := "handsel/handsellaw.ClerkOthers", spec := "clerkOthers", unfollowed := true, recurses := true, apart := false }
def ClerkOthersSaid : Prop := clerkOthersRow.holds Try.pinned (OpenSpec.ofChange clerkOthersSpec)

/-- ITS FALSE NEIGHBOUR: 'it returns false'. Refute it at one input. -/
def clerkOthersWrong : ChangeSpec := { name := "clerkOthers", fn := fun _ => fun
  | [d1, d2, d3, d4] => { results := [.lit (.bool false)], args := [d1, d2, d3, d4] }
  | _ => none }
def ClerkOthersWrongFalsely : Prop := clerkOthersRow.holds Try.pinned (OpenSpec.ofChange clerkOthersWrong)

/-- 'handsellaw.BrokerDoes': WHATEVER THE INPUT: true; the input reads as it did. -/
def brokerDoesSpec : ChangeSpec := { name := "brokerDoes", fn := fun _ => fun
  | [d] => { results := [.lit (.bool true)], args := [d] }
  | _ => none }
def brokerDoesRow : OpenClaim := { program := "ytbgnajcmhmpjlab", sum := "f24d5f0bc3ddacc2734c039f2b7ebb06909a9d2c7f0884ff0dc781398e484bae", func := "handsel/handsellaw.BrokerDoes", spec := "brokerDoes", apart := false }
def BrokerDoesSaid : Prop := brokerDoesRow.holds Try.pinned (OpenSpec.ofChange brokerDoesSpec)

/-- ITS FALSE NEIGHBOUR: 'it returns false'. Refute it at one input. -/
def brokerDoesWrong : ChangeSpec := { name := "brokerDoes", fn := fun _ => fun
  | [d] => { results := [.lit (.bool false)], args := [d] }
  | _ => none }
def BrokerDoesWrongFalsely : Prop := brokerDoesRow.holds Try.pinned (OpenSpec.ofChange brokerDoesWrong)

/-- 'handsellaw.BrokerStays': WHATEVER THE INPUT: true; the input reads as it did. -/
def brokerStaysSpec : ChangeSpec := { name := "brokerStays", fn := fun _ => fun
  | [d] => { results := [.lit (.bool true)], args := [d] }
  | _ => none }
def brokerStaysRow : OpenClaim := { program := "ytbgnajcmhmpjlab", sum := "f24d5f0bc3ddacc2734c039f2b7ebb06909a9d2c7f0884ff0dc781398e484bae", func := "handsel/handsellaw.BrokerStays", spec := "brokerStays", apart := false }
def BrokerStaysSaid : Prop := brokerStaysRow.holds Try.pinned (OpenSpec.ofChange brokerStaysSpec)

/-- ITS FALSE NEIGHBOUR: 'it returns false'. Refute it at one input. -/
def brokerStaysWrong : ChangeSpec := { name := "brokerStays", fn := fun _ => fun
  | [d] => { results := [.lit (.bool false)], args := [d] }
  | _ => none }
def BrokerStaysWrongFalsely : Prop := brokerStaysRow.holds Try.pinned (OpenSpec.ofChange brokerStaysWrong)

/-- 'handsellaw.BrokerDue': WHATEVER THE INPUT: true; the input reads as it did. -/
def brokerDueSpec : ChangeSpec := { name := "brokerDue", fn := fun _ => fun
  | [d] => { results := [.lit (.bool true)], args := [d] }
  | _ => none }
def brokerDueRow : OpenClaim := { program := "ytbgnajcmhmpjlab", sum := "f24d5f0bc3ddacc2734c039f2b7ebb06909a9d2c7f0884ff0dc781398e484bae", func := "handsel/handsellaw.BrokerDue", spec := "brokerDue", apart := false }
def BrokerDueSaid : Prop := brokerDueRow.holds Try.pinned (OpenSpec.ofChange brokerDueSpec)

/-- ITS FALSE NEIGHBOUR: 'it returns false'. Refute it at one input. -/
def brokerDueWrong : ChangeSpec := { name := "brokerDue", fn := fun _ => fun
  | [d] => { results := [.lit (.bool false)], args := [d] }
  | _ => none }
def BrokerDueWrongFalsely : Prop := brokerDueRow.holds Try.pinned (OpenSpec.ofChange brokerDueWrong)

/- THE SECOND FORM. 'bulk': how many values and letters a reading holds, each counted each time it is reached (what is shared counts as often as it is met; a slice's spare places count too). A statement '..UptoSaid' is the law's where the arguments, and the package variables that the reading takes, are together of bulk at most 1048576: NARROWER than '..Said'. Prove '..Said' where nothing that the law and all that it calls make is longer than what came in: it says more and counts as full. Else prove '..UptoSaid'. A law counts once. -/
mutual
def uptoBulk {H : Type} : DataW H → Nat
  | .lit (.string bytes) => bytes.length + 1
  | .lit _ => 1
  | .nil => 1
  | .ptr d => uptoBulk d + 1
  | .slice elems spare => uptoBulkAll elems + uptoBulkAll spare + 1
  | .agg parts => uptoBulkAll parts + 1
  | .iface _ d => uptoBulk d + 1
  | .map entries => uptoBulkEntries entries + 1
  | .held _ => 1
def uptoBulkAll {H : Type} : List (DataW H) → Nat
  | [] => 0
  | d :: r => uptoBulk d + uptoBulkAll r
def uptoBulkEntries {H : Type} : List (Lit × DataW H) → Nat
  | [] => 0
  | x :: r => uptoBulkEntry x + uptoBulkEntries r
def uptoBulkEntry {H : Type} : Lit × DataW H → Nat
  | (.string bytes, d) => bytes.length + uptoBulk d + 1
  | (_, d) => uptoBulk d + 1
 end
def uptoSmall : (H : Type) → List (DataW H) → Bool := fun _ ds => decide (uptoBulkAll ds ≤ 1048576)
def OpenSpec.upto (s : _root_.Go.ChangeSpec) : _root_.Go.OpenSpec := { _root_.Go.OpenSpec.ofChange s with cond := some uptoSmall }

/-- 'handsellaw.KeepDoes', WHERE WHAT IT READS IS OF BULK AT MOST 1048576: true; the input reads as it did. -/
def keepDoesUptoRow : OpenClaim := { program := "ytbgnajcmhmpjlab", sum := "f24d5f0bc3ddacc2734c039f2b7ebb06909a9d2c7f0884ff0dc781398e484bae", func := "handsel/handsellaw.KeepDoes", spec := "keepDoes", unfollowed := true, recurses := true, apart := false, narrowed := true }
def KeepDoesUptoSaid : Prop := keepDoesUptoRow.holds Try.pinned (OpenSpec.upto keepDoesSpec)

/-- 'handsellaw.KeepAgain', WHERE WHAT IT READS IS OF BULK AT MOST 1048576: true; the input reads as it did. -/
def keepAgainUptoRow : OpenClaim := { program := "ytbgnajcmhmpjlab", sum := "f24d5f0bc3ddacc2734c039f2b7ebb06909a9d2c7f0884ff0dc781398e484bae", func := "handsel/handsellaw.KeepAgain", spec := "keepAgain", unfollowed := true, recurses := true, apart := false, narrowed := true }
def KeepAgainUptoSaid : Prop := keepAgainUptoRow.holds Try.pinned (OpenSpec.upto keepAgainSpec)

/-- 'handsellaw.KeepRefuses', WHERE WHAT IT READS IS OF BULK AT MOST 1048576: true; the input reads as it did. -/
def keepRefusesUptoRow : OpenClaim := { program := "ytbgnajcmhmpjlab", sum := "f24d5f0bc3ddacc2734c039f2b7ebb06909a9d2c7f0884ff0dc781398e484bae", func := "handsel/handsellaw.KeepRefuses", spec := "keepRefuses", unfollowed := true, recurses := true, apart := false, narrowed := true }
def KeepRefusesUptoSaid : Prop := keepRefusesUptoRow.holds Try.pinned (OpenSpec.upto keepRefusesSpec)

/-- 'handsellaw.PostDoes', WHERE WHAT IT READS IS OF BULK AT MOST 1048576: true; the input reads as it did. -/
def postDoesUptoRow : OpenClaim := { program := "ytbgnajcmhmpjlab", sum := "f24d5f0bc3ddacc2734c039f2b7ebb06909a9d2c7f0884ff0dc781398e484bae", func := "handsel/handsellaw.PostDoes", spec := "postDoes", apart := false, narrowed := true }
def PostDoesUptoSaid : Prop := postDoesUptoRow.holds Try.pinned (OpenSpec.upto postDoesSpec)

/-- 'handsellaw.PostKeeps', WHERE WHAT IT READS IS OF BULK AT MOST 1048576: true; the input reads as it did. -/
def postKeepsUptoRow : OpenClaim := { program := "ytbgnajcmhmpjlab", sum := "f24d5f0bc3ddacc2734c039f2b7ebb06909a9d2c7f0884ff0dc781398e484bae", func := "handsel/handsellaw.PostKeeps", spec := "postKeeps", apart := false, narrowed := true }
def PostKeepsUptoSaid : Prop := postKeepsUptoRow.holds Try.pinned (OpenSpec.upto postKeepsSpec)

/-- 'handsellaw.PostOrder', WHERE WHAT IT READS IS OF BULK AT MOST 1048576: true; the input reads as it did. -/
def postOrderUptoRow : OpenClaim := { program := "ytbgnajcmhmpjlab", sum := "f24d5f0bc3ddacc2734c039f2b7ebb06909a9d2c7f0884ff0dc781398e484bae", func := "handsel/handsellaw.PostOrder", spec := "postOrder", apart := false, narrowed := true }
def PostOrderUptoSaid : Prop := postOrderUptoRow.holds Try.pinned (OpenSpec.upto postOrderSpec)

/-- 'handsellaw.ClerkDoes', WHERE WHAT IT READS IS OF BULK AT MOST 1048576: true; the input reads as it did. -/
def clerkDoesUptoRow : OpenClaim := { program := "ytbgnajcmhmpjlab", sum := "f24d5f0bc3ddacc2734c039f2b7ebb06909a9d2c7f0884ff0dc781398e484bae", func := "handsel/handsellaw.ClerkDoes", spec := "clerkDoes", unfollowed := true, recurses := true, apart := false, narrowed := true }
def ClerkDoesUptoSaid : Prop := clerkDoesUptoRow.holds Try.pinned (OpenSpec.upto clerkDoesSpec)

/-- 'handsellaw.ClerkTwice', WHERE WHAT IT READS IS OF BULK AT MOST 1048576: true; the input reads as it did. -/
def clerkTwiceUptoRow : OpenClaim := { program := "ytbgnajcmhmpjlab", sum := "f24d5f0bc3ddacc2734c039f2b7ebb06909a9d2c7f0884ff0dc781398e484bae", func := "handsel/handsellaw.ClerkTwice", spec := "clerkTwice", unfollowed := true, recurses := true, apart := false, narrowed := true }
def ClerkTwiceUptoSaid : Prop := clerkTwiceUptoRow.holds Try.pinned (OpenSpec.upto clerkTwiceSpec)

/-- 'handsellaw.ClerkOthers', WHERE WHAT IT READS IS OF BULK AT MOST 1048576: true; the input reads as it did. -/
def clerkOthersUptoRow : OpenClaim := { program := "ytbgnajcmhmpjlab", sum := "f24d5f0bc3ddacc2734c039f2b7ebb06909a9d2c7f0884ff0dc781398e484bae", func := "handsel/handsellaw.ClerkOthers", spec := "clerkOthers", unfollowed := true, recurses := true, apart := false, narrowed := true }
def ClerkOthersUptoSaid : Prop := clerkOthersUptoRow.holds Try.pinned (OpenSpec.upto clerkOthersSpec)

/-- 'handsellaw.BrokerDoes', WHERE WHAT IT READS IS OF BULK AT MOST 1048576: true; the input reads as it did. -/
def brokerDoesUptoRow : OpenClaim := { program := "ytbgnajcmhmpjlab", sum := "f24d5f0bc3ddacc2734c039f2b7ebb06909a9d2c7f0884ff0dc781398e484bae", func := "handsel/handsellaw.BrokerDoes", spec := "brokerDoes", apart := false, narrowed := true }
def BrokerDoesUptoSaid : Prop := brokerDoesUptoRow.holds Try.pinned (OpenSpec.upto brokerDoesSpec)

/-- 'handsellaw.BrokerStays', WHERE WHAT IT READS IS OF BULK AT MOST 1048576: true; the input reads as it did. -/
def brokerStaysUptoRow : OpenClaim := { program := "ytbgnajcmhmpjlab", sum := "f24d5f0bc3ddacc2734c039f2b7ebb06909a9d2c7f0884ff0dc781398e484bae", func := "handsel/handsellaw.BrokerStays", spec := "brokerStays", apart := false, narrowed := true }
def BrokerStaysUptoSaid : Prop := brokerStaysUptoRow.holds Try.pinned (OpenSpec.upto brokerStaysSpec)

/-- 'handsellaw.BrokerDue', WHERE WHAT IT READS IS OF BULK AT MOST 1048576: true; the input reads as it did. -/
def brokerDueUptoRow : OpenClaim := { program := "ytbgnajcmhmpjlab", sum := "f24d5f0bc3ddacc2734c039f2b7ebb06909a9d2c7f0884ff0dc781398e484bae", func := "handsel/handsellaw.BrokerDue", spec := "brokerDue", apart := false, narrowed := true }
def BrokerDueUptoSaid : Prop := brokerDueUptoRow.holds Try.pinned (OpenSpec.upto brokerDueSpec)

end Rows
end Go.Proofs.Ytbgnajcmhmpjlab
