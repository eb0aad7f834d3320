/-
  No cell of these rows narrows 'for every input' (looked for: loops, veiled, ifaces, maps, wideKeys, modest, calm, conditions, laid).
  DERIVED. THE GIVEN ROWS OF THIS SEAT. 9 by the template 'for every input the law returns true; each argument reads behind the call as it read before'; 0 by the template 'total and deterministic' (their statements: YtbgnajcmhmpjlacTotals.lean).
  GIVEN WITH THE SEED: the statements are not yours to turn. If you find one false, say at which input.
  Laid BY PROGRAM, IN A SANDBOX (cutbox-rows.mjs): the forced cells as the released guide's own fill.sh prints them over the translation d0c525377aaa526b… (all of the seat's roots in one cut). By AI agents, Wed Nov 11 2026. No macro, syntax, notation, axiom, sorry.
-/
import Derived.Test.YtbgnajcmhmpjlacChecked
import GoSem.Claim
import GoSem.ClaimJoined
import GoSem.ClaimMapViews
import Derived.JoinedTies
import Derived.KernelRfl
namespace Go.Proofs.Ytbgnajcmhmpjlac
/- THE CELL 'sum', in the pinned program and in every row, IS THE sha256 OF THE DUMP (.gsa) THAT YtbgnajcmhmpjlacProg.lean LOADS. Nothing in Lean hashes anything: it is a label: what it is worth is what the hold of that sum in a sandbox is worth. -/
noncomputable def Try.pinned : Pinned := { name := "ytbgnajcmhmpjlac", sum := "d0c525377aaa526b3acbbce84e8a8567cbaaff3a4531e2fb7366bb1f34dfe1cd", checked := Try.checked }
namespace Rows
def none {H : Type} : Left H := { results := [], args := [] }

/-- 'handsellaw.BrokerYes': WHATEVER THE INPUT: true; the input reads as it did. -/
def brokerYesSpec : ChangeSpec := { name := "brokerYes", fn := fun _ => fun
  | [d1, d2, d3] => { results := [.lit (.bool true)], args := [d1, d2, d3] }
  | _ => none }
def brokerYesRow : OpenClaim := { program := "ytbgnajcmhmpjlac", sum := "d0c525377aaa526b3acbbce84e8a8567cbaaff3a4531e2fb7366bb1f34dfe1cd", func := "handsel/handsellaw.BrokerYes", spec := "brokerYes", apart := false }
def BrokerYesSaid : Prop := brokerYesRow.holds Try.pinned (OpenSpec.ofChange brokerYesSpec)

/-- ITS FALSE NEIGHBOUR: 'it returns false'. Refute it at one input. -/
def brokerYesWrong : ChangeSpec := { name := "brokerYes", fn := fun _ => fun
  | [d1, d2, d3] => { results := [.lit (.bool false)], args := [d1, d2, d3] }
  | _ => none }
def BrokerYesWrongFalsely : Prop := brokerYesRow.holds Try.pinned (OpenSpec.ofChange brokerYesWrong)

/-- 'handsellaw.TownAll': WHATEVER THE INPUT: true; the input reads as it did. -/
def townAllSpec : ChangeSpec := { name := "townAll", fn := fun _ => fun
  | [d1, d2] => { results := [.lit (.bool true)], args := [d1, d2] }
  | _ => none }
def townAllRow : OpenClaim := { program := "ytbgnajcmhmpjlac", sum := "d0c525377aaa526b3acbbce84e8a8567cbaaff3a4531e2fb7366bb1f34dfe1cd", func := "handsel/handsellaw.TownAll", spec := "townAll", unfollowed := true, recurses := true, apart := false }
def TownAllSaid : Prop := townAllRow.holds Try.pinned (OpenSpec.ofChange townAllSpec)

/-- ITS FALSE NEIGHBOUR: 'it returns false'. Refute it at one input. -/
def townAllWrong : ChangeSpec := { name := "townAll", fn := fun _ => fun
  | [d1, d2] => { results := [.lit (.bool false)], args := [d1, d2] }
  | _ => none }
def TownAllWrongFalsely : Prop := townAllRow.holds Try.pinned (OpenSpec.ofChange townAllWrong)

/-- 'handsellaw.TownNever': WHATEVER THE INPUT: true; the input reads as it did. -/
def townNeverSpec : ChangeSpec := { name := "townNever", fn := fun _ => fun
  | [d1, d2] => { results := [.lit (.bool true)], args := [d1, d2] }
  | _ => none }
def townNeverRow : OpenClaim := { program := "ytbgnajcmhmpjlac", sum := "d0c525377aaa526b3acbbce84e8a8567cbaaff3a4531e2fb7366bb1f34dfe1cd", func := "handsel/handsellaw.TownNever", spec := "townNever", unfollowed := true, recurses := true, apart := false }
def TownNeverSaid : Prop := townNeverRow.holds Try.pinned (OpenSpec.ofChange townNeverSpec)

/-- ITS FALSE NEIGHBOUR: 'it returns false'. Refute it at one input. -/
def townNeverWrong : ChangeSpec := { name := "townNever", fn := fun _ => fun
  | [d1, d2] => { results := [.lit (.bool false)], args := [d1, d2] }
  | _ => none }
def TownNeverWrongFalsely : Prop := townNeverRow.holds Try.pinned (OpenSpec.ofChange townNeverWrong)

/-- 'handsellaw.TownSum': WHATEVER THE INPUT: true; the input reads as it did. -/
def townSumSpec : ChangeSpec := { name := "townSum", fn := fun _ => fun
  | [d1, d2] => { results := [.lit (.bool true)], args := [d1, d2] }
  | _ => none }
def townSumRow : OpenClaim := { program := "ytbgnajcmhmpjlac", sum := "d0c525377aaa526b3acbbce84e8a8567cbaaff3a4531e2fb7366bb1f34dfe1cd", func := "handsel/handsellaw.TownSum", spec := "townSum", unfollowed := true, recurses := true, apart := false }
def TownSumSaid : Prop := townSumRow.holds Try.pinned (OpenSpec.ofChange townSumSpec)

/-- ITS FALSE NEIGHBOUR: 'it returns false'. Refute it at one input. -/
def townSumWrong : ChangeSpec := { name := "townSum", fn := fun _ => fun
  | [d1, d2] => { results := [.lit (.bool false)], args := [d1, d2] }
  | _ => none }
def TownSumWrongFalsely : Prop := townSumRow.holds Try.pinned (OpenSpec.ofChange townSumWrong)

/-- 'handsellaw.TownForgets': WHATEVER THE INPUT: true; the input reads as it did. -/
def townForgetsSpec : ChangeSpec := { name := "townForgets", fn := fun _ => fun
  | [d1, d2] => { results := [.lit (.bool true)], args := [d1, d2] }
  | _ => none }
def townForgetsRow : OpenClaim := { program := "ytbgnajcmhmpjlac", sum := "d0c525377aaa526b3acbbce84e8a8567cbaaff3a4531e2fb7366bb1f34dfe1cd", func := "handsel/handsellaw.TownForgets", spec := "townForgets", unfollowed := true, recurses := true, apart := false }
def TownForgetsSaid : Prop := townForgetsRow.holds Try.pinned (OpenSpec.ofChange townForgetsSpec)

/-- ITS FALSE NEIGHBOUR: 'it returns false'. Refute it at one input. -/
def townForgetsWrong : ChangeSpec := { name := "townForgets", fn := fun _ => fun
  | [d1, d2] => { results := [.lit (.bool false)], args := [d1, d2] }
  | _ => none }
def TownForgetsWrongFalsely : Prop := townForgetsRow.holds Try.pinned (OpenSpec.ofChange townForgetsWrong)

/-- 'handsellaw.TownOne': WHATEVER THE INPUT: true; the input reads as it did. -/
def townOneSpec : ChangeSpec := { name := "townOne", fn := fun _ => fun
  | [d1, d2, d3] => { results := [.lit (.bool true)], args := [d1, d2, d3] }
  | _ => none }
def townOneRow : OpenClaim := { program := "ytbgnajcmhmpjlac", sum := "d0c525377aaa526b3acbbce84e8a8567cbaaff3a4531e2fb7366bb1f34dfe1cd", func := "handsel/handsellaw.TownOne", spec := "townOne", unfollowed := true, recurses := true, apart := false }
def TownOneSaid : Prop := townOneRow.holds Try.pinned (OpenSpec.ofChange townOneSpec)

/-- ITS FALSE NEIGHBOUR: 'it returns false'. Refute it at one input. -/
def townOneWrong : ChangeSpec := { name := "townOne", fn := fun _ => fun
  | [d1, d2, d3] => { results := [.lit (.bool false)], args := [d1, d2, d3] }
  | _ => none }
def TownOneWrongFalsely : Prop := townOneRow.holds Try.pinned (OpenSpec.ofChange townOneWrong)

/-- 'handsellaw.TownCalm': WHATEVER THE INPUT: true; the input reads as it did. -/
def townCalmSpec : ChangeSpec := { name := "townCalm", fn := fun _ => fun
  | [d1, d2, d3] => { results := [.lit (.bool true)], args := [d1, d2, d3] }
  | _ => none }
def townCalmRow : OpenClaim := { program := "ytbgnajcmhmpjlac", sum := "d0c525377aaa526b3acbbce84e8a8567cbaaff3a4531e2fb7366bb1f34dfe1cd", func := "handsel/handsellaw.TownCalm", spec := "townCalm", unfollowed := true, recurses := true, apart := false }
def TownCalmSaid : Prop := townCalmRow.holds Try.pinned (OpenSpec.ofChange townCalmSpec)

/-- ITS FALSE NEIGHBOUR: 'it returns false'. Refute it at one input. -/
def townCalmWrong : ChangeSpec := { name := "townCalm", fn := fun _ => fun
  | [d1, d2, d3] => { results := [.lit (.bool false)], args := [d1, d2, d3] }
  | _ => none }
def TownCalmWrongFalsely : Prop := townCalmRow.holds Try.pinned (OpenSpec.ofChange townCalmWrong)

/-- 'handsellaw.TownQuits': WHATEVER THE INPUT: true; the input reads as it did. -/
def townQuitsSpec : ChangeSpec := { name := "townQuits", fn := fun _ => fun
  | [d1, d2] => { results := [.lit (.bool true)], args := [d1, d2] }
  | _ => none }
def townQuitsRow : OpenClaim := { program := "ytbgnajcmhmpjlac", sum := "d0c525377aaa526b3acbbce84e8a8567cbaaff3a4531e2fb7366bb1f34dfe1cd", func := "handsel/handsellaw.TownQuits", spec := "townQuits", unfollowed := true, recurses := true, apart := false }
def TownQuitsSaid : Prop := townQuitsRow.holds Try.pinned (OpenSpec.ofChange townQuitsSpec)

/-- ITS FALSE NEIGHBOUR: 'it returns false'. Refute it at one input. -/
def townQuitsWrong : ChangeSpec := { name := "townQuits", fn := fun _ => fun
  | [d1, d2] => { results := [.lit (.bool false)], args := [d1, d2] }
  | _ => none }
def TownQuitsWrongFalsely : Prop := townQuitsRow.holds Try.pinned (OpenSpec.ofChange townQuitsWrong)

/-- 'handsellaw.TownBroker': WHATEVER THE INPUT: true; the input reads as it did. -/
def townBrokerSpec : ChangeSpec := { name := "townBroker", fn := fun _ => fun
  | [d1, d2] => { results := [.lit (.bool true)], args := [d1, d2] }
  | _ => none }
def townBrokerRow : OpenClaim := { program := "ytbgnajcmhmpjlac", sum := "d0c525377aaa526b3acbbce84e8a8567cbaaff3a4531e2fb7366bb1f34dfe1cd", func := "handsel/handsellaw.TownBroker", spec := "townBroker", unfollowed := true, recurses := true, apart := false }
def TownBrokerSaid : Prop := townBrokerRow.holds Try.pinned (OpenSpec.ofChange townBrokerSpec)

/-- ITS FALSE NEIGHBOUR: 'it returns false'. Refute it at one input. -/
def townBrokerWrong : ChangeSpec := { name := "townBroker", fn := fun _ => fun
  | [d1, d2] => { results := [.lit (.bool false)], args := [d1, d2] }
  | _ => none }
def TownBrokerWrongFalsely : Prop := townBrokerRow.holds Try.pinned (OpenSpec.ofChange townBrokerWrong)

/- THE SECOND FORM. 'bulk': how many values and letters a reading holds, each counted each time it is reached (what is shared counts as often as it is met; a slice's spare places count too). A statement '..UptoSaid' is the law's where the arguments, and the package variables that the reading takes, are together of bulk at most 1048576: NARROWER than '..Said'. Prove '..Said' where nothing that the law and all that it calls make is longer than what came in: it says more and counts as full. Else prove '..UptoSaid'. A law counts once. -/
mutual
def uptoBulk {H : Type} : DataW H → Nat
  | .lit (.string bytes) => bytes.length + 1
  | .lit _ => 1
  | .nil => 1
  | .ptr d => uptoBulk d + 1
  | .slice elems spare => uptoBulkAll elems + uptoBulkAll spare + 1
  | .agg parts => uptoBulkAll parts + 1
  | .iface _ d => uptoBulk d + 1
  | .map entries => uptoBulkEntries entries + 1
  | .held _ => 1
def uptoBulkAll {H : Type} : List (DataW H) → Nat
  | [] => 0
  | d :: r => uptoBulk d + uptoBulkAll r
def uptoBulkEntries {H : Type} : List (Lit × DataW H) → Nat
  | [] => 0
  | x :: r => uptoBulkEntry x + uptoBulkEntries r
def uptoBulkEntry {H : Type} : Lit × DataW H → Nat
  | (.string bytes, d) => bytes.length + uptoBulk d + 1
  | (_, d) => uptoBulk d + 1
 end
def uptoSmall : (H : Type) → List (DataW H) → Bool := fun _ ds => decide (uptoBulkAll ds ≤ 1048576)
def OpenSpec.upto (s : _root_.Go.ChangeSpec) : _root_.Go.OpenSpec := { _root_.Go.OpenSpec.ofChange s with cond := some uptoSmall }

/-- 'handsellaw.BrokerYes', WHERE WHAT IT READS IS OF BULK AT MOST 1048576: true; the input reads as it did. -/
def brokerYesUptoRow : OpenClaim := { program := "ytbgnajcmhmpjlac", sum := "d0c525377aaa526b3acbbce84e8a8567cbaaff3a4531e2fb7366bb1f34dfe1cd", func := "handsel/handsellaw.BrokerYes", spec := "brokerYes", apart := false, narrowed := true }
def BrokerYesUptoSaid : Prop := brokerYesUptoRow.holds Try.pinned (OpenSpec.upto brokerYesSpec)

/-- 'handsellaw.TownAll', WHERE WHAT IT READS IS OF BULK AT MOST 1048576: true; the input reads as it did. -/
def townAllUptoRow : OpenClaim := { program := "ytbgnajcmhmpjlac", sum := "d0c525377aaa526b3acbbce84e8a8567cbaaff3a4531e2fb7366bb1f34dfe1cd", func := "handsel/handsellaw.TownAll", spec := "townAll", unfollowed := true, recurses := true, apart := false, narrowed := true }
def TownAllUptoSaid : Prop := townAllUptoRow.holds Try.pinned (OpenSpec.upto townAllSpec)

/-- 'handsellaw.TownNever', WHERE WHAT IT READS IS OF BULK AT MOST 1048576: true; the input reads as it did. -/
def townNeverUptoRow : OpenClaim := { program := "ytbgnajcmhmpjlac", sum := "d0c525377aaa526b3acbbce84e8a8567cbaaff3a4531e2fb7366bb1f34dfe1cd", func := "handsel/handsellaw.TownNever", spec := "townNever", unfollowed := true, recurses := true, apart := false, narrowed := true }
def TownNeverUptoSaid : Prop := townNeverUptoRow.holds Try.pinned (OpenSpec.upto townNeverSpec)

/-- 'handsellaw.TownSum', WHERE WHAT IT READS IS OF BULK AT MOST 1048576: true; the input reads as it did. -/
def townSumUptoRow : OpenClaim := { program := "ytbgnajcmhmpjlac", sum := "d0c525377aaa526b3acbbce84e8a8567cbaaff3a4531e2fb7366bb1f34dfe1cd", func := "handsel/handsellaw.TownSum", spec := "townSum", unfollowed := true, recurses := true, apart := false, narrowed := true }
def TownSumUptoSaid : Prop := townSumUptoRow.holds Try.pinned (OpenSpec.upto townSumSpec)

/-- 'handsellaw.TownForgets', WHERE WHAT IT READS IS OF BULK AT MOST 1048576: true; the input reads as it did. -/
def townForgetsUptoRow : OpenClaim := { program := "ytbgnajcmhmpjlac", sum := "d0c525377aaa526b3acbbce84e8a8567cbaaff3a4531e2fb7366bb1f34dfe1cd", func := "handsel/handsellaw.TownForgets", spec := "townForgets", unfollowed := true, recurses := true, apart := false, narrowed := true }
def TownForgetsUptoSaid : Prop := townForgetsUptoRow.holds Try.pinned (OpenSpec.upto townForgetsSpec)

/-- 'handsellaw.TownOne', WHERE WHAT IT READS IS OF BULK AT MOST 1048576: true; the input reads as it did. -/
def townOneUptoRow : OpenClaim := { program := "ytbgnajcmhmpjlac", sum := "d0c525377aaa526b3acbbce84e8a8567cbaaff3a4531e2fb7366bb1f34dfe1cd", func := "handsel/handsellaw.TownOne", spec := "townOne", unfollowed := true, recurses := true, apart := false, narrowed := true }
def TownOneUptoSaid : Prop := townOneUptoRow.holds Try.pinned (OpenSpec.upto townOneSpec)

/-- 'handsellaw.TownCalm', WHERE WHAT IT READS IS OF BULK AT MOST 1048576: true; the input reads as it did. -/
def townCalmUptoRow : OpenClaim := { program := "ytbgnajcmhmpjlac", sum := "d0c525377aaa526b3acbbce84e8a8567cbaaff3a4531e2fb7366bb1f34dfe1cd", func := "handsel/handsellaw.TownCalm", spec := "townCalm", unfollowed := true, recurses := true, apart := false, narrowed := true }
def TownCalmUptoSaid : Prop := townCalmUptoRow.holds Try.pinned (OpenSpec.upto townCalmSpec)

/-- 'handsellaw.TownQuits', WHERE WHAT IT READS IS OF BULK AT MOST 1048576: true; the input reads as it did. -/
def townQuitsUptoRow : OpenClaim := { program := "ytbgnajcmhmpjlac", sum := "d0c525377aaa526b3acbbce84e8a8567cbaaff3a4531e2fb7366bb1f34dfe1cd", func := "handsel/handsellaw.TownQuits", spec := "townQuits", unfollowed := true, recurses := true, apart := false, narrowed := true }
def TownQuitsUptoSaid : Prop := townQuitsUptoRow.holds Try.pinned (OpenSpec.upto townQuitsSpec)

/-- 'handsellaw.TownBroker', WHERE WHAT IT READS IS OF BULK AT MOST 1048576: true; the input reads as it did. -/
def townBrokerUptoRow : OpenClaim := { program := "ytbgnajcmhmpjlac", sum := "d0c525377aaa526b3acbbce84e8a8567cbaaff3a4531e2fb7366bb1f34dfe1cd", func := "handsel/handsellaw.TownBroker", spec := "townBroker", unfollowed := true, recurses := true, apart := false, narrowed := true }
def TownBrokerUptoSaid : Prop := townBrokerUptoRow.holds Try.pinned (OpenSpec.upto townBrokerSpec)

end Rows
end Go.Proofs.Ytbgnajcmhmpjlac
