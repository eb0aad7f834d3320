/- The contract of SameMail. -/
import Derived.Test.YtndggiefgpdiiacMIn
import Derived.BigQuiet
namespace Go.Proofs.Ytndggiefgpdiiac
open Go.RowKit

theorem same6_of {l m : List Ml} (k : Nat) (h : l.take k = m.take k) {c c' : Ml} (h1 : l[k]? = some c) (h2 : m[k]? = some c') (he : eqM c c' = true) : l.take (k + 1) = m.take (k + 1) := by
  rw [take_snoc h1, take_snoc h2, h, eqM_iff.1 he]
theorem other6_of {l m : List Ml} (k : Nat) {c c' : Ml} (h1 : l[k]? = some c) (h2 : m[k]? = some c') (he : eqM c c' = false) : ¬ l = m := by
  intro e
  rw [e, h2] at h1
  rw [eqM_iff.2 (Option.some.inj h1).symm] at he
  cases he

/-- A Bool that tells whether two lists are the same. -/
def TellsM (b : Bool) (l m : List Ml) : Prop := b = true ↔ l = m
theorem tellsM_no {l m : List Ml} (h : ¬ l = m) : TellsM false l m := ⟨fun q => (nomatch q), fun q => absurd q h⟩

end Go.Proofs.Ytndggiefgpdiiac
