/- The contracts of a post's Send and place, and of the bag's. -/
import Derived.Test.YtndggiefgpdiiacMGet
import Derived.Deep.RegionLaw
namespace Go.Proofs.Ytndggiefgpdiiac
open Go.RowKit

theorem sendR_full {l : List Ml} {m : Ml} (h : 40 ≤ l.length) : sendR l m = (false, l) := by unfold sendR; rw [if_pos h]
theorem sendR_room {l : List Ml} {m : Ml} (h : ¬ 40 ≤ l.length) : sendR l m = (true, l ++ [m]) := by unfold sendR; rw [if_neg h]
theorem own_slice6 {w : World} {B e s n : Nat} {v : Value} {xs : List Value} (h : w.ownsRow B e s v n xs) : ∃ ga cap, v = .slice ga n cap := by
  rcases h.2 with ⟨e1, e0⟩ | ⟨g, cap, cur, e1, _⟩
  · exact ⟨none, 0, by rw [e1, e0]⟩
  · exact ⟨_, cap, e1⟩

theorem rnd_wrap (n : Int) (k : Nat) (hk : 0 < k) (hb : k < 1000) : wrap64 ((IntKind.u64.wrap n).tmod (k : Int)) = (rnd n k : Int) := by
  have h0 : 0 ≤ IntKind.u64.wrap n := by rw [IntKind.wrap_u64]; omega
  have h1 : (IntKind.u64.wrap n).tmod (k : Int) = IntKind.u64.wrap n % (k : Int) := Int.tmod_eq_emod_of_nonneg h0
  have h2 : 0 ≤ IntKind.u64.wrap n % (k : Int) := Int.emod_nonneg _ (by omega)
  have h3 : IntKind.u64.wrap n % (k : Int) < (k : Int) := Int.emod_lt_of_pos _ (by omega)
  rw [h1]
  have h4 : wrap64 (IntKind.u64.wrap n % (k : Int)) = IntKind.u64.wrap n % (k : Int) := by unfold wrap64; omega
  rw [h4]
  unfold rnd
  rw [Int.natCast_emod, Int.toNat_of_nonneg (by omega), IntKind.wrap_u64]

theorem ret_two {k : IntKind} {a b : Int} {v : Value} (h : a = b) : Ending.returned (.tuple #[.int k a, v]) = .returned (.tuple #[.int k b, v]) := by rw [h]
end Go.Proofs.Ytndggiefgpdiiac
