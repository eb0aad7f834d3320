/- Eight answers in a block of one's own; what a step leaves of other deals. -/
import Derived.Test.YtbgnajcmhmpjlaaBShops
namespace Go.Proofs.Ytbgnajcmhmpjlaa
open Go.RowKit

/-- Eight answers in a block of one's own. -/
structure BAt (w : World) (b : Nat) (f : Nat → Bool) : Prop where
  lt : b < w.heap.size
  cell : ∀ j : Nat, j < 8 → w.cell? ⟨b, j, none⟩ = some (.bool (f j))
  loose : ∀ k, w.frozen? ⟨b, k, none⟩ = false
theorem BAt.save {O : Nat → Prop} {w w1 : World} {b : Nat} {f : Nat → Bool} (h : BAt w b f) (hb : Save O w w1) (hn : ¬ O b) : BAt w1 b f :=
  ⟨Nat.lt_of_lt_of_le h.lt hb.size, fun j hj => (hb.cell (p := ⟨b, j, none⟩) h.lt hn).trans (h.cell j hj), fun k => (hb.frozen (p := ⟨b, k, none⟩) h.lt hn).trans (h.loose k)⟩
theorem BAt.next {w w1 : World} {b : Nat} {f : Nat → Bool} (h : BAt w b f) (hb : Below w.heap.size w w1) : BAt w1 b f := h.save (O := fun _ => False) (.of_below hb) (fun q => q)
theorem BAt.set {w : World} {b : Nat} {f : Nat → Bool} (h : BAt w b f) (m : Nat) (v : Bool) : BAt (w.setCell ⟨b, m, none⟩ (.bool v)) b (updB f m v) := by
  refine ⟨by simpa using h.lt, ?_, by simpa [go_sem] using h.loose⟩
  intro j hj
  unfold updB
  by_cases e : j = m
  · subst e
    rw [cell_set_same (h.cell j hj), if_pos rfl]
  · rw [cell_set_off e, h.cell j hj, if_neg e]
theorem BAt.off {w : World} {b c m : Nat} {f : Nat → Bool} (h : BAt w b f) (hn : b ≠ c) (v : Value) : BAt (w.setCell ⟨c, m, none⟩ v) b f :=
  h.save (O := fun k => k = c) (Save.setCell (O := fun k => k = c) (Save.refl _ _) (p := ⟨c, m, none⟩) (fun _ => rfl) _) hn
theorem BAt.congr {w : World} {b : Nat} {f g : Nat → Bool} (h : BAt w b f) (he : ∀ j, j < 8 → f j = g j) : BAt w b g := ⟨h.lt, fun j hj => by rw [← he j hj]; exact h.cell j hj, h.loose⟩
theorem BAt.new (w : World) (t : TypeId) : BAt (w.alloc (.cells #[.bool false, .bool false, .bool false, .bool false, .bool false, .bool false, .bool false, .bool false] t)) w.heap.size (fun _ => false) := by
  refine ⟨by simp, ?_, by simp [go_sem]⟩
  intro j hj
  have : j = 0 ∨ j = 1 ∨ j = 2 ∨ j = 3 ∨ j = 4 ∨ j = 5 ∨ j = 6 ∨ j = 7 := by omega
  rcases this with rfl | rfl | rfl | rfl | rfl | rfl | rfl | rfl <;> simp [go_sem]
/-- The first k are told. -/
def upto (k : Nat) (f : Nat → Bool) : Nat → Bool := fun j => if j < k then f j else false
theorem upto_next (k : Nat) (f : Nat → Bool) : ∀ j, j < 8 → updB (upto k f) k (f k) j = upto (k + 1) f j := by
  intro j _
  unfold updB upto
  by_cases e : j = k
  · subst e; rw [if_pos rfl, if_pos (by omega)]
  · rw [if_neg e]
    by_cases e2 : j < k
    · rw [if_pos e2, if_pos (by omega)]
    · rw [if_neg e2, if_neg (by omega)]
theorem upto_all (f : Nat → Bool) : ∀ j, j < 8 → upto 8 f j = f j := fun _ hj => if_pos hj

theorem over_other {es : List (Int × Bool)} {deal x : Int} {b : Bool} (h : x ≠ deal) : over (es ++ [(deal, b)]) x = over es x := by
  rw [over_append]
  cases over es x with
  | some _ => rfl
  | none => simp [over, Ne.symm h]
/-- A step leaves whether other deals are over. -/
theorem step_ov (A : Bk) (x : Stp) {y : Int} (h : y ≠ x.deal) : ovB (stepR A x).2.es y = ovB A.es y ∧ dnB (stepR A x).2.es y = dnB A.es y := by
  unfold stepR
  split
  · rw [(hold_len A x.deal x.c x.d).2.1]; exact ⟨rfl, rfl⟩
  · split
    · rcases endR_cases A x.deal x.done with ⟨_, e⟩ | ⟨_, _, ⟨b, _, e⟩ | ⟨_, e⟩⟩
      · rw [e]; exact ⟨rfl, rfl⟩
      · rw [e]; exact ⟨rfl, rfl⟩
      · rw [e]
        unfold ovB dnB
        show (over (A.es ++ [(x.deal, x.done)]) y).isSome = _ ∧ (over (A.es ++ [(x.deal, x.done)]) y == some true) = _
        rw [over_other h]
        exact ⟨rfl, rfl⟩
    · exact ⟨rfl, rfl⟩
/-- A step leaves what is held of other deals. -/
theorem step_others (A : Bk) (x : Stp) : (stepR A x).2.hs.filter (fun h => h.1 != x.deal) = A.hs.filter (fun h => h.1 != x.deal) := by
  unfold stepR
  split
  · rcases holdR_cases A x.deal x.c x.d with ⟨_, e⟩ | ⟨hc, m, hm, _, ⟨y, _, e⟩ | ⟨_, _, e⟩ | ⟨_, hz, e⟩⟩
    · rw [e]
    · rw [e]
    · rw [e]
    · rw [e]
      show (A.hs ++ [(x.deal, x.c, x.d)]).filter _ = _
      rw [List.filter_append]
      simp
  · split
    · rcases endR_cases A x.deal x.done with ⟨_, e⟩ | ⟨_, _, ⟨b, _, e⟩ | ⟨_, e⟩⟩
      · rw [e]
      · rw [e]
      · rw [e]
        show (A.hs.filter (fun h => h.1 != x.deal)).filter (fun h => h.1 != x.deal) = _
        rw [List.filter_filter]
        simp
    · rfl

end Go.Proofs.Ytbgnajcmhmpjlaa
