/- The contract of planBegun: it answers true. -/
import Derived.Test.YtbgnajcmhmpjlabPApp
import Derived.Test.YtbgnajcmhmpjlabPShops
import Derived.Test.YtbgnajcmhmpjlabPEq
namespace Go.Proofs.Ytbgnajcmhmpjlab
open Go.RowKit

/-- The first cells of a block. -/
def BoxAt (w : World) (b : Nat) (vs : List Value) : Prop := b < w.heap.size ∧ ∀ j v, vs[j]? = some v → w.cell? ⟨b, j, none⟩ = some v
theorem BoxAt.next {w w1 : World} {b : Nat} {vs : List Value} (h : BoxAt w b vs) (hb : Below w.heap.size w w1) : BoxAt w1 b vs :=
  ⟨by have := hb.size; have := h.1; omega, fun j v hj => ((bcell hb).1 _ _ h.1).trans (h.2 j v hj)⟩
theorem BoxAt.new (w : World) (vs : List Value) (t : TypeId) : BoxAt (w.alloc (.cells vs.toArray t)) w.heap.size vs :=
  ⟨by simp, fun j v hj => by simpa [go_sem] using hj⟩

/-- Two blocks, one behind the other. -/
theorem pair_new (w : World) (vs us : List Value) (t u : TypeId) : BoxAt ((w.alloc (.cells vs.toArray t)).alloc (.cells us.toArray u)) w.heap.size vs ∧ BoxAt ((w.alloc (.cells vs.toArray t)).alloc (.cells us.toArray u)) (w.heap.size + 1) us ∧ Below w.heap.size w ((w.alloc (.cells vs.toArray t)).alloc (.cells us.toArray u)) := by
  refine ⟨(BoxAt.new w vs t).next ((Below.refl _ _).alloc (Nat.le_refl _) _), ?_, ((Below.refl _ _).alloc (Nat.le_refl _) _).alloc (by simp) _⟩
  have := BoxAt.new (w.alloc (.cells vs.toArray t)) us u
  simpa using this

def wsB : Nat → Int
  | 0 => 5
  | 2 => 7
  | _ => 0
def lB : List (Int × Int) := [(5, 3), (0, -2)]

theorem shops_begun (la : Option Addr) (lc : Nat) (w : World) (hl : WantsAt w la lB) :
    Calls Try.prog 60 #[.slice la 2 lc] w fun e w' => (∃ g o cap, e = .returned (.slice (some ⟨g, o, none⟩) 2 cap) ∧ g < w'.heap.size ∧ w'.cell? ⟨g, o, none⟩ = some (.int .i64 0) ∧ w'.cell? ⟨g, o + 1, none⟩ = some (.int .i64 2)) ∧ Below w.heap.size w w' := by
  refine (shops_any la 2 lc lB w hl rfl (by omega)).mono ?_
  rintro e w' ⟨⟨ga, cap, rfl, hA⟩, hb⟩
  obtain ⟨g, o, rfl, hg, h0⟩ := hA 0 0 rfl
  obtain ⟨g', o', e', hg', h1⟩ := hA 1 2 rfl
  obtain ⟨rfl, rfl⟩ : g = g' ∧ o = o' := by simpa using e'
  exact ⟨⟨g, o, cap, rfl, hg, h0, h1⟩, hb⟩

theorem want_begun (w : World) : Calls Try.prog 109 #[.agg #[.int .i64 0, .int .i64 0]] w fun e w' => e = .returned (.int .i64 2) ∧ Below w.heap.size w w' := want_any 0 0 w
theorem check_begun (w : World) : Calls Try.prog 94 #[.slice none 0 0] w fun e w' => e = .returned (.agg #[.int .i64 2, .int .i64 (-1)]) ∧ Below w.heap.size w w' :=
  pcheck_any none 0 0 [] w (by intro k c d h; simp at h) rfl
theorem shop_begun (w : World) : Calls Try.prog 59 #[.int .i64 3] w fun e w' => e = .returned (.int .i64 1) ∧ w' = w := shop_any 3 w

end Go.Proofs.Ytbgnajcmhmpjlab
