/- The contract of planBegun: it answers true. -/
import Derived.Test.YtbgnajcmhmpjlaaPApp
import Derived.Test.YtbgnajcmhmpjlaaPShops
import Derived.Test.YtbgnajcmhmpjlaaPEq
namespace Go.Proofs.Ytbgnajcmhmpjlaa
open Go.RowKit

/-- The first cells of a block. -/
def BoxAt (w : World) (b : Nat) (vs : List Value) : Prop := b < w.heap.size ∧ ∀ j v, vs[j]? = some v → w.cell? ⟨b, j, none⟩ = some v
theorem BoxAt.next {w w1 : World} {b : Nat} {vs : List Value} (h : BoxAt w b vs) (hb : Below w.heap.size w w1) : BoxAt w1 b vs :=
  ⟨by have := hb.size; have := h.1; omega, fun j v hj => ((bcell hb).1 _ _ h.1).trans (h.2 j v hj)⟩
theorem BoxAt.new (w : World) (vs : List Value) (t : TypeId) : BoxAt (w.alloc (.cells vs.toArray t)) w.heap.size vs :=
  ⟨by simp, fun j v hj => by simpa [go_sem] using hj⟩

/-- Two blocks, one behind the other. -/
theorem pair_new (w : World) (vs us : List Value) (t u : TypeId) : BoxAt ((w.alloc (.cells vs.toArray t)).alloc (.cells us.toArray u)) w.heap.size vs ∧ BoxAt ((w.alloc (.cells vs.toArray t)).alloc (.cells us.toArray u)) (w.heap.size + 1) us ∧ Below w.heap.size w ((w.alloc (.cells vs.toArray t)).alloc (.cells us.toArray u)) := by
  refine ⟨(BoxAt.new w vs t).next ((Below.refl _ _).alloc (Nat.le_refl _) _), ?_, ((Below.refl _ _).alloc (Nat.le_refl _) _).alloc (by simp) _⟩
  have := BoxAt.new (w.alloc (.cells vs.toArray t)) us u
  simpa using this

def wsB : Nat → Int
  | 0 => 5
  | 2 => 7
  | _ => 0
def lB : List (Int × Int) := [(5, 3), (0, -2)]

theorem apply_begun (la : Option Addr) (lc : Nat) (w : World) (hl : WantsAt w la lB) :
    Calls Try.prog 29 #[.agg #[.int .i64 5, .int .i64 0, .int .i64 7, .int .i64 0, .int .i64 0, .int .i64 0], .slice la 2 lc] w fun e w' => e = .returned (.tuple #[.agg #[.int .i64 3, .int .i64 0, .int .i64 7, .int .i64 0, .int .i64 0, .int .i64 3], .agg #[.int .i64 0, .int .i64 0]]) ∧ Below w.heap.size w w' :=
  apply_any wsB la 2 lc lB w hl rfl

theorem shops_begun (la : Option Addr) (lc : Nat) (w : World) (hl : WantsAt w la lB) :
    Calls Try.prog 36 #[.slice la 2 lc] w fun e w' => (∃ g o cap, e = .returned (.slice (some ⟨g, o, none⟩) 2 cap) ∧ g < w'.heap.size ∧ w'.cell? ⟨g, o, none⟩ = some (.int .i64 0) ∧ w'.cell? ⟨g, o + 1, none⟩ = some (.int .i64 2)) ∧ Below w.heap.size w w' := by
  refine (shops_any la 2 lc lB w hl rfl (by omega)).mono ?_
  rintro e w' ⟨⟨ga, cap, rfl, hA⟩, hb⟩
  obtain ⟨g, o, rfl, hg, h0⟩ := hA 0 0 rfl
  obtain ⟨g', o', e', hg', h1⟩ := hA 1 2 rfl
  obtain ⟨rfl, rfl⟩ : g = g' ∧ o = o' := by simpa using e'
  exact ⟨⟨g, o, cap, rfl, hg, h0, h1⟩, hb⟩

theorem want_begun (w : World) : Calls Try.prog 27 #[.agg #[.int .i64 0, .int .i64 0]] w fun e w' => e = .returned (.int .i64 2) ∧ Below w.heap.size w w' := want_any 0 0 w
theorem check_begun (w : World) : Calls Try.prog 33 #[.slice none 0 0] w fun e w' => e = .returned (.agg #[.int .i64 2, .int .i64 (-1)]) ∧ Below w.heap.size w w' :=
  pcheck_any none 0 0 [] w (by intro k c d h; simp at h) rfl
theorem shop_begun (w : World) : Calls Try.prog 31 #[.int .i64 3] w fun e w' => e = .returned (.int .i64 1) ∧ w' = w := shop_any 3 w

set_option maxRecDepth 100000 in
set_option maxHeartbeats 2000000 in
theorem pbegun_any (w : World) : Calls Try.prog 26 #[] w fun e w' => e = .returned (.bool true) ∧ Below w.heap.size w w' := by
  go_enter Try.func26, Try.ntmps26
  go_wp2_with fail
  have hB0 : BoxAt (w.alloc (.cells #[.int .i64 5, .int .i64 3, .int .i64 0, .int .i64 (-2)] 42)) w.heap.size [.int .i64 5, .int .i64 3, .int .i64 0, .int .i64 (-2)] := BoxAt.new _ _ _
  have hW : ∀ W : World, BoxAt W w.heap.size [.int .i64 5, .int .i64 3, .int .i64 0, .int .i64 (-2)] → WantsAt W (some ⟨w.heap.size, 0, none⟩) lB := by
    intro W h k c d hk
    refine ⟨w.heap.size, 0, rfl, h.1, ?_⟩
    match k, hk with
    | 0, hk => obtain ⟨rfl, rfl⟩ : (5 : Int) = c ∧ (3 : Int) = d := by simpa [lB] using hk
               exact ⟨h.2 0 _ rfl, h.2 1 _ rfl⟩
    | 1, hk => obtain ⟨rfl, rfl⟩ : (0 : Int) = c ∧ (-2 : Int) = d := by simpa [lB] using hk
               exact ⟨h.2 2 _ rfl, h.2 3 _ rfl⟩
    | k + 2, hk => simp [lB] at hk
  refine (apply_begun _ _ _ (hW _ hB0)).mono ?_
  rintro e w1 ⟨rfl, hb1⟩
  have hB1 := hB0.next hb1
  have hw1 : Below w.heap.size w w1 := after (by go_grown) hb1 (by simp)
  clear hB0 hb1
  go_wp2_with fail
  have hX1 : BoxAt (w1.alloc (.cells #[.int .i64 3, .int .i64 0, .int .i64 7, .int .i64 0, .int .i64 0, .int .i64 3] 39)) w1.heap.size [.int .i64 3, .int .i64 0, .int .i64 7, .int .i64 0, .int .i64 0, .int .i64 3] := BoxAt.new _ _ _
  have hF2 : BoxAt ((w1.alloc (.cells #[.int .i64 3, .int .i64 0, .int .i64 7, .int .i64 0, .int .i64 0, .int .i64 3] 39)).alloc (.cells #[.int .i64 0, .int .i64 0] 44)) (w1.heap.size + 1) [.int .i64 0, .int .i64 0] := by
    have := BoxAt.new (w1.alloc (.cells #[.int .i64 3, .int .i64 0, .int .i64 7, .int .i64 0, .int .i64 0, .int .i64 3] 39)) [.int .i64 0, .int .i64 0] 44
    simpa using this
  have hX2 := hX1.next ((Below.refl _ _).alloc (Nat.le_refl _) (.cells #[.int .i64 0, .int .i64 0] 44))
  have hB2 := (hB1.next ((Below.refl _ _).alloc (Nat.le_refl _) (.cells #[.int .i64 3, .int .i64 0, .int .i64 7, .int .i64 0, .int .i64 0, .int .i64 3] 39))).next ((Below.refl _ _).alloc (Nat.le_refl _) (.cells #[.int .i64 0, .int .i64 0] 44))
  clear hX1 hB1
  refine (shops_begun _ _ _ (hW _ hB2)).mono ?_
  rintro e w2 ⟨⟨g, o, cap, rfl, hg, s0, s1⟩, hb2⟩
  have hX3 := hX2.next hb2
  have hF3 := hF2.next hb2
  have hw2 : Below w.heap.size w w2 := after (by have := hw1.size; go_grown) hb2 (by have := hw1.size; simp; omega)
  clear hX2 hF2 hB2 hW hb2
  have x0 := hX3.2 0 _ rfl
  have x1 := hX3.2 1 _ rfl
  have x2 := hX3.2 2 _ rfl
  have x3 := hX3.2 3 _ rfl
  have x4 := hX3.2 4 _ rfl
  have x5 := hX3.2 5 _ rfl
  have f0 := hF3.2 0 _ rfl
  have f1 := hF3.2 1 _ rfl
  have hz2 := hw2.size
  clear hX3 hF3
  have hq := eq6
  have hq2 := fld2
  go_wp2_with fail
  refine (shop_begun _).mono ?_
  rintro e w' ⟨rfl, rfl⟩
  go_wp2_with fail
  refine (want_begun _).mono ?_
  rintro e w3 ⟨rfl, hb3⟩
  have hz3 := hb3.size
  go_wp2_with fail
  refine (check_begun _).mono ?_
  rintro e w4 ⟨rfl, hb4⟩
  go_wp2_with fail
  go_ret
  exact ⟨rfl, after (after hw2 hb3 (by omega)) hb4 (by omega)⟩

end Go.Proofs.Ytbgnajcmhmpjlaa
