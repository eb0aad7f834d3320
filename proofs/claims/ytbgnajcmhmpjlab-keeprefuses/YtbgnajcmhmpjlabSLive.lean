/- More about a shop of one's own: other memory is written. -/
import Derived.Test.YtbgnajcmhmpjlabSStep
namespace Go.Proofs.Ytbgnajcmhmpjlab
open Go.RowKit

/-- Blocks that are kept are written. -/
theorem Live.keep {O : Nat → Prop} {w0 w w1 : World} {K : Nat → Prop} {p : Nat} {A : Bk} (h : Live w0 K w p A) (hs : Save O w w1) (hO : ∀ k, O k → K k ∧ w0.heap.size ≤ k) : Live w0 K w1 p A := by
  obtain ⟨Q, h1, h2⟩ := h.inn
  exact ⟨⟨Q, h1.save hs (fun k hk hq => (h2 k hk).2 (hO k hq).1), h2⟩, h.below.trans (hs.below (fun k hk hq => by have := (hO k hq).2; omega) h.below.size), fun k hk => Nat.lt_of_lt_of_le (h.kept k hk) hs.size⟩
theorem Save.drop {O : Nat → Prop} {a b c : World} (h : Save O a b) (hb : Below b.heap.size b c) : Save O a c := h.next hb

theorem StepsAt.below {w w' : World} {B : Nat} {la : Option Addr} {l : List Stp} (h : StepsAt w la l) (hb : Below B w w') (hB : w.heap.size ≤ B) : StepsAt w' la l := by
  intro k x hk
  obtain ⟨b, off, e, hlt, h0⟩ := h k x hk
  have hb' : b < B := by omega
  exact ⟨b, off, e, Nat.lt_of_lt_of_le hlt hb.size, fun j v hj => (hb.cell (p := ⟨b, _, none⟩) hb').trans (h0 j v hj)⟩
theorem box_new6 (w : World) (f : Nat → Int) (t : TypeId) : BoxAt (w.alloc (.cells #[.int .i64 (f 0), .int .i64 (f 1), .int .i64 (f 2), .int .i64 (f 3), .int .i64 (f 4), .int .i64 (f 5)] t)) w.heap.size [.int .i64 (f 0), .int .i64 (f 1), .int .i64 (f 2), .int .i64 (f 3), .int .i64 (f 4), .int .i64 (f 5)] := BoxAt.new _ _ _

end Go.Proofs.Ytbgnajcmhmpjlab
