/- A shop and the document's booth beside it: each step of the one leaves the other. -/
import Derived.Test.YtbgnajcmhmpjlaaBEnd
import Derived.Test.YtbgnajcmhmpjlaaBNew
import Derived.Test.YtbgnajcmhmpjlaaSLive
import Derived.Deep.RegionHeld3
import Derived.Deep.CutBlock
namespace Go.Proofs.Ytbgnajcmhmpjlaa
open Go.RowKit

/-- Both are had, made since w0, apart, outside Z: the shop's book is A, the booth's B. -/
structure Both (w0 : World) (Z : Nat → Prop) (w : World) (p q : Nat) (A B : Bk) : Prop where
  inn : ∃ O1 O2, ShopIn O1 w p A ∧ BoothIn O2 w q B ∧ (∀ k, O1 k → ¬ O2 k) ∧ (∀ k, O1 k → w0.heap.size ≤ k ∧ ¬ Z k) ∧ (∀ k, O2 k → w0.heap.size ≤ k ∧ ¬ Z k)
  below : Below w0.heap.size w0 w
  kept : ∀ k, Z k → k < w.heap.size
theorem Both.more {w0 w w1 : World} {Z Z' : Nat → Prop} {p q : Nat} {A B : Bk} (h : Both w0 Z w p q A B) (hb : Below w.heap.size w w1) (hZ : ∀ k, Z' k → Z k ∨ (w.heap.size ≤ k ∧ k < w1.heap.size)) : Both w0 Z' w1 p q A B := by
  obtain ⟨O1, O2, h1, h2, h3, h4, h5⟩ := h.inn
  refine ⟨⟨O1, O2, h1.next hb, h2.next hb, h3, fun k hk => ⟨(h4 k hk).1, fun hk' => ?_⟩, fun k hk => ⟨(h5 k hk).1, fun hk' => ?_⟩⟩, after h.below hb h.below.size, fun k hk => ?_⟩
  · rcases hZ k hk' with q | q
    · exact (h4 k hk).2 q
    · have := h1.own k hk
      omega
  · rcases hZ k hk' with q | q
    · exact (h5 k hk).2 q
    · have := h2.own k hk
      omega
  · rcases hZ k hk with q | q
    · exact Nat.lt_of_lt_of_le (h.kept k q) hb.size
    · exact q.2
theorem Both.next {w0 w w1 : World} {Z : Nat → Prop} {p q : Nat} {A B : Bk} (h : Both w0 Z w p q A B) (hb : Below w.heap.size w w1) : Both w0 Z w1 p q A B := h.more hb (fun _ hk => .inl hk)
theorem Both.less {w0 w : World} {Z Z' : Nat → Prop} {p q : Nat} {A B : Bk} (h : Both w0 Z w p q A B) (hZ : ∀ k, Z' k → Z k) : Both w0 Z' w p q A B := h.more (Below.refl _ _) (fun k hk => .inl (hZ k hk))
theorem Both.shop {w0 w : World} {Z : Nat → Prop} {p q : Nat} {A B : Bk} (h : Both w0 Z w p q A B) : Live w0 Z w p A := by
  obtain ⟨O1, O2, h1, h2, h3, h4, h5⟩ := h.inn
  exact ⟨⟨O1, h1, h4⟩, h.below, h.kept⟩
theorem both_hold_s {w0 w : World} {Z : Nat → Prop} {p q : Nat} {A B : Bk} (deal c d : Int) (h : Both w0 Z w p q A B) (hG : Good A) (hl : A.hs.length < 2 ^ 40) : Calls Try.prog 48 #[.pointer (some ⟨p, 0, none⟩), .int .i64 deal, .agg #[.int .i64 c, .int .i64 d]] w fun e w' => e = .returned (.int .i64 (holdR A deal c d).1) ∧ Both w0 Z w' p q (holdR A deal c d).2 B ∧ Save (fun k => ¬ Z k) w w' := by
  obtain ⟨O1, O2, h1, h2, h3, h4, h5⟩ := h.inn
  refine (shold_any O1 A p deal c d w h1 hG.no0 hG.no3 hl).mono ?_
  rintro e w' ⟨he, O', k1, k2, k3⟩
  exact ⟨he, ⟨⟨O', O2, k1, h2.save k2 (fun k hk hk' => h3 k hk' hk), fun k hk hk' => (k3 k hk).elim (fun q => h3 k q hk') (fun q => by have := h2.own k hk'; omega), fun k hk => (k3 k hk).elim (h4 k) (fun q => ⟨Nat.le_trans h.below.size q, fun z => by have := h.kept k z; omega⟩), h5⟩, h.below.trans (k2.below (fun k hk hO => by have := (h4 k hO).1; omega) h.below.size), fun k hk => Nat.lt_of_lt_of_le (h.kept k hk) k2.size⟩, k2.mono (fun k _ hk => (h4 k hk).2)⟩
theorem both_end_s {w0 w : World} {Z : Nat → Prop} {p q : Nat} {A B : Bk} (deal : Int) (done : Bool) (h : Both w0 Z w p q A B) (hG : Good A) (hl : A.hs.length < 2 ^ 40) : Calls Try.prog 49 #[.pointer (some ⟨p, 0, none⟩), .int .i64 deal, .bool done] w fun e w' => e = .returned (.int .i64 (endR A deal done).1) ∧ Both w0 Z w' p q (endR A deal done).2 B ∧ Save (fun k => ¬ Z k) w w' := by
  obtain ⟨O1, O2, h1, h2, h3, h4, h5⟩ := h.inn
  refine (send_any O1 A p deal done w h1 hG hl).mono ?_
  rintro e w' ⟨he, O', k1, k2, k3⟩
  exact ⟨he, ⟨⟨O', O2, k1, h2.save k2 (fun k hk hk' => h3 k hk' hk), fun k hk hk' => (k3 k hk).elim (fun q => h3 k q hk') (fun q => by have := h2.own k hk'; omega), fun k hk => (k3 k hk).elim (h4 k) (fun q => ⟨Nat.le_trans h.below.size q, fun z => by have := h.kept k z; omega⟩), h5⟩, h.below.trans (k2.below (fun k hk hO => by have := (h4 k hO).1; omega) h.below.size), fun k hk => Nat.lt_of_lt_of_le (h.kept k hk) k2.size⟩, k2.mono (fun k _ hk => (h4 k hk).2)⟩
theorem both_hold_b {w0 w : World} {Z : Nat → Prop} {p q : Nat} {A B : Bk} (deal c d : Int) (h : Both w0 Z w p q A B) (hG : Good B) (hl : B.hs.length < 2 ^ 40) (he : B.es.length < 2 ^ 40) : Calls Try.prog 55 #[.pointer (some ⟨q, 0, none⟩), .int .i64 deal, .agg #[.int .i64 c, .int .i64 d]] w fun e w' => e = .returned (.int .i64 (holdR B deal c d).1) ∧ Both w0 Z w' p q A (holdR B deal c d).2 ∧ Save (fun k => ¬ Z k) w w' := by
  obtain ⟨O1, O2, h1, h2, h3, h4, h5⟩ := h.inn
  refine (bhold_any O2 B q deal c d w h2 hG hl he).mono ?_
  rintro e w' ⟨he, O', k1, k2, k3⟩
  exact ⟨he, ⟨⟨O1, O', h1.save k2 (fun k hk hk' => h3 k hk hk'), k1, fun k hk hk' => (k3 k hk').elim (fun q => h3 k hk q) (fun q => by have := h1.own k hk; omega), h4, fun k hk => (k3 k hk).elim (h5 k) (fun q => ⟨Nat.le_trans h.below.size q, fun z => by have := h.kept k z; omega⟩)⟩, h.below.trans (k2.below (fun k hk hO => by have := (h5 k hO).1; omega) h.below.size), fun k hk => Nat.lt_of_lt_of_le (h.kept k hk) k2.size⟩, k2.mono (fun k _ hk => (h5 k hk).2)⟩
theorem both_end_b {w0 w : World} {Z : Nat → Prop} {p q : Nat} {A B : Bk} (deal : Int) (done : Bool) (h : Both w0 Z w p q A B) (hG : Good B) (hl : B.hs.length < 1000000) (he : B.es.length < 1000000) : Calls Try.prog 56 #[.pointer (some ⟨q, 0, none⟩), .int .i64 deal, .bool done] w fun e w' => e = .returned (.int .i64 (endR B deal done).1) ∧ Both w0 Z w' p q A (endR B deal done).2 ∧ Save (fun k => ¬ Z k) w w' := by
  obtain ⟨O1, O2, h1, h2, h3, h4, h5⟩ := h.inn
  refine (bend_any O2 B q deal done w h2 hG hl he).mono ?_
  rintro e w' ⟨he, O', k1, k2, k3⟩
  exact ⟨he, ⟨⟨O1, O', h1.save k2 (fun k hk hk' => h3 k hk hk'), k1, fun k hk hk' => (k3 k hk').elim (fun q => h3 k hk q) (fun q => by have := h1.own k hk; omega), h4, fun k hk => (k3 k hk).elim (h5 k) (fun q => ⟨Nat.le_trans h.below.size q, fun z => by have := h.kept k z; omega⟩)⟩, h.below.trans (k2.below (fun k hk hO => by have := (h5 k hO).1; omega) h.below.size), fun k hk => Nat.lt_of_lt_of_le (h.kept k hk) k2.size⟩, k2.mono (fun k _ hk => (h5 k hk).2)⟩

end Go.Proofs.Ytbgnajcmhmpjlaa
