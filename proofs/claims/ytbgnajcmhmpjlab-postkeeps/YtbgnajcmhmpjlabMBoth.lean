/- A post and the document's bag beside each other: each step of the one leaves the other. -/
import Derived.Test.YtbgnajcmhmpjlabMLive
import Derived.Test.YtbgnajcmhmpjlabMKit
import Derived.Deep.CutBlock
namespace Go.Proofs.Ytbgnajcmhmpjlab
open Go.RowKit

/-- Both are had, made since w0, apart, outside Z: the post's mails are l, the bag's m. -/
structure MBoth (w0 : World) (Z : Nat → Prop) (w : World) (p q : Nat) (l m : List Ml) : Prop where
  inn : ∃ O1 O2, MailIn O1 w p 0 l ∧ MailIn O2 w q 0 m ∧ (∀ k, O1 k → ¬ O2 k) ∧ (∀ k, O1 k → w0.heap.size ≤ k ∧ ¬ Z k) ∧ (∀ k, O2 k → w0.heap.size ≤ k ∧ ¬ Z k)
  below : Below w0.heap.size w0 w
  kept : ∀ k, Z k → k < w.heap.size
theorem MBoth.more {w0 w w1 : World} {Z Z' : Nat → Prop} {p q : Nat} {l m : List Ml} (h : MBoth w0 Z w p q l m) (hb : Below w.heap.size w w1) (hZ : ∀ k, Z' k → Z k ∨ (w.heap.size ≤ k ∧ k < w1.heap.size)) : MBoth w0 Z' w1 p q l m := by
  obtain ⟨O1, O2, h1, h2, h3, h4, h5⟩ := h.inn
  refine ⟨⟨O1, O2, h1.next hb, h2.next hb, h3, fun k hk => ⟨(h4 k hk).1, fun hk' => ?_⟩, fun k hk => ⟨(h5 k hk).1, fun hk' => ?_⟩⟩, after h.below hb h.below.size, fun k hk => ?_⟩
  · rcases hZ k hk' with q | q
    · exact (h4 k hk).2 q
    · have := h1.own k hk
      omega
  · rcases hZ k hk' with q | q
    · exact (h5 k hk).2 q
    · have := h2.own k hk
      omega
  · rcases hZ k hk with q | q
    · exact Nat.lt_of_lt_of_le (h.kept k q) hb.size
    · exact q.2
theorem MBoth.next {w0 w w1 : World} {Z : Nat → Prop} {p q : Nat} {l m : List Ml} (h : MBoth w0 Z w p q l m) (hb : Below w.heap.size w w1) : MBoth w0 Z w1 p q l m := h.more hb (fun _ hk => .inl hk)
theorem MBoth.less {w0 w : World} {Z Z' : Nat → Prop} {p q : Nat} {l m : List Ml} (h : MBoth w0 Z w p q l m) (hZ : ∀ k, Z' k → Z k) : MBoth w0 Z' w p q l m := h.more (Below.refl _ _) (fun k hk => .inl (hZ k hk))
theorem MBoth.post {w0 w : World} {Z : Nat → Prop} {p q : Nat} {l m : List Ml} (h : MBoth w0 Z w p q l m) : MLive w0 Z w p l := by
  obtain ⟨O1, O2, h1, h2, h3, h4, h5⟩ := h.inn
  exact ⟨⟨O1, h1, h4⟩, h.below, h.kept⟩
theorem MBoth.of_live {w0 w : World} {Z : Nat → Prop} {p : Nat} {l : List Ml} (h : MLive w0 Z w p l) : MBoth w0 Z (w.alloc (.cells #[.slice none 0 0] 67)) p w.heap.size l [] := by
  have hb : Below w.heap.size w (w.alloc (.cells #[.slice none 0 0] 67)) := (Below.refl _ _).alloc (Nat.le_refl _) _
  obtain ⟨O, h1, h2⟩ := h.inn
  refine ⟨⟨O, fun k => k = w.heap.size, h1.next hb, ⟨fun k hk => by rw [hk]; simp, rfl, by simp [go_sem], .slice none 0 0, by simp [go_sem], World.ownsRow_nil _ _ _ _, fun k e => by simp [Value.ownBlock] at e⟩, fun k hk e => by have := h1.own k hk; omega, h2, fun k hk => ⟨by have := h.below.size; omega, fun z => by have := h.kept k z; omega⟩⟩, after h.below hb h.below.size, fun k hk => Nat.lt_of_lt_of_le (h.kept k hk) hb.size⟩
theorem MBoth.stepP {O1 : Nat → Prop} {w0 w w1 : World} {Z : Nat → Prop} {p q : Nat} {l m l' : List Ml} (h : MBoth w0 Z w p q l m) (hx : ∃ O2, MailIn O1 w p 0 l ∧ MailIn O2 w q 0 m ∧ (∀ k, O1 k → ¬ O2 k) ∧ (∀ k, O1 k → w0.heap.size ≤ k ∧ ¬ Z k) ∧ (∀ k, O2 k → w0.heap.size ≤ k ∧ ¬ Z k)) (hs : Sent O1 w w1 p 0 l') : MBoth w0 Z w1 p q l' m ∧ Save (fun k => ¬ Z k) w w1 := by
  obtain ⟨O2, h1, h2, h3, h4, h5⟩ := hx
  obtain ⟨O', k1, k2, k3, _⟩ := hs
  exact ⟨⟨⟨O', O2, k1, h2.save k2 (fun k hk hk' => h3 k hk' hk), fun k hk hk' => (k3 k hk).elim (fun q => h3 k q hk') (fun q => by have := h2.own k hk'; omega), fun k hk => (k3 k hk).elim (h4 k) (fun q => ⟨Nat.le_trans h.below.size q, fun z => by have := h.kept k z; omega⟩), h5⟩, h.below.trans (k2.below (fun k hk hO => by have := (h4 k hO).1; omega) h.below.size), fun k hk => Nat.lt_of_lt_of_le (h.kept k hk) k2.size⟩, k2.mono (fun k _ hk => (h4 k hk).2)⟩
theorem MBoth.stepG {O2 : Nat → Prop} {w0 w w1 : World} {Z : Nat → Prop} {p q : Nat} {l m m' : List Ml} (h : MBoth w0 Z w p q l m) (hx : ∃ O1, MailIn O1 w p 0 l ∧ MailIn O2 w q 0 m ∧ (∀ k, O1 k → ¬ O2 k) ∧ (∀ k, O1 k → w0.heap.size ≤ k ∧ ¬ Z k) ∧ (∀ k, O2 k → w0.heap.size ≤ k ∧ ¬ Z k)) (hs : Sent O2 w w1 q 0 m') : MBoth w0 Z w1 p q l m' ∧ Save (fun k => ¬ Z k) w w1 := by
  obtain ⟨O1, h1, h2, h3, h4, h5⟩ := hx
  obtain ⟨O', k1, k2, k3, _⟩ := hs
  exact ⟨⟨⟨O1, O', h1.save k2 (fun k hk hk' => h3 k hk hk'), k1, fun k hk hk' => (k3 k hk').elim (fun q => h3 k hk q) (fun q => by have := h1.own k hk; omega), h4, fun k hk => (k3 k hk).elim (h5 k) (fun q => ⟨Nat.le_trans h.below.size q, fun z => by have := h.kept k z; omega⟩)⟩, h.below.trans (k2.below (fun k hk hO => by have := (h5 k hO).1; omega) h.below.size), fun k hk => Nat.lt_of_lt_of_le (h.kept k hk) k2.size⟩, k2.mono (fun k _ hk => (h5 k hk).2)⟩
theorem both_send_p {w0 w : World} {Z : Nat → Prop} {p q : Nat} {l m : List Ml} (x : Ml) (h : MBoth w0 Z w p q l m) (hl : l.length < 1000) : Calls Try.prog 32 #[.pointer (some ⟨p, 0, none⟩), .agg #[.int .i64 x.kind, .int .i64 x.deal, .int .i64 x.shop, .int .i64 x.c, .int .i64 x.d, .bool x.yes]] w fun e w' => e = .returned (.bool (sendR l x).1) ∧ MBoth w0 Z w' p q (sendR l x).2 m ∧ Save (fun k => ¬ Z k) w w' := by
  obtain ⟨O1, hx⟩ := h.inn
  obtain ⟨O2, h1, _⟩ := id hx
  exact (psend_any O1 l p 0 x w h1 hl).mono (fun e w' q => ⟨q.1, h.stepP hx q.2⟩)
theorem both_take_p {w0 w : World} {Z : Nat → Prop} {p q : Nat} {l m : List Ml} (n : Int) (h : MBoth w0 Z w p q l m) (hl : l.length < 1000) : Calls Try.prog 34 #[.pointer (some ⟨p, 0, none⟩), .int .i64 n] w fun e w' => e = .returned (.tuple #[mlV (takeR l n).1, .bool (takeR l n).2.1]) ∧ MBoth w0 Z w' p q (takeR l n).2.2 m ∧ Save (fun k => ¬ Z k) w w' := by
  obtain ⟨O1, hx⟩ := h.inn
  obtain ⟨O2, h1, _⟩ := id hx
  exact (ptake_any O1 l p 0 n w h1 hl).mono (fun e w' q => ⟨q.1, h.stepP hx q.2⟩)
theorem both_dbl_p {w0 w : World} {Z : Nat → Prop} {p q : Nat} {l m : List Ml} (n : Int) (h : MBoth w0 Z w p q l m) (hl : l.length < 1000) : Calls Try.prog 36 #[.pointer (some ⟨p, 0, none⟩), .int .i64 n] w fun e w' => e = .returned (.bool (dblR l n).1) ∧ MBoth w0 Z w' p q (dblR l n).2 m ∧ Save (fun k => ¬ Z k) w w' := by
  obtain ⟨O1, hx⟩ := h.inn
  obtain ⟨O2, h1, _⟩ := id hx
  exact (pdbl_any O1 l p 0 n w h1 hl).mono (fun e w' q => ⟨q.1, h.stepP hx q.2⟩)
theorem both_send_g {w0 w : World} {Z : Nat → Prop} {p q : Nat} {l m : List Ml} (x : Ml) (h : MBoth w0 Z w p q l m) (hl : m.length < 1000) : Calls Try.prog 33 #[.pointer (some ⟨q, 0, none⟩), .agg #[.int .i64 x.kind, .int .i64 x.deal, .int .i64 x.shop, .int .i64 x.c, .int .i64 x.d, .bool x.yes]] w fun e w' => e = .returned (.bool (sendR m x).1) ∧ MBoth w0 Z w' p q l (sendR m x).2 ∧ Save (fun k => ¬ Z k) w w' := by
  obtain ⟨O1, O2, hx⟩ := h.inn
  exact (gsend_any O2 m q 0 x w hx.2.1 hl).mono (fun e w' q => ⟨q.1, h.stepG ⟨O1, hx⟩ q.2⟩)
theorem both_take_g {w0 w : World} {Z : Nat → Prop} {p q : Nat} {l m : List Ml} (n : Int) (h : MBoth w0 Z w p q l m) (hl : m.length < 1000) : Calls Try.prog 35 #[.pointer (some ⟨q, 0, none⟩), .int .i64 n] w fun e w' => e = .returned (.tuple #[mlV (takeR m n).1, .bool (takeR m n).2.1]) ∧ MBoth w0 Z w' p q l (takeR m n).2.2 ∧ Save (fun k => ¬ Z k) w w' := by
  obtain ⟨O1, O2, hx⟩ := h.inn
  exact (gtake_any O2 m q 0 n w hx.2.1 hl).mono (fun e w' q => ⟨q.1, h.stepG ⟨O1, hx⟩ q.2⟩)
theorem both_dbl_g {w0 w : World} {Z : Nat → Prop} {p q : Nat} {l m : List Ml} (n : Int) (h : MBoth w0 Z w p q l m) (hl : m.length < 1000) : Calls Try.prog 37 #[.pointer (some ⟨q, 0, none⟩), .int .i64 n] w fun e w' => e = .returned (.bool (dblR m n).1) ∧ MBoth w0 Z w' p q l (dblR m n).2 ∧ Save (fun k => ¬ Z k) w w' := by
  obtain ⟨O1, O2, hx⟩ := h.inn
  exact (gdbl_any O2 m q 0 n w hx.2.1 hl).mono (fun e w' q => ⟨q.1, h.stepG ⟨O1, hx⟩ q.2⟩)

/-- All mails behind a step. -/
def pstepR (l : List Ml) (x : PSp) : List Ml := if x.what = 0 then (sendR l x.m).2 else if x.what = 1 then (takeR l x.n).2.2 else if x.what = 2 then (dblR l x.n).2 else l
theorem pstepR_len (l : List Ml) (x : PSp) (h : l.length ≤ 40) : (pstepR l x).length ≤ 40 := by
  unfold pstepR
  split
  · exact sendR_len l _ h
  · split
    · exact takeR_len l _ h
    · split
      · exact dblR_len l _ h
      · exact h
theorem pstepR_0 (l : List Ml) (n : Int) (m : Ml) : pstepR l ⟨0, n, m⟩ = (sendR l m).2 := rfl
theorem pstepR_1 (l : List Ml) (n : Int) (m : Ml) : pstepR l ⟨1, n, m⟩ = (takeR l n).2.2 := rfl
theorem pstepR_2 (l : List Ml) (n : Int) (m : Ml) : pstepR l ⟨2, n, m⟩ = (dblR l n).2 := rfl
theorem pstepR_no (l : List Ml) (w n : Int) (m : Ml) (h0 : w ≠ 0) (h1 : w ≠ 1) (h2 : w ≠ 2) : pstepR l ⟨w, n, m⟩ = l := by unfold pstepR; rw [if_neg h0, if_neg h1, if_neg h2]

end Go.Proofs.Ytbgnajcmhmpjlab
