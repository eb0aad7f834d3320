/- A post, and a post and a bag beside each other, made since a world: their steps; and postBegun. -/
import Derived.Test.YtbgnajcmhmpjlabMBag2
namespace Go.Proofs.Ytbgnajcmhmpjlab
open Go.RowKit

theorem ptake_any (O : Nat → Prop) (l : List Ml) (p o : Nat) (n : Int) (w : World) (h : MailIn O w p o l) (hl : l.length < 1000) :
    Calls Try.prog 34 #[.pointer (some ⟨p, o, none⟩), .int .i64 n] w fun e w' => e = .returned (.tuple #[mlV (takeR l n).1, .bool (takeR l n).2.1]) ∧ Sent O w w' p o (takeR l n).2.2 := by
  by_cases hne : l = []
  · subst hne
    exact (ptake_none O p o n w h).mono (fun e w' q => ⟨q.1, Sent.stay h q.2⟩)
  · obtain ⟨m, hm⟩ := rnd_some n hne
    rw [takeR_some hm]
    exact ptake_some O l p o n m w h hl hm
theorem gtake_any (O : Nat → Prop) (l : List Ml) (p o : Nat) (n : Int) (w : World) (h : MailIn O w p o l) (hl : l.length < 1000) :
    Calls Try.prog 35 #[.pointer (some ⟨p, o, none⟩), .int .i64 n] w fun e w' => e = .returned (.tuple #[mlV (takeR l n).1, .bool (takeR l n).2.1]) ∧ Sent O w w' p o (takeR l n).2.2 := by
  by_cases hne : l = []
  · subst hne
    exact (gtake_none O p o n w h).mono (fun e w' q => ⟨q.1, Sent.stay h q.2⟩)
  · obtain ⟨m, hm⟩ := rnd_some n hne
    rw [takeR_some hm]
    exact gtake_some O l p o n m w h hl hm
theorem pdbl_any (O : Nat → Prop) (l : List Ml) (p o : Nat) (n : Int) (w : World) (h : MailIn O w p o l) (hl : l.length < 1000) :
    Calls Try.prog 36 #[.pointer (some ⟨p, o, none⟩), .int .i64 n] w fun e w' => e = .returned (.bool (dblR l n).1) ∧ Sent O w w' p o (dblR l n).2 := by
  by_cases hne : l = []
  · subst hne
    exact (pdbl_none O p o n w h).mono (fun e w' q => ⟨q.1, Sent.stay h q.2⟩)
  · obtain ⟨m, hm⟩ := rnd_some n hne
    rw [dblR_some hm]
    exact pdbl_some O l p o n m w h hl hm
theorem gdbl_any (O : Nat → Prop) (l : List Ml) (p o : Nat) (n : Int) (w : World) (h : MailIn O w p o l) (hl : l.length < 1000) :
    Calls Try.prog 37 #[.pointer (some ⟨p, o, none⟩), .int .i64 n] w fun e w' => e = .returned (.bool (dblR l n).1) ∧ Sent O w w' p o (dblR l n).2 := by
  by_cases hne : l = []
  · subst hne
    exact (gdbl_none O p o n w h).mono (fun e w' q => ⟨q.1, Sent.stay h q.2⟩)
  · obtain ⟨m, hm⟩ := rnd_some n hne
    rw [dblR_some hm]
    exact gdbl_some O l p o n m w h hl hm

/-- A post of one's own, made since w0, in blocks outside Z. -/
structure MLive (w0 : World) (Z : Nat → Prop) (w : World) (p : Nat) (l : List Ml) : Prop where
  inn : ∃ O, MailIn O w p 0 l ∧ ∀ k, O k → w0.heap.size ≤ k ∧ ¬ Z k
  below : Below w0.heap.size w0 w
  kept : ∀ k, Z k → k < w.heap.size
theorem MLive.more {w0 w w1 : World} {Z Z' : Nat → Prop} {p : Nat} {l : List Ml} (h : MLive w0 Z w p l) (hb : Below w.heap.size w w1) (hZ : ∀ k, Z' k → Z k ∨ (w.heap.size ≤ k ∧ k < w1.heap.size)) : MLive w0 Z' w1 p l := by
  obtain ⟨O, h1, h2⟩ := h.inn
  refine ⟨⟨O, h1.next hb, fun k hk => ⟨(h2 k hk).1, fun hk' => ?_⟩⟩, after h.below hb h.below.size, fun k hk => ?_⟩
  · rcases hZ k hk' with q | q
    · exact (h2 k hk).2 q
    · have := h1.own k hk
      omega
  · rcases hZ k hk with q | q
    · exact Nat.lt_of_lt_of_le (h.kept k q) hb.size
    · exact q.2
theorem MLive.next {w0 w w1 : World} {Z : Nat → Prop} {p : Nat} {l : List Ml} (h : MLive w0 Z w p l) (hb : Below w.heap.size w w1) : MLive w0 Z w1 p l := h.more hb (fun _ hk => .inl hk)
theorem MLive.less {w0 w : World} {Z Z' : Nat → Prop} {p : Nat} {l : List Ml} (h : MLive w0 Z w p l) (hZ : ∀ k, Z' k → Z k) : MLive w0 Z' w p l := h.more (Below.refl _ _) (fun k hk => .inl (hZ k hk))
/-- Blocks that are kept are written. -/
theorem MLive.keep {O : Nat → Prop} {w0 w w1 : World} {Z : Nat → Prop} {p : Nat} {l : List Ml} (h : MLive w0 Z w p l) (hs : Save O w w1) (hO : ∀ k, O k → Z k ∧ w0.heap.size ≤ k) : MLive w0 Z w1 p l := by
  obtain ⟨Q, h1, h2⟩ := h.inn
  exact ⟨⟨Q, h1.save hs (fun k hk hq => (h2 k hk).2 (hO k hq).1), h2⟩, h.below.trans (hs.below (fun k hk hq => by have := (hO k hq).2; omega) h.below.size), fun k hk => Nat.lt_of_lt_of_le (h.kept k hk) hs.size⟩
theorem MLive.step {O : Nat → Prop} {w0 w w1 : World} {Z : Nat → Prop} {p : Nat} {l l' : List Ml} (h : MLive w0 Z w p l) (h2 : ∀ k, O k → w0.heap.size ≤ k ∧ ¬ Z k) (hs : Sent O w w1 p 0 l') : MLive w0 Z w1 p l' ∧ Save (fun k => ¬ Z k) w w1 := by
  obtain ⟨O', h3, h4, h5, _⟩ := hs
  exact ⟨⟨⟨O', h3, fun k hk => (h5 k hk).elim (h2 k) (fun q => ⟨Nat.le_trans h.below.size q, fun hk' => by have := h.kept k hk'; omega⟩)⟩, h.below.trans (h4.below (fun k hk hO => by have := (h2 k hO).1; omega) h.below.size), fun k hk => Nat.lt_of_lt_of_le (h.kept k hk) h4.size⟩, h4.mono (fun k _ hk => (h2 k hk).2)⟩
theorem pnew_live (w : World) : Calls Try.prog 31 #[] w fun e w' => ∃ p, e = .returned (.pointer (some ⟨p, 0, none⟩)) ∧ MLive w (fun _ => False) w' p [] ∧ Below w.heap.size w w' ∧ w.heap.size ≤ p := by
  refine (pnew_any w).mono ?_
  rintro e w' ⟨⟨p, O, he, hI, hO⟩, hb⟩
  exact ⟨p, he, ⟨⟨O, hI, fun k hk => ⟨hO k hk, fun q => q⟩⟩, hb, fun _ q => q.elim⟩, hb, hO p hI.mine⟩
theorem send_mlive {w0 w : World} {Z : Nat → Prop} {p : Nat} {l : List Ml} (m : Ml) (h : MLive w0 Z w p l) (hl : l.length < 1000) : Calls Try.prog 32 #[.pointer (some ⟨p, 0, none⟩), .agg #[.int .i64 m.kind, .int .i64 m.deal, .int .i64 m.shop, .int .i64 m.c, .int .i64 m.d, .bool m.yes]] w fun e w' => e = .returned (.bool (sendR l m).1) ∧ MLive w0 Z w' p (sendR l m).2 ∧ Save (fun k => ¬ Z k) w w' := by
  obtain ⟨O, h1, h2⟩ := h.inn
  exact (psend_any O l p 0 m w h1 hl).mono (fun e w' q => ⟨q.1, h.step h2 q.2⟩)
theorem take_mlive {w0 w : World} {Z : Nat → Prop} {p : Nat} {l : List Ml} (n : Int) (h : MLive w0 Z w p l) (hl : l.length < 1000) : Calls Try.prog 34 #[.pointer (some ⟨p, 0, none⟩), .int .i64 n] w fun e w' => e = .returned (.tuple #[mlV (takeR l n).1, .bool (takeR l n).2.1]) ∧ MLive w0 Z w' p (takeR l n).2.2 ∧ Save (fun k => ¬ Z k) w w' := by
  obtain ⟨O, h1, h2⟩ := h.inn
  exact (ptake_any O l p 0 n w h1 hl).mono (fun e w' q => ⟨q.1, h.step h2 q.2⟩)
theorem dbl_mlive {w0 w : World} {Z : Nat → Prop} {p : Nat} {l : List Ml} (n : Int) (h : MLive w0 Z w p l) (hl : l.length < 1000) : Calls Try.prog 36 #[.pointer (some ⟨p, 0, none⟩), .int .i64 n] w fun e w' => e = .returned (.bool (dblR l n).1) ∧ MLive w0 Z w' p (dblR l n).2 ∧ Save (fun k => ¬ Z k) w w' := by
  obtain ⟨O, h1, h2⟩ := h.inn
  exact (pdbl_any O l p 0 n w h1 hl).mono (fun e w' q => ⟨q.1, h.step h2 q.2⟩)
theorem len_mlive {w0 w : World} {Z : Nat → Prop} {p : Nat} {l : List Ml} (h : MLive w0 Z w p l) : Calls Try.prog 38 #[.pointer (some ⟨p, 0, none⟩)] w fun e w' => e = .returned (.int .i64 (l.length : Int)) ∧ Below w.heap.size w w' := by
  obtain ⟨O, h1, _⟩ := h.inn
  exact plen_any O l p 0 w h1
theorem list_mlive {w0 w : World} {Z : Nat → Prop} {p : Nat} {l : List Ml} (h : MLive w0 Z w p l) (hl : l.length < 1000) : Calls Try.prog 40 #[.pointer (some ⟨p, 0, none⟩)] w fun e w' => (∃ ga cap, e = .returned (.slice ga l.length cap) ∧ MailsAt w' ga l ∧ (∀ a, ga = some a → w.heap.size ≤ a.block ∧ a.block < w'.heap.size) ∧ l.length ≤ cap) ∧ Below w.heap.size w w' := by
  obtain ⟨O, h1, _⟩ := h.inn
  exact plist_any O l p 0 w h1 hl

theorem lown_mlive {w0 w : World} {Z : Nat → Prop} {p : Nat} {l : List Ml} (h : MLive w0 Z w p l) (hl : l.length < 1000) : Calls Try.prog 40 #[.pointer (some ⟨p, 0, none⟩)] w fun e w' => (∃ v, e = .returned v ∧ w'.ownsRow w.heap.size 71 6 v l.length (flat6 l)) ∧ Below w.heap.size w w' := by
  obtain ⟨O, h1, _⟩ := h.inn
  exact plist_own O l p 0 w h1 hl
/-- A row that is kept has grown, where it lay or in new memory. -/
theorem MLive.grown {w0 w w1 : World} {Z Z' : Nat → Prop} {p : Nat} {l : List Ml} {row : Option Nat} (h : MLive w0 Z w p l) (hg : w.grownBy w1 row) (hr : ∀ k, row = some k → Z k ∧ w0.heap.size ≤ k) (hZ : ∀ k, Z' k → Z k ∨ (w.heap.size ≤ k ∧ k < w1.heap.size)) : MLive w0 Z' w1 p l := by
  have hs : Save (fun k => row = some k) w w1 := (Save.refl _ _).grown hg (fun k e _ => e)
  obtain ⟨Q, h1, h2⟩ := h.inn
  refine ⟨⟨Q, h1.save hs (fun k hk hq => (h2 k hk).2 (hr k hq).1), fun k hk => ⟨(h2 k hk).1, fun hk' => ?_⟩⟩, h.below.trans (hs.below (fun k hk hq => by have := (hr k hq).2; omega) h.below.size), fun k hk => ?_⟩
  · rcases hZ k hk' with q | q
    · exact (h2 k hk).2 q
    · have := h1.own k hk
      omega
  · rcases hZ k hk with q | q
    · exact Nat.lt_of_lt_of_le (h.kept k q) hs.size
    · exact q.2

def bM1 : Ml := ⟨0, 1, 0, 0, 0, false⟩
def bM2 : Ml := ⟨0, 2, 0, 0, 0, false⟩
theorem bs1 : sendR [] bM1 = (true, [bM1]) := by rfl
theorem bs2 : sendR [bM1] bM2 = (true, [bM1, bM2]) := by rfl
theorem bs3 : dblR [bM1, bM2] 3 = (true, [bM1, bM2, bM2]) := by rfl
theorem bs4 : takeR [bM1, bM2, bM2] 0 = (bM1, true, [bM2, bM2]) := by rfl

set_option maxHeartbeats 2000000 in
set_option maxRecDepth 100000 in
theorem mbegun_any (w : World) : Calls Try.prog 30 #[] w fun e w' => e = .returned (.bool true) ∧ Below w.heap.size w w' := by
  go_enter Try.func30, Try.ntmps30
  go_wp2_with fail
  refine (pnew_live w).mono ?_
  rintro e w1 ⟨p, rfl, hL1, _, _⟩
  go_wp2_with fail
  refine Calls.mono (send_mlive bM1 hL1 (by decide)) ?_
  rw [bs1]
  rintro e w2 ⟨rfl, hL2, _⟩
  clear hL1
  go_wp2_with fail
  refine Calls.mono (send_mlive bM2 hL2 (by decide)) ?_
  rw [bs2]
  rintro e w3 ⟨rfl, hL3, _⟩
  clear hL2
  go_wp2_with fail
  refine Calls.mono (dbl_mlive 3 hL3 (by decide)) ?_
  rw [bs3]
  rintro e w4 ⟨rfl, hL4, _⟩
  clear hL3
  go_wp2_with fail
  refine Calls.mono (take_mlive 0 hL4 (by decide)) ?_
  rw [bs4]
  rintro e w5 ⟨rfl, hL5, _⟩
  clear hL4
  show _
  unfold mlV bM1
  dsimp only
  go_upto_region 8 with fail
  have hb6 : Below w5.heap.size w5 (w5.alloc (.cells #[.int .i64 0, .int .i64 1, .int .i64 0, .int .i64 0, .int .i64 0, .bool false] 71)) := (Below.refl _ _).alloc (Nat.le_refl _) _
  have hX := Box6.new w5 ⟨0, 1, 0, 0, 0, false⟩
  change Box6 (w5.alloc (.cells #[.int .i64 0, .int .i64 1, .int .i64 0, .int .i64 0, .int .i64 0, .bool false] 71)) _ _ at hX
  have hL6 := hL5.next hb6
  generalize (w5.alloc (.cells #[.int .i64 0, .int .i64 1, .int .i64 0, .int .i64 0, .int .i64 0, .bool false] 71)) = w6 at *
  generalize w5.heap.size = B at hX ⊢
  have x1 : w6.cell? ⟨B, 1, none⟩ = some (.int .i64 1) := hX.c1
  clear hX hL5 hb6
  go_wp2_with fail
  refine Calls.mono (len_mlive hL6) ?_
  rintro e w7 ⟨rfl, hb7⟩
  have hL7 := hL6.next hb7
  clear hL6 hb7
  go_wp2_with fail
  refine Calls.mono (list_mlive hL7 (by decide)) ?_
  rintro e w8 ⟨⟨ga, cap, rfl, _⟩, hb8⟩
  have hL8 := hL7.next hb8
  clear hL7 hb8
  go_wp2_with fail
  go_ret
  exact ⟨rfl, hL8.below⟩

end Go.Proofs.Ytbgnajcmhmpjlab
