/- The contract of shopBegun: it answers true. -/
import Derived.Test.YtbgnajcmhmpjlabSGood
import Derived.Test.YtbgnajcmhmpjlabSGet
namespace Go.Proofs.Ytbgnajcmhmpjlab
open Go.RowKit

/-- A shop of one's own, made since w0, in blocks outside K. -/
structure Live (w0 : World) (K : Nat → Prop) (w : World) (p : Nat) (A : Bk) : Prop where
  inn : ∃ O, ShopIn O w p A ∧ ∀ k, O k → w0.heap.size ≤ k ∧ ¬ K k
  below : Below w0.heap.size w0 w
  kept : ∀ k, K k → k < w.heap.size
theorem Live.next {w0 w w1 : World} {K : Nat → Prop} {p : Nat} {A : Bk} (h : Live w0 K w p A) (hb : Below w.heap.size w w1) : Live w0 K w1 p A := by
  obtain ⟨O, h1, h2⟩ := h.inn
  exact ⟨⟨O, h1.next hb, h2⟩, after h.below hb h.below.size, fun k hk => Nat.lt_of_lt_of_le (h.kept k hk) hb.size⟩
/-- More blocks are kept: new ones. -/
theorem Live.more {w0 w w1 : World} {K K' : Nat → Prop} {p : Nat} {A : Bk} (h : Live w0 K w p A) (hb : Below w.heap.size w w1) (hK : ∀ k, K' k → K k ∨ (w.heap.size ≤ k ∧ k < w1.heap.size)) : Live w0 K' w1 p A := by
  obtain ⟨O, h1, h2⟩ := h.inn
  refine ⟨⟨O, h1.next hb, fun k hk => ⟨(h2 k hk).1, fun hk' => ?_⟩⟩, after h.below hb h.below.size, fun k hk => ?_⟩
  · rcases hK k hk' with q | q
    · exact (h2 k hk).2 q
    · have := h1.own k hk
      omega
  · rcases hK k hk with q | q
    · exact Nat.lt_of_lt_of_le (h.kept k q) hb.size
    · exact q.2
theorem Live.less {w0 w : World} {K K' : Nat → Prop} {p : Nat} {A : Bk} (h : Live w0 K w p A) (hK : ∀ k, K' k → K k) : Live w0 K' w p A :=
  h.more (Below.refl _ _) (fun k hk => .inl (hK k hk))
theorem Live.step {O O' : Nat → Prop} {w0 w w1 : World} {K : Nat → Prop} {p : Nat} {A A' : Bk} (h : Live w0 K w p A) (h2 : ∀ k, O k → w0.heap.size ≤ k ∧ ¬ K k) (h3 : ShopIn O' w1 p A') (h4 : Save O w w1) (h5 : Moved O O' w) : Live w0 K w1 p A' ∧ Save (fun k => ¬ K k) w w1 :=
  ⟨⟨⟨O', h3, fun k hk => (h5 k hk).elim (h2 k) (fun q => ⟨Nat.le_trans h.below.size q, fun hk' => by have := h.kept k hk'; omega⟩)⟩, h.below.trans (h4.below (fun k hk hO => by have := (h2 k hO).1; omega) h.below.size), fun k hk => Nat.lt_of_lt_of_le (h.kept k hk) h4.size⟩, h4.mono (fun k _ hk => (h2 k hk).2)⟩

def wsS : Nat → Int
  | 2 => 10
  | 3 => 20
  | _ => 0
def A0 : Bk := { no := 1, v0 := 10, v1 := 20, hs := [], es := [] }
def A1 : Bk := { no := 1, v0 := 10, v1 := 20, hs := [(4, 2, -6)], es := [] }
def A2 : Bk := { no := 1, v0 := 4, v1 := 20, hs := [], es := [(4, true)] }
theorem new_begun (w : World) : Calls Try.prog 65 #[.int .i64 1, .agg #[.int .i64 0, .int .i64 0, .int .i64 10, .int .i64 20, .int .i64 0, .int .i64 0]] w fun e w' => ∃ p, e = .returned (.pointer (some ⟨p, 0, none⟩)) ∧ Live w (fun _ => False) w' p A0 := by
  refine (snew_any 1 wsS w).mono ?_
  rintro e w' ⟨h, hb⟩
  unfold NewIs at h
  rw [if_pos (by rfl)] at h
  obtain ⟨p, O, he, hI, hO⟩ := h
  exact ⟨p, he, ⟨O, hI, fun k hk => ⟨hO k hk, fun q => q⟩⟩, hb, fun _ q => q.elim⟩
theorem nil_begun (w : World) : Calls Try.prog 65 #[.int .i64 3, .agg #[.int .i64 0, .int .i64 0, .int .i64 0, .int .i64 0, .int .i64 0, .int .i64 0]] w fun e w' => e = .returned (.pointer none) ∧ Below w.heap.size w w' := by
  refine (snew_any 3 noW w).mono ?_
  rintro e w' ⟨h, hb⟩
  unfold NewIs at h
  rw [if_neg (by decide)] at h
  exact ⟨h, hb⟩
theorem hold_live {w0 w : World} {K : Nat → Prop} {p : Nat} {A A' : Bk} {deal c d r : Int} (h : Live w0 K w p A) (n0 : 0 ≤ A.no) (n3 : A.no < 3) (hl : A.hs.length < 2 ^ 40) (e : holdR A deal c d = (r, A')) : Calls Try.prog 91 #[.pointer (some ⟨p, 0, none⟩), .int .i64 deal, .agg #[.int .i64 c, .int .i64 d]] w fun e w' => e = .returned (.int .i64 r) ∧ Live w0 K w' p A' ∧ Save (fun k => ¬ K k) w w' := by
  obtain ⟨O, h1, h2⟩ := h.inn
  refine (shold_any O A p deal c d w h1 n0 n3 hl).mono ?_
  rintro e' w' ⟨he, O', h3, h4, h5⟩
  rw [e] at he h3
  exact ⟨he, Live.step h h2 h3 h4 h5⟩
theorem end_live {w0 w : World} {K : Nat → Prop} {p : Nat} {A A' : Bk} {deal r : Int} {done : Bool} (h : Live w0 K w p A) (hG : Good A) (hl : A.hs.length < 2 ^ 40) (e : endR A deal done = (r, A')) : Calls Try.prog 92 #[.pointer (some ⟨p, 0, none⟩), .int .i64 deal, .bool done] w fun e w' => e = .returned (.int .i64 r) ∧ Live w0 K w' p A' ∧ Save (fun k => ¬ K k) w w' := by
  obtain ⟨O, h1, h2⟩ := h.inn
  refine (send_any O A p deal done w h1 hG hl).mono ?_
  rintro e' w' ⟨he, O', h3, h4, h5⟩
  rw [e] at he h3
  exact ⟨he, Live.step h h2 h3 h4 h5⟩
theorem holds_live {w0 w : World} {K : Nat → Prop} {p : Nat} {A : Bk} (h : Live w0 K w p A) (hl : A.hs.length < 2 ^ 40) : Calls Try.prog 21 #[.pointer (some ⟨p, 0, none⟩)] w fun e w' => (∃ ga cap, e = .returned (.slice ga A.hs.length cap) ∧ HoldsAt w' ga A.hs ∧ (∀ a, ga = some a → w.heap.size ≤ a.block ∧ a.block < w'.heap.size)) ∧ Live w0 K w' p A ∧ Below w.heap.size w w' := by
  obtain ⟨O, h1, _⟩ := h.inn
  refine (sholds_any O A p w h1 hl).mono ?_
  rintro e w' ⟨h2, hb⟩
  exact ⟨h2, h.next hb, hb⟩
theorem counts_live {w0 w : World} {K : Nat → Prop} {p : Nat} {A : Bk} (h : Live w0 K w p A) : Calls Try.prog 18 #[.pointer (some ⟨p, 0, none⟩)] w fun e w' => e = .returned (cntV (cnt6 A)) ∧ Live w0 K w' p A ∧ Below w.heap.size w w' := by
  obtain ⟨O, h1, _⟩ := h.inn
  refine (scounts_any O A p w h1).mono ?_
  rintro e w' ⟨h2, hb⟩
  exact ⟨h2, h.next hb, hb⟩
theorem over_live {w0 w : World} {K : Nat → Prop} {p : Nat} {A : Bk} (h : Live w0 K w p A) (hG : Good A) (deal : Int) : Calls Try.prog 29 #[.pointer (some ⟨p, 0, none⟩), .int .i64 deal] w fun e w' => e = .returned (.tuple #[.bool (ovB A.es deal), .bool (dnB A.es deal)]) ∧ Live w0 K w' p A ∧ Below w.heap.size w w' := by
  obtain ⟨O, h1, _⟩ := h.inn
  refine (sover_any O A p deal w h1 hG).mono ?_
  rintro e w' ⟨h2, hb⟩
  exact ⟨h2, h.next hb, hb⟩
theorem good0 : Good A0 := good_new (no := 1) (ws := wsS) rfl
theorem hold1 : holdR A0 4 2 (-6) = (0, A1) := by rfl
theorem hold2 : holdR A1 5 2 (-6) = (5, A1) := by rfl
theorem hold3 : holdR A1 4 2 (-6) = (0, A1) := by rfl
theorem end4 : endR A1 4 true = (0, A2) := by rfl
theorem hold5 : holdR A2 4 3 1 = (8, A2) := by rfl
theorem end6 : endR A2 4 false = (9, A2) := by rfl
theorem good1 : Good A1 := by have := good_hold good0 4 2 (-6); rwa [hold1] at this
theorem good2 : Good A2 := by have := good_end good1 4 true; rwa [end4] at this
theorem idx2 (a b c d e f : Int) (W : World) : (Instr.index 36 (.agg #[.int .i64 a, .int .i64 b, .int .i64 c, .int .i64 d, .int .i64 e, .int .i64 f]) (.int .i64 0)).run Try.prog W = .ok (.agg #[.int .i64 a, .int .i64 b, .int .i64 c]) W ∧ (Instr.index 36 (.agg #[.int .i64 a, .int .i64 b, .int .i64 c, .int .i64 d, .int .i64 e, .int .i64 f]) (.int .i64 1)).run Try.prog W = .ok (.agg #[.int .i64 d, .int .i64 e, .int .i64 f]) W := by
  refine ⟨?_, ?_⟩ <;> simp [Instr.index, run_underlying Try.underlying36, asIntOf, go_sem]

end Go.Proofs.Ytbgnajcmhmpjlab
