/- A broker of one's own, made since a world: its steps; brokerBegun. -/
import Derived.Test.YtndggiefgpdiiacRSay
namespace Go.Proofs.Ytndggiefgpdiiac
open Go.RowKit

/-- A broker of one's own, made since w0, in blocks outside Z. -/
structure RLv (w0 : World) (Z : Nat → Prop) (w : World) (q : Nat) (B : Bok) : Prop where
  inn : ∃ O, BrkIn O w q B ∧ ∀ k, O k → w0.heap.size ≤ k ∧ ¬ Z k
  below : Below w0.heap.size w0 w
  kept : ∀ k, Z k → k < w.heap.size
  inv : BInv B
theorem RLv.more {w0 w w1 : World} {Z Z' : Nat → Prop} {q : Nat} {B : Bok} (h : RLv w0 Z w q B) (hb : Below w.heap.size w w1) (hZ : ∀ k, Z' k → Z k ∨ (w.heap.size ≤ k ∧ k < w1.heap.size)) : RLv w0 Z' w1 q B := by
  obtain ⟨O, h1, h2⟩ := h.inn
  refine ⟨⟨O, h1.next hb, fun k hk => ⟨(h2 k hk).1, fun hk' => ?_⟩⟩, after h.below hb h.below.size, fun k hk => ?_, h.inv⟩
  · rcases hZ k hk' with q | q
    · exact (h2 k hk).2 q
    · have := h1.own k hk
      omega
  · rcases hZ k hk with q | q
    · exact Nat.lt_of_lt_of_le (h.kept k q) hb.size
    · exact q.2
theorem RLv.next {w0 w w1 : World} {Z : Nat → Prop} {q : Nat} {B : Bok} (h : RLv w0 Z w q B) (hb : Below w.heap.size w w1) : RLv w0 Z w1 q B := h.more hb (fun _ hk => .inl hk)
theorem RLv.less {w0 w : World} {Z Z' : Nat → Prop} {q : Nat} {B : Bok} (h : RLv w0 Z w q B) (hZ : ∀ k, Z' k → Z k) : RLv w0 Z' w q B := h.more (Below.refl _ _) (fun k hk => .inl (hZ k hk))
theorem RLv.cons {w0 w w1 : World} {l : List Nat} {b q : Nat} {B : Bok} (h : RLv w0 (fun k => k ∈ l) w q B) (hb : Below w.heap.size w w1) (h1 : w.heap.size ≤ b) (h2 : b < w1.heap.size) : RLv w0 (fun k => k ∈ b :: l) w1 q B :=
  h.more hb (fun k hk => by
    rcases List.mem_cons.1 hk with rfl | q
    · exact .inr ⟨h1, h2⟩
    · exact .inl q)
theorem RLv.keep {O : Nat → Prop} {w0 w w1 : World} {Z : Nat → Prop} {q : Nat} {B : Bok} (h : RLv w0 Z w q B) (hs : Save O w w1) (hO : ∀ k, O k → Z k ∧ w0.heap.size ≤ k) : RLv w0 Z w1 q B := by
  obtain ⟨Q, h1, h2⟩ := h.inn
  exact ⟨⟨Q, h1.save hs (fun k hk hq => (h2 k hk).2 (hO k hq).1), h2⟩, h.below.trans (hs.below (fun k hk hq => by have := (hO k hq).2; omega) h.below.size), fun k hk => Nat.lt_of_lt_of_le (h.kept k hk) hs.size, h.inv⟩
theorem RLv.step {O : Nat → Prop} {w0 w w1 : World} {Z : Nat → Prop} {q : Nat} {B B' : Bok} (h : RLv w0 Z w q B) (h2 : ∀ k, O k → w0.heap.size ≤ k ∧ ¬ Z k) (hs : BrkTo O w w1 q B') (hI : BInv B') : RLv w0 Z w1 q B' ∧ Save (fun k => ¬ Z k) w w1 := by
  obtain ⟨O', h3, h4, h5⟩ := hs
  exact ⟨⟨⟨O', h3, fun k hk => (h5 k hk).elim (h2 k) (fun q => ⟨Nat.le_trans h.below.size q, fun hk' => by have := h.kept k hk'; omega⟩)⟩, h.below.trans (h4.below (fun k hk hO => by have := (h2 k hO).1; omega) h.below.size), fun k hk => Nat.lt_of_lt_of_le (h.kept k hk) h4.size, hI⟩, h4.mono (fun k _ hk => (h2 k hk).2)⟩
theorem new_rlv (w : World) : Calls Try.prog 5 #[] w fun e w' => ∃ q, e = .returned (.pointer (some ⟨q, 0, none⟩)) ∧ RLv w (fun k => k ∈ ([] : List Nat)) w' q ⟨[], []⟩ ∧ Below w.heap.size w w' := by
  refine (rnew_any w).mono ?_
  rintro e w' ⟨⟨q, O, he, hI, hO⟩, hb⟩
  exact ⟨q, he, ⟨⟨O, hI, fun k hk => ⟨hO k hk, by simp⟩⟩, hb, fun k hk => by simp at hk, binv_new⟩, hb⟩
theorem begin_rlv {w0 w : World} {Z : Nat → Prop} {q : Nat} {B : Bok} {la : Option Addr} {ll lc : Nat} {l : List (Int × Int)} (h : RLv w0 Z w q B) (hl : WantsAt w la l) (hll : l.length = ll) : Calls Try.prog 6 #[.pointer (some ⟨q, 0, none⟩), .slice la ll lc] w fun e w' => e = .returned (.tuple #[.int .i64 (beginR B l).1, .int .i64 (beginR B l).2.1]) ∧ RLv w0 Z w' q (beginR B l).2.2 ∧ Save (fun k => ¬ Z k) w w' := by
  obtain ⟨O, h1, h2⟩ := h.inn
  exact (rbegin_any O B q la ll lc l w h1 h.inv hl hll).mono (fun e w' z => ⟨z.1, h.step h2 z.2 (h.inv.begin l)⟩)
theorem quit_rlv {w0 w : World} {Z : Nat → Prop} {q : Nat} {B : Bok} (n : Int) (h : RLv w0 Z w q B) : Calls Try.prog 15 #[.pointer (some ⟨q, 0, none⟩), .int .i64 n] w fun e w' => e = .returned (.int .i64 (quitR B n).1) ∧ RLv w0 Z w' q (quitR B n).2 ∧ Save (fun k => ¬ Z k) w w' := by
  obtain ⟨O, h1, h2⟩ := h.inn
  exact (rquit_any O B q n w h1 h.inv).mono (fun e w' z => ⟨z.1, h.step h2 z.2 (h.inv.quit n)⟩)
theorem hear_rlv {w0 w : World} {Z : Nat → Prop} {q : Nat} {B : Bok} (m : Ml) (h : RLv w0 Z w q B) : Calls Try.prog 8 #[.pointer (some ⟨q, 0, none⟩), .agg #[.int .i64 m.kind, .int .i64 m.deal, .int .i64 m.shop, .int .i64 m.c, .int .i64 m.d, .bool m.yes]] w fun e w' => e = .returned (.tuple #[]) ∧ RLv w0 Z w' q (hearR B m) ∧ Save (fun k => ¬ Z k) w w' := by
  obtain ⟨O, h1, h2⟩ := h.inn
  exact (rhear_any O B q m w h1 h.inv).mono (fun e w' z => ⟨z.1, h.step h2 z.2 (h.inv.hear m)⟩)
theorem len_rlv {w0 w : World} {Z : Nat → Prop} {q : Nat} {B : Bok} (h : RLv w0 Z w q B) : Calls Try.prog 7 #[.pointer (some ⟨q, 0, none⟩)] w fun e w' => e = .returned (.int .i64 (B.L.length : Int)) ∧ w' = w := by
  obtain ⟨O, h1, _⟩ := h.inn
  exact rlen_any O B q w h1
theorem state_rlv {w0 w : World} {Z : Nat → Prop} {q : Nat} {B : Bok} (n : Int) (h : RLv w0 Z w q B) : Calls Try.prog 11 #[.pointer (some ⟨q, 0, none⟩), .int .i64 n] w fun e w' => e = .returned (.int .i64 (stR B n)) ∧ w' = w := by
  obtain ⟨O, h1, _⟩ := h.inn
  exact rstate_any O B q n w h1 h.inv.len
theorem done_rlv {w0 w : World} {Z : Nat → Prop} {q : Nat} {B : Bok} (h : RLv w0 Z w q B) : Calls Try.prog 12 #[.pointer (some ⟨q, 0, none⟩)] w fun e w' => (∃ v, e = .returned v ∧ w'.ownsRow w.heap.size 3 1 v B.ord.length (B.ord.map (Value.int .i64))) ∧ Below w.heap.size w w' := by
  obtain ⟨O, h1, _⟩ := h.inn
  exact rdone_any O B q w h1 (by have := h.inv.ordLen; omega)
theorem due_rlv {w0 w : World} {Z : Nat → Prop} {q : Nat} {B : Bok} (h : RLv w0 Z w q B) : Calls Try.prog 13 #[.pointer (some ⟨q, 0, none⟩)] w fun e w' => (∃ v, e = .returned v ∧ w'.ownsRow w.heap.size 37 6 v (dueR B).length (flat6 (dueR B))) ∧ Below w.heap.size w w' := by
  obtain ⟨O, h1, _⟩ := h.inn
  exact rdue_any O B q w h1 h.inv
def lBr : List (Int × Int) := [(0, -1), (4, 1)]
def BB1 : Bok := ⟨[⟨lBr, 0, [], []⟩], []⟩
def BB2 : Bok := ⟨[⟨lBr, 0, [0], []⟩], []⟩
def BB3 : Bok := ⟨[⟨lBr, 1, [0, 1], []⟩], [0]⟩
def BB4 : Bok := ⟨[⟨lBr, 1, [0, 1], [0]⟩], [0]⟩
theorem bb1 : beginR ⟨[], []⟩ lBr = (0, 0, BB1) := by rfl
theorem bb2 : hearR BB1 ⟨2, 0, 0, 0, -1, true⟩ = BB2 := by rfl
theorem bb3 : hearR BB2 ⟨2, 0, 2, 4, 1, true⟩ = BB3 := by rfl
theorem bb4 : hearR BB3 ⟨4, 0, 0, 0, 0, true⟩ = BB4 := by rfl
theorem bd1 : dueR BB1 = [⟨1, 0, 0, 0, -1, false⟩, ⟨1, 0, 2, 4, 1, false⟩] := by rfl
theorem bd2 : dueR BB2 = [⟨1, 0, 2, 4, 1, false⟩] := by rfl
theorem bd3 : dueR BB3 = [⟨3, 0, 0, 0, 0, true⟩, ⟨3, 0, 2, 0, 0, true⟩] := by rfl
theorem bd4 : dueR BB4 = [⟨3, 0, 2, 0, 0, true⟩] := by rfl
theorem bq4 : quitR BB4 0 = (8, BB4) := by rfl
theorem bst0 : stR BB4 0 = 1 := by rfl
theorem bst1 : stR BB4 1 = -1 := by rfl

set_option maxRecDepth 100000 in
set_option maxHeartbeats 8000000 in
theorem rbegun_any (w : World) : Calls Try.prog 4 #[] w fun e w' => e = .returned (.bool true) ∧ Below w.heap.size w w' := by
  go_enter Try.func4, Try.ntmps4
  go_wp2_with fail
  refine Calls.mono (new_rlv w) ?_
  rintro e w1 ⟨q, rfl, hL1, _⟩
  go_upto_region 5 with fail
  have hQ := BoxAt.new w1 [.int .i64 0, .int .i64 (-1), .int .i64 4, .int .i64 1] 35
  have hbn : Below w1.heap.size w1 (w1.alloc (.cells #[.int .i64 0, .int .i64 (-1), .int .i64 4, .int .i64 1] 35)) := (Below.refl _ _).alloc (Nat.le_refl _) _
  have hL2 := hL1.cons (b := w1.heap.size) hbn (Nat.le_refl _) hQ.1
  change BoxAt (w1.alloc (.cells #[.int .i64 0, .int .i64 (-1), .int .i64 4, .int .i64 1] 35)) _ _ at hQ
  generalize (w1.alloc (.cells #[.int .i64 0, .int .i64 (-1), .int .i64 4, .int .i64 1] 35)) = w2 at hQ hL2 ⊢
  generalize w1.heap.size = bl at hQ hL2 ⊢
  clear hL1 hbn
  have hW : WantsAt w2 (some ⟨bl, 0, none⟩) lBr := by
    intro k c d hk
    refine ⟨bl, 0, rfl, hQ.1, ?_⟩
    match k, hk with
    | 0, hk => obtain ⟨rfl, rfl⟩ : (0 : Int) = c ∧ (-1 : Int) = d := by simpa [lBr] using hk
               exact ⟨hQ.2 0 _ rfl, hQ.2 1 _ rfl⟩
    | 1, hk => obtain ⟨rfl, rfl⟩ : (4 : Int) = c ∧ (1 : Int) = d := by simpa [lBr] using hk
               exact ⟨hQ.2 2 _ rfl, hQ.2 3 _ rfl⟩
    | k + 2, hk => simp [lBr] at hk
  have HC : Hid _ := begin_rlv (lc := 2) hL2 hW rfl
  rw [bb1] at HC
  clear hL2 hW
  go_wp2_with fail
  refine Calls.mono HC.out ?_
  rintro e w3 ⟨rfl, hL3, hS3⟩
  have hQ3 := hQ.save hS3 (fun e => e (by simp))
  clear hQ hS3 HC
  have HC : Hid _ := due_rlv hL3
  rw [bd1] at HC
  go_wp2_with fail
  refine Calls.mono HC.out ?_
  rintro e w4 ⟨⟨vd, rfl, hrd⟩, hb4⟩
  obtain ⟨gd, capd, rfl⟩ := own_sl hrd
  have hL4 := hL3.next hb4
  have hQ4 := hQ3.next hb4
  clear hL3 hQ3 HC hrd hb4
  have q0 := hQ4.2 0 _ rfl
  have q1 := hQ4.2 1 _ rfl
  have HC : Hid _ := hear_rlv ⟨2, 0, 0, 0, -1, true⟩ hL4
  rw [bb2] at HC
  go_wp2_with fail
  refine Calls.mono HC.out ?_
  rintro e w5 ⟨rfl, hL5, hS5⟩
  have hQ5 := hQ4.save hS5 (fun e => e (by simp))
  clear hL4 hQ4 HC hS5 q0 q1
  have HC : Hid _ := due_rlv hL5
  rw [bd2] at HC
  go_wp2_with fail
  refine Calls.mono HC.out ?_
  rintro e w6 ⟨⟨ve, rfl, hre⟩, hb6⟩
  obtain ⟨ge, cape, rfl⟩ := own_any hre (by decide)
  have hle := hre.lt ge rfl
  have hL6 := hL5.cons (b := ge) hb6 hle.1 hle.2
  have hQ6 := hQ5.next hb6
  have hE6 : BoxAt w6 ge [.int .i64 1, .int .i64 0, .int .i64 2] := by
    obtain ⟨_, _, _, _, hc⟩ := own_row hre
    refine ⟨hle.2, fun j v hj => hc j v ?_⟩
    match j, hj with
    | 0, hj => simpa [flat6, Ml.cells] using hj
    | 1, hj => simpa [flat6, Ml.cells] using hj
    | 2, hj => simpa [flat6, Ml.cells] using hj
    | j + 3, hj => simp at hj
  clear hL5 hQ5 HC hre hb6 hle
  have q2 := hQ6.2 2 _ rfl
  have q3 := hQ6.2 3 _ rfl
  have HC : Hid _ := hear_rlv ⟨2, 0, 2, 4, 1, true⟩ hL6
  rw [bb3] at HC
  go_wp2_with fail
  refine Calls.mono HC.out ?_
  rintro e w7 ⟨rfl, hL7, hS7⟩
  have hE7 := hE6.save hS7 (fun e => e (by simp))
  clear hL6 hQ6 hE6 HC hS7 q2 q3
  have HC : Hid _ := due_rlv hL7
  rw [bd3] at HC
  go_wp2_with fail
  refine Calls.mono HC.out ?_
  rintro e w8 ⟨⟨vf, rfl, hrf⟩, hb8⟩
  obtain ⟨gf, capf, rfl⟩ := own_any hrf (by decide)
  have hlf := hrf.lt gf rfl
  have hL8 := hL7.cons (b := gf) hb8 hlf.1 hlf.2
  have hE8 := hE7.next hb8
  have hF8 : BoxAt w8 gf [.int .i64 3, .int .i64 0, .int .i64 0, .int .i64 0, .int .i64 0, .bool true] := by
    obtain ⟨_, _, _, _, hc⟩ := own_row hrf
    refine ⟨hlf.2, fun j v hj => hc j v ?_⟩
    match j, hj with
    | 0, hj => simpa [flat6, Ml.cells] using hj
    | 1, hj => simpa [flat6, Ml.cells] using hj
    | 2, hj => simpa [flat6, Ml.cells] using hj
    | 3, hj => simpa [flat6, Ml.cells] using hj
    | 4, hj => simpa [flat6, Ml.cells] using hj
    | 5, hj => simpa [flat6, Ml.cells] using hj
    | j + 6, hj => simp at hj
  clear hL7 hE7 HC hrf hb8 hlf
  have HC : Hid _ := hear_rlv ⟨4, 0, 0, 0, 0, true⟩ hL8
  rw [bb4] at HC
  go_wp2_with fail
  refine Calls.mono HC.out ?_
  rintro e w9 ⟨rfl, hL9, hS9⟩
  have hE9 := hE8.save hS9 (fun e => e (by simp))
  have hF9 := hF8.save hS9 (fun e => e (by simp))
  clear hL8 hE8 hF8 HC hS9
  have e0 := hE9.2 0 _ rfl
  have e2 := hE9.2 2 _ rfl
  have f0 := hF9.2 0 _ rfl
  have f5 := hF9.2 5 _ rfl
  have HC : Hid _ := due_rlv hL9
  rw [bd4] at HC
  go_wp2_with fail
  refine Calls.mono HC.out ?_
  rintro e w10 ⟨⟨vg, rfl, hrg⟩, hb10⟩
  obtain ⟨gg, capg, rfl⟩ := own_sl hrg
  have hL10 := hL9.next hb10
  clear hL9 HC hrg hb10 e0 e2 f0 f5 hE9 hF9
  have HC : Hid _ := state_rlv 0 hL10
  rw [bst0] at HC
  go_wp2_with fail
  refine Calls.mono HC.out ?_
  rintro e w11 ⟨rfl, rfl⟩
  clear HC
  have HC : Hid _ := done_rlv hL10
  go_wp2_with fail
  refine Calls.mono HC.out ?_
  rintro e w12 ⟨⟨vh, rfl, hrh⟩, hb12⟩
  obtain ⟨gh, caph, rfl, hNh, _⟩ := nums_of_own hrh
  have hL12 := hL10.next hb12
  clear hL10 HC hrh hb12
  go_wp2_with fail
  have hbn : Below w12.heap.size w12 (w12.alloc (.cells #[.int .i64 0] 3)) := (Below.refl _ _).alloc (Nat.le_refl _) _
  have hNn : NumsAt (w12.alloc (.cells #[.int .i64 0] 3)) (some ⟨w12.heap.size, 0, none⟩) [0] := by
    intro k c hk
    refine ⟨w12.heap.size, 0, rfl, by simp, ?_⟩
    match k, hk with
    | 0, hk => obtain rfl : (0 : Int) = c := by simpa using hk
               simp [go_sem]
    | k + 1, hk => simp at hk
  refine Calls.mono (sameInts_any gh _ _ 1 caph 1 BB4.ord [0] _ (hNh.below hbn (Nat.le_refl _)) hNn rfl rfl (by decide)) ?_
  rintro e w13 ⟨rfl, hb13⟩
  rw [decide_eq_true (show BB4.ord = [0] from rfl)]
  have hL13 := (hL12.next hbn).next hb13
  clear hL12 hNh hNn hbn hb13
  have HC : Hid _ := state_rlv 1 hL13
  rw [bst1] at HC
  go_wp2_with fail
  refine Calls.mono HC.out ?_
  rintro e w14 ⟨rfl, rfl⟩
  clear HC
  have HC : Hid _ := quit_rlv 0 hL13
  rw [bq4] at HC
  go_wp2_with fail
  refine Calls.mono HC.out ?_
  rintro e w15 ⟨rfl, hL15, _⟩
  clear HC hL13
  have HC : Hid _ := len_rlv hL15
  go_wp2_with fail
  refine Calls.mono HC.out ?_
  rintro e w16 ⟨rfl, rfl⟩
  go_wp2_with fail
  go_ret
  exact ⟨rfl, hL15.below⟩

end Go.Proofs.Ytndggiefgpdiiac
