/- How the document's book of deals lies in memory: a row of deals, each with three rows of its own. The types of a deal, a want and a number are handed in. -/
import Derived.WalkKit
import Derived.Test.YtbgnajcmhmpjlabRows
import Derived.WalkSpells
import Derived.Handy
import Derived.Deep.LoopGhost
import Derived.Deep.DeepCutAuto
import Derived.Deep.QuietTactic
import Derived.BigQuiet
import Derived.Laws.AppendOwn
import Derived.OwnWalk
import Derived.ChangeKeysEq
import Derived.Lib.SliceRun
import Derived.IntWalk

/- The plain mathematics of a counter: what package count's functions answer, as functions on integers. No program is named here. -/
namespace Go.Proofs.Ytbgnajcmhmpjlab
open Go.RowKit

/-- Check's code. -/
def chk (v o i : Int) : Int := if v < 0 then 1 else if 100 < v then 1 else if o < 0 then 5 else if v < o then 5 else if i < 0 then 6 else if 100 - v < i then 6 else 0
/-- Delta's code. -/
def dlt (n : Int) : Int := if n = 0 then 2 else if n < -100 then 1 else if 100 < n then 1 else 0

theorem chk_ok {v o i : Int} (h : chk v o i = 0) : 0 ≤ v ∧ v ≤ 100 ∧ 0 ≤ o ∧ o ≤ v ∧ 0 ≤ i ∧ v + i ≤ 100 := by
  unfold chk at h
  repeat' split at h
  all_goals omega
theorem chk_of {v o i : Int} (h1 : 0 ≤ v) (h2 : v ≤ 100) (h3 : 0 ≤ o) (h4 : o ≤ v) (h5 : 0 ≤ i) (h6 : v + i ≤ 100) : chk v o i = 0 := by
  unfold chk
  repeat' split
  all_goals omega
theorem dlt_ok {n : Int} (h : dlt n = 0) : n ≠ 0 ∧ -100 ≤ n ∧ n ≤ 100 := by
  unfold dlt at h
  repeat' split at h
  all_goals omega
theorem dlt_of {n : Int} (h1 : n ≠ 0) (h2 : -100 ≤ n) (h3 : n ≤ 100) : dlt n = 0 := by
  unfold dlt
  repeat' split
  all_goals omega

/-- Behind a contract that only makes memory: old cells and old marks read as they did. -/
theorem bcell {W w1 : World} (hb : Below W.heap.size W w1) : (∀ b o, b < W.heap.size → w1.cell? ⟨b, o, none⟩ = W.cell? ⟨b, o, none⟩) ∧ (∀ b o, b < W.heap.size → w1.frozen? ⟨b, o, none⟩ = W.frozen? ⟨b, o, none⟩) :=
  ⟨fun b o h => hb.cell (p := ⟨b, o, none⟩) h, fun b o h => hb.frozen (p := ⟨b, o, none⟩) h⟩
theorem after {B : Nat} {w W w1 : World} (h : Below B w W) (hb : Below W.heap.size W w1) (hB : B ≤ W.heap.size) : Below B w w1 := h.trans (hb.mono hB)
theorem box3 {W w1 : World} (b : Nat) {x y z : Value} (hb : Below W.heap.size W w1) (hlt : b < W.heap.size) (c0 : W.cell? ⟨b, 0, none⟩ = some x) (c1 : W.cell? ⟨b, 1, none⟩ = some y) (c2 : W.cell? ⟨b, 2, none⟩ = some z) :
    w1.cell? ⟨b, 0, none⟩ = some x ∧ w1.cell? ⟨b, 1, none⟩ = some y ∧ w1.cell? ⟨b, 2, none⟩ = some z :=
  ⟨((bcell hb).1 _ _ hlt).trans c0, ((bcell hb).1 _ _ hlt).trans c1, ((bcell hb).1 _ _ hlt).trans c2⟩
theorem loose {W w1 : World} (b : Nat) (hb : Below W.heap.size W w1) (hlt : b < W.heap.size) (hf : ∀ k, W.frozen? ⟨b, k, none⟩ = false) : ∀ k, w1.frozen? ⟨b, k, none⟩ = false := fun k => ((bcell hb).2 _ _ hlt).trans (hf k)
theorem ret_int {k : IntKind} {a b : Int} (h : a = b) : Ending.returned (.int k a) = .returned (.int k b) := by rw [h]

end Go.Proofs.Ytbgnajcmhmpjlab

/- The contracts of package count's small functions and of the document's own: Check, CountFault, Delta, DeltaFault, Low, High, checkBoth. -/
namespace Go.Proofs.Ytbgnajcmhmpjlab
open Go.RowKit

set_option maxHeartbeats 400000 in
theorem check_any (v o i : Int) (w : World) :
    Calls Try.prog 89 #[.agg #[.int .i64 v, .int .i64 o, .int .i64 i]] w fun e w' => e = .returned (.int .i64 (chk v o i)) ∧ Below w.heap.size w w' := by
  go_enter Try.func89, Try.ntmps89
  go_wp2
  all_goals
    go_ret
    exact ⟨ret_int (by unfold chk; repeat' split
                       all_goals omega), by go_grown⟩

set_option maxHeartbeats 400000 in
theorem countFault_any (v o i : Int) (w : World) :
    Calls Try.prog 113 #[.agg #[.int .i64 v, .int .i64 o, .int .i64 i]] w fun e w' => e = .returned (.int .i64 (chk v o i)) ∧ Below w.heap.size w w' := by
  go_enter Try.func113, Try.ntmps113
  go_wp2
  all_goals
    go_ret
    exact ⟨ret_int (by unfold chk; repeat' split
                       all_goals omega), by go_grown⟩

theorem dlt_zero {n : Int} (h : (n == 0) = true) : 2 = dlt n := by
  have e : n = 0 := by simpa using h
  unfold dlt; rw [if_pos e]
theorem dlt_ne {n : Int} (h : (n == 0) = false) : dlt n = if n < -100 then 1 else if 100 < n then 1 else 0 := by
  have e : ¬ n = 0 := by simpa using h
  unfold dlt; rw [if_neg e]

set_option maxHeartbeats 400000 in
theorem delta_any (n : Int) (w : World) :
    Calls Try.prog 116 #[.int .i64 n] w fun e w' => e = .returned (.int .i64 (dlt n)) ∧ w' = w := by
  go_enter Try.func116, Try.ntmps116
  go_wp2
  all_goals
    go_ret
    refine ⟨ret_int ?_, rfl⟩
    first
      | exact dlt_zero ‹_›
      | (rw [dlt_ne ‹_›]; repeat' split
         all_goals omega)

set_option maxHeartbeats 400000 in
theorem deltaFault_any (n : Int) (w : World) :
    Calls Try.prog 112 #[.int .i64 n] w fun e w' => e = .returned (.int .i64 (dlt n)) ∧ w' = w := by
  go_enter Try.func112, Try.ntmps112
  go_wp2
  all_goals
    go_ret
    refine ⟨ret_int ?_, rfl⟩
    first
      | exact dlt_zero ‹_›
      | (rw [dlt_ne ‹_›]; repeat' split
         all_goals omega)

set_option maxHeartbeats 400000 in
theorem low_any (v o i : Int) (w : World) (hv : 0 ≤ v) (hv' : v ≤ 1000) (ho : 0 ≤ o) (ho' : o ≤ 1000) :
    Calls Try.prog 118 #[.agg #[.int .i64 v, .int .i64 o, .int .i64 i]] w fun e w' => e = .returned (.int .i64 (v - o)) ∧ Below w.heap.size w w' := by
  go_enter Try.func118, Try.ntmps118
  go_wp2
  go_ret
  exact ⟨rfl, by go_grown⟩

set_option maxHeartbeats 400000 in
theorem high_any (v o i : Int) (w : World) (hv : 0 ≤ v) (hv' : v ≤ 1000) (hi : 0 ≤ i) (hi' : i ≤ 1000) :
    Calls Try.prog 119 #[.agg #[.int .i64 v, .int .i64 o, .int .i64 i]] w fun e w' => e = .returned (.int .i64 (v + i)) ∧ Below w.heap.size w w' := by
  go_enter Try.func119, Try.ntmps119
  go_wp2
  go_ret
  exact ⟨rfl, by go_grown⟩

/-- checkBoth's code. -/
def both (v o i n : Int) : Int := if chk v o i = 0 then dlt n else chk v o i

set_option maxHeartbeats 400000 in
theorem both_any (v o i n : Int) (w : World) :
    Calls Try.prog 115 #[.agg #[.int .i64 v, .int .i64 o, .int .i64 i], .int .i64 n] w fun e w' => e = .returned (.int .i64 (both v o i n)) ∧ Below w.heap.size w w' := by
  by_cases hc : chk v o i = 0
  · have hb : both v o i n = dlt n := by unfold both; rw [if_pos hc]
    rw [hb]
    have hx : (chk v o i != 0) = false := by simp [hc]
    clear hb hc
    go_enter Try.func115, Try.ntmps115
    go_wp2_with (first | (go_at_call 89; refine (check_any _ _ _ _).mono ?_; rintro e w1 ⟨rfl, hb1⟩) | (go_at_call 116; refine (delta_any _ _).mono ?_; rintro e w' ⟨rfl, rfl⟩))
    go_ret
    exact ⟨rfl, ((Below.refl _ _).alloc (Nat.le_refl _) _).trans (hb1.mono (by simp))⟩
  · have hb : both v o i n = chk v o i := by unfold both; rw [if_neg hc]
    rw [hb]
    have hx : (chk v o i != 0) = true := by simpa using hc
    clear hb hc
    go_enter Try.func115, Try.ntmps115
    go_wp2_with (first | (go_at_call 89; refine (check_any _ _ _ _).mono ?_; rintro e w1 ⟨rfl, hb1⟩))
    go_ret
    exact ⟨rfl, ((Below.refl _ _).alloc (Nat.le_refl _) _).trans (hb1.mono (by simp))⟩

end Go.Proofs.Ytbgnajcmhmpjlab

/- The plain mathematics of package plan: what its functions answer, as functions on integers and lists of them. No program is named here. -/
namespace Go.Proofs.Ytbgnajcmhmpjlab
open Go.RowKit

/-- Shop's answer. -/
def shp (c : Int) : Int := if c < 0 then -1 else if 6 ≤ c then -1 else c / 2
/-- Want's code. -/
def wnt (c d : Int) : Int := if shp c < 0 then 1 else dlt d

theorem shp_neg {c : Int} : shp c < 0 ↔ (c < 0 ∨ 6 ≤ c) := by
  unfold shp
  repeat' split
  all_goals omega
theorem shp_eq {c : Int} (h0 : 0 ≤ c) (h1 : c < 6) : shp c = c / 2 := by
  unfold shp
  rw [if_neg (by omega), if_neg (by omega)]
theorem shp_lt (c : Int) : shp c < 3 := by
  unfold shp
  repeat' split
  all_goals omega
theorem wnt_ok {c d : Int} (h : wnt c d = 0) : 0 ≤ c ∧ c < 6 ∧ dlt d = 0 := by
  unfold wnt at h
  split at h
  · omega
  · rename_i k
    rw [shp_neg] at k
    exact ⟨by omega, by omega, h⟩
theorem wnt_of {c d : Int} (h0 : 0 ≤ c) (h1 : c < 6) (h : dlt d = 0) : wnt c d = 0 := by
  unfold wnt
  rw [if_neg (by rw [shp_neg]; omega), h]

/-- Check, want by want: p are those ahead. -/
def scanW (p : List (Int × Int)) : List (Int × Int) → Int × Int
  | [] => (0, 0)
  | x :: r => if wnt x.1 x.2 = 0 then (if p.any (fun y => y.1 == x.1) = true then (4, (p.length : Int)) else scanW (p ++ [x]) r) else (wnt x.1 x.2, (p.length : Int))
def chkW (l : List (Int × Int)) : Int × Int := if l.length = 0 then (2, -1) else if 4 < l.length then (3, -1) else scanW [] l

/-- A counter's value and so much more: the value and the code. -/
def morV (v d : Int) : Int := if v < 0 then 0 else if 100 < v then 0 else if v + d < 0 then 0 else if 100 < v + d then 0 else v + d
def morC (v d : Int) : Int := if v < 0 then 1 else if 100 < v then 1 else if v + d < 0 then 5 else if 100 < v + d then 6 else 0
/-- A world with one counter changed. -/
def upd (ws : Nat → Int) (k : Nat) (v : Int) : Nat → Int := fun j => if j = k then v else ws j
def noW : Nat → Int := fun _ => 0
/-- Apply, want by want, from the i-th on: the world, the fault's code and its place. -/
def runW (ws : Nat → Int) (i : Nat) : List (Int × Int) → (Nat → Int) × Int × Int
  | [] => (ws, 0, 0)
  | x :: r => if morC (ws x.1.toNat) x.2 = 0 then runW (upd ws x.1.toNat (morV (ws x.1.toNat) x.2)) (i + 1) r else (noW, morC (ws x.1.toNat) x.2, (i : Int))
def appW (ws : Nat → Int) (l : List (Int × Int)) : (Nat → Int) × Int × Int := if (chkW l).1 = 0 then runW ws 0 l else (noW, (chkW l).1, (chkW l).2)

theorem drop_cons {α : Type} {l : List α} {k : Nat} {x : α} (h : l[k]? = some x) : l.drop k = x :: l.drop (k + 1) := by
  obtain ⟨hk, rfl⟩ := List.getElem?_eq_some_iff.1 h
  exact List.drop_eq_getElem_cons hk
theorem take_snoc {α : Type} {l : List α} {k : Nat} {x : α} (h : l[k]? = some x) : l.take (k + 1) = l.take k ++ [x] := by
  obtain ⟨hk, rfl⟩ := List.getElem?_eq_some_iff.1 h
  exact (List.take_append_getElem hk).symm

/-- One round of Check. -/
theorem scan_bad {l : List (Int × Int)} {k : Nat} {c d : Int} (h : l[k]? = some (c, d)) (hw : wnt c d ≠ 0) : scanW (l.take k) (l.drop k) = (wnt c d, (k : Int)) := by
  have hk := (List.getElem?_eq_some_iff.1 h).1
  rw [drop_cons h, scanW, if_neg hw, List.length_take, Nat.min_eq_left (by omega)]
theorem scan_twice {l : List (Int × Int)} {k : Nat} {c d : Int} (h : l[k]? = some (c, d)) (hw : wnt c d = 0) (ht : (l.take k).any (fun y => y.1 == c) = true) : scanW (l.take k) (l.drop k) = (4, (k : Int)) := by
  have hk := (List.getElem?_eq_some_iff.1 h).1
  rw [drop_cons h, scanW, if_pos hw, if_pos ht, List.length_take, Nat.min_eq_left (by omega)]
theorem scan_next {l : List (Int × Int)} {k : Nat} {c d : Int} (h : l[k]? = some (c, d)) (hw : wnt c d = 0) (ht : (l.take k).any (fun y => y.1 == c) = false) : scanW (l.take k) (l.drop k) = scanW (l.take (k + 1)) (l.drop (k + 1)) := by
  rw [drop_cons h, scanW, if_pos hw, if_neg (by rw [ht]; decide), take_snoc h]
theorem any_next {l : List (Int × Int)} {k : Nat} {c d : Int} (h : l[k]? = some (c, d)) (j : Int) : (l.take (k + 1)).any (fun y => y.1 == j) = ((l.take k).any (fun y => y.1 == j) || c == j) := by
  rw [take_snoc h]; simp

/-- What Check has no fault of: each want may be, and no counter stands twice. -/
theorem scan_ok {l : List (Int × Int)} : ∀ {p : List (Int × Int)}, (scanW p l).1 = 0 → (∀ x ∈ l, wnt x.1 x.2 = 0) ∧ l.Pairwise (fun x y => x.1 ≠ y.1) ∧ (∀ x ∈ p, ∀ y ∈ l, x.1 ≠ y.1) := by
  induction l with
  | nil => intro p _; exact ⟨by simp, .nil, by simp⟩
  | cons x r ih =>
    intro p h
    rw [scanW] at h
    split at h
    · rename_i hw
      split at h
      · simp at h
      · rename_i ha
        obtain ⟨i1, i2, i3⟩ := ih h
        have ha' : ∀ y ∈ p, y.1 ≠ x.1 := fun y hy e => ha (List.any_eq_true.2 ⟨y, hy, by simp [e]⟩)
        refine ⟨?_, ?_, ?_⟩
        · intro y hy
          rcases List.mem_cons.1 hy with rfl | hy
          · exact hw
          · exact i1 y hy
        · exact List.Pairwise.cons (fun y hy => i3 x (by simp) y hy) i2
        · intro z hz y hy
          rcases List.mem_cons.1 hy with rfl | hy
          · exact ha' z hz
          · exact i3 z (by simp [hz]) y hy
    · rename_i hw
      exact absurd h hw
theorem ok_scan {l : List (Int × Int)} : ∀ {p : List (Int × Int)}, (∀ x ∈ l, wnt x.1 x.2 = 0) → l.Pairwise (fun x y => x.1 ≠ y.1) → (∀ x ∈ p, ∀ y ∈ l, x.1 ≠ y.1) → scanW p l = (0, 0) := by
  induction l with
  | nil => intro p _ _ _; rfl
  | cons x r ih =>
    intro p h1 h2 h3
    rw [scanW, if_pos (h1 x (by simp)), if_neg, ih (fun y hy => h1 y (by simp [hy])) (List.pairwise_cons.1 h2).2]
    · intro z hz y hy
      rcases List.mem_append.1 hz with hz | hz
      · exact h3 z hz y (by simp [hy])
      · rw [List.mem_singleton.1 hz]
        exact (List.pairwise_cons.1 h2).1 y hy
    · intro ha
      obtain ⟨y, hy, e⟩ := List.any_eq_true.1 ha
      exact h3 y hy x (by simp) (by simpa using e)
/-- The wants of a deal that may be. -/
structure Fit (l : List (Int × Int)) : Prop where
  pos : 0 < l.length
  few : l.length ≤ 4
  each : ∀ x ∈ l, wnt x.1 x.2 = 0
  apart : l.Pairwise (fun x y => x.1 ≠ y.1)
theorem fit_iff {l : List (Int × Int)} : (chkW l).1 = 0 ↔ Fit l := by
  constructor
  · intro h
    unfold chkW at h
    split at h
    · simp at h
    · split at h
      · simp at h
      · obtain ⟨a, b, _⟩ := scan_ok h
        exact ⟨by omega, by omega, a, b⟩
  · intro h
    unfold chkW
    have := h.pos
    have := h.few
    rw [if_neg (by omega), if_neg (by omega), ok_scan h.each h.apart (by simp)]
theorem Fit.none {l : List (Int × Int)} (h : Fit l) : chkW l = (0, 0) := by
  unfold chkW
  have := h.pos
  have := h.few
  rw [if_neg (by omega), if_neg (by omega), ok_scan h.each h.apart (by simp)]
theorem Fit.at {l : List (Int × Int)} (h : Fit l) {k : Nat} {c d : Int} (hk : l[k]? = some (c, d)) : 0 ≤ c ∧ c < 6 ∧ d ≠ 0 ∧ -100 ≤ d ∧ d ≤ 100 := by
  obtain ⟨a, b, e⟩ := wnt_ok (h.each (c, d) (List.mem_of_getElem? hk))
  obtain ⟨e1, e2, e3⟩ := dlt_ok e
  exact ⟨a, b, e1, e2, e3⟩

/-- One round of Apply. -/
theorem run_bad {l : List (Int × Int)} {k : Nat} {ws : Nat → Int} {n : Nat} {d : Int} (h : l[k]? = some ((n : Int), d)) (hw : morC (ws n) d ≠ 0) : runW ws k (l.drop k) = (noW, morC (ws n) d, (k : Int)) := by
  rw [drop_cons h, runW]
  exact if_neg hw
theorem run_next {l : List (Int × Int)} {k : Nat} {ws : Nat → Int} {n : Nat} {d : Int} (h : l[k]? = some ((n : Int), d)) (hw : morC (ws n) d = 0) : runW ws k (l.drop k) = runW (upd ws n (morV (ws n) d)) (k + 1) (l.drop (k + 1)) := by
  rw [drop_cons h, runW]
  exact if_pos hw

/-- A list of wants as memory holds it: two numbers each. -/
def WantsAt (w : World) (la : Option Addr) (l : List (Int × Int)) : Prop := ∀ k c d, l[k]? = some (c, d) → ∃ b off, la = some ⟨b, off, none⟩ ∧ b < w.heap.size ∧ w.cell? ⟨b, off + k * 2, none⟩ = some (.int .i64 c) ∧ w.cell? ⟨b, off + k * 2 + 1, none⟩ = some (.int .i64 d)

theorem WantsAt.below {w w' : World} {B : Nat} {la : Option Addr} {l : List (Int × Int)} (h : WantsAt w la l) (hb : Below B w w') (hB : w.heap.size ≤ B) : WantsAt w' la l := by
  intro k c d hk
  obtain ⟨b, off, e, hlt, h0, h1⟩ := h k c d hk
  have hb' : b < B := by omega
  refine ⟨b, off, e, ?_, (hb.cell (p := ⟨b, off + k * 2, none⟩) hb').trans h0, (hb.cell (p := ⟨b, off + k * 2 + 1, none⟩) hb').trans h1⟩
  have := hb.size
  omega

end Go.Proofs.Ytbgnajcmhmpjlab

/- The contracts of package plan's small functions and of the document's own: Shop, Want, more, ShopOf, WantFault, F. -/
namespace Go.Proofs.Ytbgnajcmhmpjlab
open Go.RowKit

set_option maxHeartbeats 400000 in
theorem shop_any (n : Int) (w : World) :
    Calls Try.prog 59 #[.int .i64 n] w fun e w' => e = .returned (.int .i64 (shp n)) ∧ w' = w := by
  go_enter Try.func59, Try.ntmps59
  go_wp2
  all_goals
    go_ret
    refine ⟨ret_int ?_, rfl⟩
    unfold shp
    repeat' split
    all_goals omega

set_option maxHeartbeats 400000 in
theorem fF_any (c a : Int) (w : World) :
    Calls Try.prog 63 #[.int .i64 c, .int .i64 a] w fun e w' => e = .returned (.agg #[.int .i64 c, .int .i64 a]) ∧ Below w.heap.size w w' := by
  go_enter Try.func63, Try.ntmps63
  go_wp2
  exact bodyPost_ret (v := .agg #[.int .i64 _, .int .i64 _]) (by simp [results, Try.results63, go_sem]) rfl ⟨rfl, by go_grown⟩

set_option maxHeartbeats 400000 in
theorem want_any (c d : Int) (w : World) :
    Calls Try.prog 109 #[.agg #[.int .i64 c, .int .i64 d]] w fun e w' => e = .returned (.int .i64 (wnt c d)) ∧ Below w.heap.size w w' := by
  by_cases h : shp c < 0
  · have e1 : wnt c d = 1 := by unfold wnt; rw [if_pos h]
    rw [e1]
    go_enter Try.func109, Try.ntmps109
    go_wp2_with fail
    refine (shop_any _ _).mono ?_
    rintro e w' ⟨rfl, rfl⟩
    go_wp2_with fail
    go_ret
    exact ⟨rfl, by go_grown⟩
  · have e1 : wnt c d = dlt d := by unfold wnt; rw [if_neg h]
    have h' : 0 ≤ shp c := by omega
    rw [e1]
    clear e1 h
    go_enter Try.func109, Try.ntmps109
    go_wp2_with fail
    refine (shop_any _ _).mono ?_
    rintro e w' ⟨rfl, rfl⟩
    go_wp2_with fail
    refine (delta_any _ _).mono ?_
    rintro e w' ⟨rfl, rfl⟩
    go_wp2_with fail
    go_ret
    exact ⟨rfl, by go_grown⟩

end Go.Proofs.Ytbgnajcmhmpjlab

/- The contract of plan.Check. -/
namespace Go.Proofs.Ytbgnajcmhmpjlab
open Go.RowKit

/-- Check's memory at a loop's head: its answer's two cells, and which counters were wanted. -/
structure CSt (B : Nat) (w : World) (s : Int → Bool) (wr : World) : Prop where
  c0 : wr.cell? ⟨B, 0, none⟩ = some (.int .i64 0)
  c1 : wr.cell? ⟨B, 1, none⟩ = some (.int .i64 0)
  f0 : ∀ k, wr.frozen? ⟨B, k, none⟩ = false
  row : ∀ j : Nat, j < 6 → wr.cell? ⟨B + 1, j, none⟩ = some (.bool (s j))
  f1 : ∀ k, wr.frozen? ⟨B + 1, k, none⟩ = false
  below : Below B w wr
  lt : B + 1 < wr.heap.size

theorem CSt.next {B : Nat} {w wr wx : World} {s : Int → Bool} (h : CSt B w s wr) (hb : Below wr.heap.size wr wx) : CSt B w s wx := by
  have hlt := h.lt
  refine ⟨((bcell hb).1 _ _ (by omega)).trans h.c0, ((bcell hb).1 _ _ (by omega)).trans h.c1, loose B hb (by omega) h.f0, fun j hj => ((bcell hb).1 _ _ h.lt).trans (h.row j hj), loose (B + 1) hb h.lt h.f1, after h.below hb (by omega), ?_⟩
  have := hb.size
  omega

theorem CSt.set {B : Nat} {w wr : World} {s : Int → Bool} (h : CSt B w s wr) (n : Nat) (hn : n < 6) : CSt B w (fun j => s j || (n : Int) == j) (wr.setCell ⟨B + 1, n, none⟩ (.bool true)) := by
  have ho : ∀ o, (wr.setCell ⟨B + 1, n, none⟩ (.bool true)).cell? ⟨B, o, none⟩ = wr.cell? ⟨B, o, none⟩ := fun o => World.cell?_setCell_other _ _ _ _ (by intro e; simp only [Addr.mk.injEq] at e; omega)
  refine ⟨(ho 0).trans h.c0, (ho 1).trans h.c1, by simpa [go_sem] using h.f0, ?_, by simpa [go_sem] using h.f1, h.below.setCell (by simp) _, by simpa using h.lt⟩
  intro j hj
  by_cases e : j = n
  · subst e
    rw [World.cell?_setCell_same _ _ _ (h.row j hj)]
    simp
  · rw [World.cell?_setCell_other _ _ _ _ (by intro e'; simp only [Addr.mk.injEq] at e'; omega), h.row j hj]
    have : ((n : Int) == (j : Int)) = false := by simp; omega
    rw [this, Bool.or_false]

theorem CSt.answer {B : Nat} {w wr : World} {s : Int → Bool} (h : CSt B w s wr) (x y : Value) : Below B w ((wr.setCell ⟨B, 0, none⟩ x).setCell ⟨B, 1, none⟩ y) := (h.below.setCell (Nat.le_refl _) _).setCell (Nat.le_refl _) _

set_option maxHeartbeats 2000000 in
theorem pcheck_any (la : Option Addr) (ll lc : Nat) (l : List (Int × Int)) (w : World) (hl : WantsAt w la l) (hll : l.length = ll) :
    Calls Try.prog 94 #[.slice la ll lc] w fun e w' => e = .returned (.agg #[.int .i64 (chkW l).1, .int .i64 (chkW l).2]) ∧ Below w.heap.size w w' := by
  by_cases h0 : ll = 0
  · have e1 : chkW l = (2, -1) := by unfold chkW; rw [if_pos (by omega)]
    rw [e1]
    have k0 : ((ll : Int) == 0) = true := by simp [h0]
    clear hl e1 hll h0
    go_enter Try.func94, Try.ntmps94
    go_wp2_with fail
    exact bodyPost_ret (v := .agg #[.int .i64 _, .int .i64 _]) (by simp [results, Try.results94, go_sem]) rfl ⟨rfl, by go_grown⟩
  have k0 : ((ll : Int) == 0) = false := by simpa using h0
  by_cases h1 : 4 < ll
  · have e1 : chkW l = (3, -1) := by unfold chkW; rw [if_neg (by omega), if_pos (by omega)]
    rw [e1]
    have k1 : (4 : Int) < (ll : Int) := by omega
    clear hl e1 hll h0
    go_enter Try.func94, Try.ntmps94
    go_wp2_with fail
    exact bodyPost_ret (v := .agg #[.int .i64 _, .int .i64 _]) (by simp [results, Try.results94, go_sem]) rfl ⟨rfl, by go_grown⟩
  have e1 : chkW l = scanW (l.take 0) (l.drop 0) := by unfold chkW; rw [if_neg (by omega), if_neg (by omega)]; simp
  rw [e1]
  have k1 : (ll : Int) ≤ 4 := by omega
  clear e1 h0
  go_enter Try.func94, Try.ntmps94
  go_wp2_with fail
  go_loopg [19] ll (fun g i wr => ∃ k : Nat, k ≤ ll ∧ g = ll - k ∧ i = .int .i64 k ∧ Hid (scanW (l.take 0) (l.drop 0) = scanW (l.take k) (l.drop k)) ∧ CSt w.heap.size w (fun j => (l.take k).any (fun y => y.1 == j)) wr)
  case atStart =>
    refine ⟨0, Nat.zero_le _, rfl, rfl, rfl, ?_⟩
    refine ⟨by simp [go_sem], by simp [go_sem], by simp [go_sem], ?_, by simp [go_sem], by go_grown, by simp⟩
    intro j hj
    have : j = 0 ∨ j = 1 ∨ j = 2 ∨ j = 3 ∨ j = 4 ∨ j = 5 := by omega
    rcases this with rfl | rfl | rfl | rfl | rfl | rfl <;> simp [go_sem]
  case round =>
    obtain ⟨k, hk, rfl, rfl, HE, hS⟩ := hrel
    by_cases hlt : k < ll
    · obtain ⟨⟨c, d⟩, hkl⟩ : ∃ x, l[k]? = some x := ⟨_, List.getElem?_eq_getElem (by omega)⟩
      obtain ⟨bl, ol, rfl, hbl, hcl, hdl⟩ := hl k c d hkl
      have j0 : (0 : Int) ≤ (k : Int) := by omega
      have j1 : (k : Int) < (ll : Int) := by omega
      have hcl' : wr.cell? ⟨bl, ol + k * 2, none⟩ = some (.int .i64 c) := (hS.below.cell (p := ⟨bl, ol + k * 2, none⟩) hbl).trans hcl
      have hdl' : wr.cell? ⟨bl, ol + k * 2 + 1, none⟩ = some (.int .i64 d) := (hS.below.cell (p := ⟨bl, ol + k * 2 + 1, none⟩) hbl).trans hdl
      clear hcl hdl hl
      go_wp2_with fail
      refine (want_any _ _ _).mono ?_
      rintro e w1 ⟨rfl, hb1⟩
      have hS1 : CSt w.heap.size w (fun j => (l.take k).any (fun y => y.1 == j)) w1 := (hS.next ((Below.refl _ _).alloc (Nat.le_refl _) _)).next hb1
      have p0 : w1.cell? ⟨wr.heap.size, 0, none⟩ = some (.int .i64 c) := ((bcell hb1).1 _ _ (by simp)).trans (by simp [go_sem])
      have p1 : w1.cell? ⟨wr.heap.size, 1, none⟩ = some (.int .i64 d) := ((bcell hb1).1 _ _ (by simp)).trans (by simp [go_sem])
      have hz1 : wr.heap.size < w1.heap.size := by have := hb1.size; simp at this; omega
      clear hb1 hS hcl' hdl'
      have r0 := hS1.c0
      have r1 := hS1.c1
      have rf := hS1.f0
      have hlt1 := hS1.lt
      by_cases hw : wnt c d = 0
      · have hw' : (wnt c d != 0) = false := by simp [hw]
        obtain ⟨q0, q1, q2⟩ := wnt_ok hw
        obtain ⟨n, rfl⟩ := Int.eq_ofNat_of_zero_le q0
        have hn : n < 6 := by omega
        have rn := hS1.row n hn
        have fn := hS1.f1
        have HW : Hid _ := hw
        clear hw q2
        by_cases ht : (l.take k).any (fun y => y.1 == (n : Int)) = true
        · have HE2 : Hid _ := HE.out.trans (scan_twice hkl HW.out ht)
          simp only [ht] at rn
          clear ht HE
          go_wp2_with fail
          exact bodyPost_ret (v := .agg #[.int .i64 4, .int .i64 k]) (by simp [results, Try.results94, go_sem, r0, r1]) rfl ⟨by rw [HE2.out], hS1.answer _ _⟩
        · have ht' : (l.take k).any (fun y => y.1 == (n : Int)) = false := Bool.eq_false_iff.2 ht
          have HE2 : Hid _ := HE.out.trans (scan_next hkl HW.out ht')
          simp only [ht'] at rn
          clear ht ht'
          go_wp2_with fail
          go_roundg (ll - (k + 1))
          case measure => omega
          case rel =>
            refine ⟨k + 1, by omega, rfl, by simp, HE2, ?_⟩
            have q := hS1.set n hn
            refine ⟨q.c0, q.c1, q.f0, fun j hj => ?_, q.f1, q.below, q.lt⟩
            rw [any_next hkl]
            exact q.row j hj
      · have HE2 : Hid _ := HE.out.trans (scan_bad hkl hw)
        have hw' : (wnt c d != 0) = true := by simpa using hw
        clear hw HE
        go_wp2_with fail
        exact bodyPost_ret (v := .agg #[.int .i64 (wnt c d), .int .i64 k]) (by simp [results, Try.results94, go_sem, r0, r1]) rfl ⟨by rw [HE2.out], hS1.answer _ _⟩
    · have hkk : k = ll := by omega
      subst hkk
      have r0 := hS.c0
      have r1 := hS.c1
      have rf := hS.f0
      have hlt1 := hS.lt
      have hb := hS.below
      go_wp2_with fail
      exact bodyPost_ret (v := .agg #[.int .i64 0, .int .i64 0]) (by simp [results, Try.results94, go_sem, r0, r1]) rfl ⟨by rw [HE.out, List.drop_of_length_le (l := l) (by omega), scanW], hS.answer _ _⟩

end Go.Proofs.Ytbgnajcmhmpjlab

/- The contracts of ShopOf and WantFault. -/
namespace Go.Proofs.Ytbgnajcmhmpjlab
open Go.RowKit

theorem bdrewN {B : Nat} {a w : World} (h : Below B a w) (n : Nat) : Below B a (w.drewN n) := ⟨h.os, h.tape, h.output, h.size, h.block⟩
theorem ret_bool {a b : Bool} (h : a = b) : Ending.returned (.bool a) = .returned (.bool b) := by rw [h]

theorem shp_hit (n : Int) (s m : Nat) (hs : s < 3) (hm : m < 2) (h : n = (s : Int) * 2 + m) : (s : Int) = shp n := by
  rw [shp_eq (by omega) (by omega)]; omega

set_option maxHeartbeats 1000000 in
theorem shopOf_any (n : Int) (w : World) :
    Calls Try.prog 83 #[.int .i64 n] w fun e w' => e = .returned (.int .i64 (shp n)) ∧ w' = w := by
  go_enter Try.func83, Try.ntmps83
  go_wp2_with fail
  go_loopg [3] 3 (fun g s wr => ∃ k : Nat, k ≤ 3 ∧ g = 3 - k ∧ s = .int .i64 k ∧ Hid (n < 0 ∨ (k : Int) * 2 ≤ n) ∧ w = wr)
  case atStart => exact ⟨0, by omega, rfl, rfl, (by show _ ∨ _; omega), rfl⟩
  case round =>
    obtain ⟨k, hk, rfl, rfl, HN, rfl⟩ := hrel
    by_cases hlt : k < 3
    · have j0 : (k : Int) < 3 := by omega
      have j1 : (0 : Int) ≤ (k : Int) := by omega
      go_wp2_with fail
      go_loopg [4] 2 (fun g s wr => ∃ m : Nat, m ≤ 2 ∧ g = 2 - m ∧ s = .int .i64 m ∧ Hid (n < 0 ∨ (k : Int) * 2 + m ≤ n) ∧ w = wr)
      case atStart => exact ⟨0, by omega, rfl, rfl, (by show _ ∨ _; have := HN.out; omega), rfl⟩
      case round =>
        obtain ⟨m, hm, rfl, rfl, HM, rfl⟩ := hrel
        by_cases hlt2 : m < 2
        · have i0 : (m : Int) < 2 := by omega
          have i1 : (0 : Int) ≤ (m : Int) := by omega
          by_cases he : n = (k : Int) * 2 + m
          · have he' : (n == (k : Int) * 2 + m) = true := by simpa using he
            have HE : Hid _ := he
            clear he
            go_wp2_with fail
            go_ret
            exact ⟨ret_int (shp_hit n k m hlt hlt2 HE.out), rfl⟩
          · have he' : (n == (k : Int) * 2 + m) = false := by simpa using he
            have HE : Hid _ := he
            clear he
            go_wp2_with fail
            go_roundg (2 - (m + 1))
            case measure => omega
            case rel => exact ⟨m + 1, by omega, rfl, by simp, (by show _ ∨ _; have q1 : n < 0 ∨ (k : Int) * 2 + m ≤ n := HM.out; have q2 : ¬ n = (k : Int) * 2 + m := HE.out; omega), rfl⟩
        · have i0 : ¬ (m : Int) < 2 := by omega
          go_wp2_with fail
          go_roundg (3 - (k + 1))
          case measure => omega
          case rel => exact ⟨k + 1, by omega, rfl, by simp, (by show _ ∨ _; have := HM.out; omega), rfl⟩
    · have j0 : ¬ (k : Int) < 3 := by omega
      go_wp2_with fail
      go_ret
      refine ⟨ret_int ?_, rfl⟩
      have := HN.out
      unfold shp
      repeat' split
      all_goals omega

set_option maxHeartbeats 400000 in
theorem wantFault_any (c d : Int) (w : World) :
    Calls Try.prog 98 #[.agg #[.int .i64 c, .int .i64 d]] w fun e w' => e = .returned (.int .i64 (wnt c d)) ∧ Below w.heap.size w w' := by
  by_cases h : shp c < 0
  · have e1 : wnt c d = 1 := by unfold wnt; rw [if_pos h]
    rw [e1]
    go_enter Try.func98, Try.ntmps98
    go_wp2_with fail
    refine (shopOf_any _ _).mono ?_
    rintro e w' ⟨rfl, rfl⟩
    go_wp2_with fail
    go_ret
    exact ⟨rfl, by go_grown⟩
  · have e1 : wnt c d = dlt d := by unfold wnt; rw [if_neg h]
    have h' : 0 ≤ shp c := by omega
    rw [e1]
    clear e1 h
    go_enter Try.func98, Try.ntmps98
    go_wp2_with fail
    refine (shopOf_any _ _).mono ?_
    rintro e w' ⟨rfl, rfl⟩
    go_wp2_with fail
    refine (deltaFault_any _ _).mono ?_
    rintro e w' ⟨rfl, rfl⟩
    go_wp2_with fail
    go_ret
    exact ⟨rfl, by go_grown⟩

end Go.Proofs.Ytbgnajcmhmpjlab

/- The memory of Apply and of Applied at a loop's head. -/
namespace Go.Proofs.Ytbgnajcmhmpjlab
open Go.RowKit

structure PSt (B : Nat) (w : World) (ws : Nat → Int) (wr : World) : Prop where
  row : ∀ j : Nat, j < 6 → wr.cell? ⟨B, j, none⟩ = some (.int .i64 (ws j))
  f0 : ∀ k, wr.frozen? ⟨B, k, none⟩ = false
  zer : ∀ j : Nat, j < 6 → wr.cell? ⟨B + 1, j, none⟩ = some (.int .i64 0)
  f1 : ∀ k, wr.frozen? ⟨B + 1, k, none⟩ = false
  c0 : wr.cell? ⟨B + 2, 0, none⟩ = some (.int .i64 0)
  c1 : wr.cell? ⟨B + 2, 1, none⟩ = some (.int .i64 0)
  f2 : ∀ k, wr.frozen? ⟨B + 2, k, none⟩ = false
  below : Below B w wr
  lt : B + 2 < wr.heap.size

theorem six_cases {j : Nat} (h : j < 6) : j = 0 ∨ j = 1 ∨ j = 2 ∨ j = 3 ∨ j = 4 ∨ j = 5 := by omega

theorem PSt.next {B : Nat} {w wr wx : World} {ws : Nat → Int} (h : PSt B w ws wr) (hb : Below wr.heap.size wr wx) : PSt B w ws wx := by
  have hlt := h.lt
  have hsz := hb.size
  exact ⟨fun j hj => ((bcell hb).1 _ _ (by omega)).trans (h.row j hj), loose B hb (by omega) h.f0, fun j hj => ((bcell hb).1 _ _ (by omega)).trans (h.zer j hj), loose (B + 1) hb (by omega) h.f1, ((bcell hb).1 _ _ (by omega)).trans h.c0, ((bcell hb).1 _ _ (by omega)).trans h.c1, loose (B + 2) hb (by omega) h.f2, after h.below hb (by omega), by omega⟩

theorem PSt.set {B : Nat} {w wr : World} {ws : Nat → Int} (h : PSt B w ws wr) (n : Nat) (hn : n < 6) (v : Int) : PSt B w (upd ws n v) (wr.setCell ⟨B, n, none⟩ (.int .i64 v)) := by
  have ho : ∀ b o, b ≠ B → (wr.setCell ⟨B, n, none⟩ (.int .i64 v)).cell? ⟨b, o, none⟩ = wr.cell? ⟨b, o, none⟩ := fun b o hb => World.cell?_setCell_other _ _ _ _ (by intro e; simp only [Addr.mk.injEq] at e; omega)
  refine ⟨?_, by simpa [go_sem] using h.f0, fun j hj => (ho _ _ (by omega)).trans (h.zer j hj), by simpa [go_sem] using h.f1, (ho _ _ (by omega)).trans h.c0, (ho _ _ (by omega)).trans h.c1, by simpa [go_sem] using h.f2, h.below.setCell (Nat.le_refl _) _, by simpa using h.lt⟩
  intro j hj
  unfold upd
  by_cases e : j = n
  · subst e
    rw [World.cell?_setCell_same _ _ _ (h.row j hj), if_pos rfl]
  · rw [World.cell?_setCell_other _ _ _ _ (by intro e'; simp only [Addr.mk.injEq] at e'; omega), h.row j hj, if_neg e]

theorem PSt.begin (ws : Nat → Int) (w : World) (t1 t2 : Nat) : PSt w.heap.size w ws (((w.alloc (.cells #[.int .i64 (ws 0), .int .i64 (ws 1), .int .i64 (ws 2), .int .i64 (ws 3), .int .i64 (ws 4), .int .i64 (ws 5)] t1)).alloc (.cells #[.int .i64 0, .int .i64 0, .int .i64 0, .int .i64 0, .int .i64 0, .int .i64 0] t1)).alloc (.cells #[.int .i64 0, .int .i64 0] t2)) := by
  refine ⟨?_, by simp [go_sem], ?_, by simp [go_sem], by simp [go_sem], by simp [go_sem], by simp [go_sem], by go_grown, by simp⟩
  · intro j hj
    rcases six_cases hj with rfl | rfl | rfl | rfl | rfl | rfl <;> simp [go_sem]
  · intro j hj
    rcases six_cases hj with rfl | rfl | rfl | rfl | rfl | rfl <;> simp [go_sem]

end Go.Proofs.Ytbgnajcmhmpjlab

/- The contract of plan.Apply. -/
namespace Go.Proofs.Ytbgnajcmhmpjlab
open Go.RowKit

end Go.Proofs.Ytbgnajcmhmpjlab

/- The contracts of SameInts and In. -/
namespace Go.Proofs.Ytbgnajcmhmpjlab
open Go.RowKit

/-- A list of numbers as memory holds it. -/
def NumsAt (w : World) (la : Option Addr) (l : List Int) : Prop := ∀ k c, l[k]? = some c → ∃ b off, la = some ⟨b, off, none⟩ ∧ b < w.heap.size ∧ w.cell? ⟨b, off + k, none⟩ = some (.int .i64 c)

theorem NumsAt.below {w w' : World} {B : Nat} {la : Option Addr} {l : List Int} (h : NumsAt w la l) (hb : Below B w w') (hB : w.heap.size ≤ B) : NumsAt w' la l := by
  intro k c hk
  obtain ⟨b, off, e, hlt, h0⟩ := h k c hk
  have hb' : b < B := by omega
  refine ⟨b, off, e, ?_, (hb.cell (p := ⟨b, off + k, none⟩) hb').trans h0⟩
  have := hb.size
  omega

theorem same_of {l m : List Int} (k : Nat) (h : l.take k = m.take k) {c : Int} (h1 : l[k]? = some c) (h2 : m[k]? = some c) : l.take (k + 1) = m.take (k + 1) := by
  rw [take_snoc h1, take_snoc h2, h]
theorem other_of {l m : List Int} (k : Nat) {c c' : Int} (h1 : l[k]? = some c) (h2 : m[k]? = some c') (h : c ≠ c') : ¬ l = m := by
  intro e
  rw [e, h2] at h1
  exact h (Option.some.inj h1).symm

set_option maxHeartbeats 1000000 in
theorem sameInts_any (la lb : Option Addr) (na nb ca cb : Nat) (l m : List Int) (w : World) (hl : NumsAt w la l) (hm : NumsAt w lb m) (h1 : l.length = na) (h2 : m.length = nb) (hs : na < 2 ^ 62) :
    Calls Try.prog 50 #[.slice la na ca, .slice lb nb cb] w fun e w' => e = .returned (.bool (decide (l = m))) ∧ Below w.heap.size w w' := by
  by_cases hn : na = nb
  · subst hn
    have hnn : ((na : Int) != (na : Int)) = false := by simp
    go_enter Try.func50, Try.ntmps50
    go_wp2_with fail
    go_loopg [5] na (fun g i wr => ∃ k : Nat, k ≤ na ∧ g = na - k ∧ i = .int .i64 k ∧ Hid (l.take k = m.take k) ∧ Below w.heap.size w wr)
    case atStart => exact ⟨0, Nat.zero_le _, rfl, rfl, rfl, Below.refl _ _⟩
    case round =>
      obtain ⟨k, hk, rfl, rfl, HE, hS⟩ := hrel
      by_cases hlt : k < na
      · obtain ⟨c, hc⟩ : ∃ x, l[k]? = some x := ⟨_, List.getElem?_eq_getElem (by omega)⟩
        obtain ⟨c', hc'⟩ : ∃ x, m[k]? = some x := ⟨_, List.getElem?_eq_getElem (by omega)⟩
        obtain ⟨b1, o1, rfl, hb1, hr1⟩ := hl k c hc
        obtain ⟨b2, o2, rfl, hb2, hr2⟩ := hm k c' hc'
        have p1 : wr.cell? ⟨b1, o1 + k, none⟩ = some (.int .i64 c) := (hS.cell (p := ⟨b1, o1 + k, none⟩) hb1).trans hr1
        have p2 : wr.cell? ⟨b2, o2 + k, none⟩ = some (.int .i64 c') := (hS.cell (p := ⟨b2, o2 + k, none⟩) hb2).trans hr2
        have j0 : (0 : Int) ≤ (k : Int) := by omega
        have j1 : (k : Int) < (na : Int) := by omega
        have j2 : (na : Int) < 2 ^ 62 := by omega
        clear hr1 hr2 hl hm
        by_cases he : c = c'
        · subst he
          have he' : (c != c) = false := by simp
          have HE2 : Hid _ := same_of k HE.out hc hc'
          go_wp2_with fail
          go_quiet (fail)
          go_wp2_with fail
          go_roundg (na - (k + 1))
          case measure => omega
          case rel => exact ⟨k + 1, by omega, rfl, by simp, HE2, bdrewN hS _⟩
        · have he' : (c != c') = true := by simpa using he
          have HE2 : Hid _ := other_of k hc hc' he
          clear he
          go_wp2_with fail
          go_quiet (fail)
          go_wp2_with fail
          go_ret
          exact ⟨ret_bool (decide_eq_false HE2.out).symm, bdrewN hS _⟩
      · have hkk : k = na := by omega
        subst hkk
        go_wp2_with fail
        go_ret
        refine ⟨ret_bool ?_, hS⟩
        have q := HE.out
        rw [List.take_of_length_le (by omega), List.take_of_length_le (by omega)] at q
        exact (decide_eq_true q).symm
  · have hnn : ((na : Int) != (nb : Int)) = true := by simp; omega
    have hne : Hid (¬ l = m) := by intro e; rw [e] at h1; omega
    clear hl hm hn
    go_enter Try.func50, Try.ntmps50
    go_wp2_with fail
    go_ret
    exact ⟨ret_bool (decide_eq_false hne.out).symm, Below.refl _ _⟩

set_option maxHeartbeats 1000000 in
theorem in_any (la : Option Addr) (na ca : Nat) (l : List Int) (x : Int) (w : World) (hl : NumsAt w la l) (h1 : l.length = na) (hs : na < 2 ^ 62) :
    Calls Try.prog 58 #[.slice la na ca, .int .i64 x] w fun e w' => e = .returned (.bool (decide (x ∈ l))) ∧ w' = w := by
  go_enter Try.func58, Try.ntmps58
  go_wp2_with fail
  go_loopg [5] na (fun g i wr => ∃ k : Nat, k ≤ na ∧ g = na - k ∧ i = .int .i64 k ∧ Hid (¬ x ∈ l.take k) ∧ w = wr)
  case atStart => exact ⟨0, Nat.zero_le _, rfl, rfl, by simp [Hid], rfl⟩
  case round =>
    obtain ⟨k, hk, rfl, rfl, HE, rfl⟩ := hrel
    by_cases hlt : k < na
    · obtain ⟨c, hc⟩ : ∃ x, l[k]? = some x := ⟨_, List.getElem?_eq_getElem (by omega)⟩
      obtain ⟨b1, o1, rfl, hb1, p1⟩ := hl k c hc
      have j0 : (0 : Int) ≤ (k : Int) := by omega
      have j1 : (k : Int) < (na : Int) := by omega
      have j2 : (na : Int) < 2 ^ 62 := by omega
      clear hl
      by_cases he : c = x
      · have he' : (c == x) = true := by simp [he]
        have HE2 : Hid (x ∈ l) := by rw [← he]; exact List.mem_of_getElem? hc
        clear he
        go_wp2_with fail
        go_ret
        exact ⟨ret_bool (decide_eq_true HE2.out).symm, rfl⟩
      · have he' : (c == x) = false := by simpa using he
        have HE2 : Hid (¬ x ∈ l.take (k + 1)) := by
          show ¬ _
          rw [take_snoc hc, List.mem_append, List.mem_singleton]
          rintro (q | q)
          · exact HE.out q
          · exact he q.symm
        clear he
        go_wp2_with fail
        go_roundg (na - (k + 1))
        case measure => omega
        case rel => exact ⟨k + 1, by omega, rfl, by simp, HE2, rfl⟩
    · have hkk : k = na := by omega
      subst hkk
      go_wp2_with fail
      go_ret
      refine ⟨ret_bool ?_, rfl⟩
      have q := HE.out
      rw [List.take_of_length_le (by omega)] at q
      exact (decide_eq_false q).symm

end Go.Proofs.Ytbgnajcmhmpjlab

/- Rows of a call's own, as lists of numbers and of wants; Shops as a list. -/
namespace Go.Proofs.Ytbgnajcmhmpjlab
open Go.RowKit

theorem grownBelow {a b : World} (h : Below a.heap.size a b) (row : Option Nat) : a.grownBy b row := ⟨h.os, h.tape, h.output, h.size, fun k hk _ => h.block k hk⟩
theorem own_next {w w1 : World} {B e s n : Nat} {v : Value} {xs : List Value} (h : w.ownsRow B e s v n xs) (hb : Below w.heap.size w w1) : w1.ownsRow B e s v n xs := by
  refine h.kept (grownBelow hb none) ?_
  cases v.ownBlock <;> simp
/-- What an append of a row of one's own leaves of what lies below. -/
theorem own_below {a w w1 : World} {B C e s n : Nat} {v : Value} {xs : List Value} (h : w.ownsRow C e s v n xs) (hg : w.grownBy w1 v.ownBlock) (hb : Below B a w) (hB : B ≤ w.heap.size) (hC : B ≤ C) : Below B a w1 :=
  hb.grown hg hB (fun k hk => Nat.le_trans hC (h.lt k hk).1)

theorem nums_of_own {w : World} {B e n : Nat} {v : Value} {l : List Int} (h : w.ownsRow B e 1 v n (l.map (Value.int .i64))) : ∃ ga cap, v = .slice ga n cap ∧ NumsAt w ga l ∧ l.length = n := by
  have hn : l.length = n := by have := h.1; simpa using this
  rcases h.2 with ⟨e1, e0⟩ | ⟨g, cap, cur, e1, hb, hg, hc, hm, hz, ht⟩
  · refine ⟨none, 0, by rw [e1, e0], ?_, hn⟩
    intro k c hk
    have := (List.getElem?_eq_some_iff.1 hk).1
    omega
  · refine ⟨_, cap, e1, fun k c hk => ⟨g, 0, rfl, (Array.getElem?_eq_some_iff.1 hg).1, ?_⟩, hn⟩
    have hk' := (List.getElem?_eq_some_iff.1 hk).1
    have h1 : (cur.toList.take (n * 1))[k]? = (l.map (Value.int .i64))[k]? := by rw [ht]
    rw [Nat.mul_one, List.getElem?_take_of_lt (by omega), List.getElem?_map, hk] at h1
    simp only [World.cell?, hg]
    simpa using h1

/-- A list of wants, cell by cell. -/
def flat (l : List (Int × Int)) : List Value := l.flatMap (fun x => [.int .i64 x.1, .int .i64 x.2])
theorem flat_length (l : List (Int × Int)) : (flat l).length = l.length * 2 := by
  unfold flat
  induction l with
  | nil => rfl
  | cons x r ih => rw [List.flatMap_cons, List.length_append, ih]; simp; omega
theorem flat_at (l : List (Int × Int)) : ∀ k c d, l[k]? = some (c, d) → (flat l)[k * 2]? = some (.int .i64 c) ∧ (flat l)[k * 2 + 1]? = some (.int .i64 d) := by
  unfold flat
  induction l with
  | nil => intro k c d h; simp at h
  | cons x r ih =>
    intro k c d h
    cases k with
    | zero =>
      have : x = (c, d) := by simpa using h
      subst this
      simp
    | succ k =>
      have h' : r[k]? = some (c, d) := by simpa using h
      obtain ⟨a, b⟩ := ih k c d h'
      rw [List.flatMap_cons]
      constructor
      · rw [List.getElem?_append_right (by simp; omega)]
        have : (k + 1) * 2 - [Value.int .i64 x.1, .int .i64 x.2].length = k * 2 := by simp; omega
        rw [this]; exact a
      · rw [List.getElem?_append_right (by simp; omega)]
        have : (k + 1) * 2 + 1 - [Value.int .i64 x.1, .int .i64 x.2].length = k * 2 + 1 := by simp; omega
        rw [this]; exact b
theorem flat_snoc (l : List (Int × Int)) (c d : Int) : flat (l ++ [(c, d)]) = flat l ++ [.int .i64 c, .int .i64 d] := by
  unfold flat; simp
theorem wants_of_own {w : World} {B e n : Nat} {v : Value} {l : List (Int × Int)} (h : w.ownsRow B e 2 v n (flat l)) : ∃ ga cap, v = .slice ga n cap ∧ WantsAt w ga l ∧ l.length = n := by
  have hn : l.length = n := by have := h.1; rw [flat_length] at this; omega
  rcases h.2 with ⟨e1, e0⟩ | ⟨g, cap, cur, e1, hb, hg, hc, hm, hz, ht⟩
  · refine ⟨none, 0, by rw [e1, e0], ?_, hn⟩
    intro k c d hk
    have := (List.getElem?_eq_some_iff.1 hk).1
    omega
  · refine ⟨_, cap, e1, fun k c d hk => ⟨g, 0, rfl, (Array.getElem?_eq_some_iff.1 hg).1, ?_, ?_⟩, hn⟩
    · have hk' := (List.getElem?_eq_some_iff.1 hk).1
      have h1 : (cur.toList.take (n * 2))[k * 2]? = (flat l)[k * 2]? := by rw [ht]
      rw [List.getElem?_take_of_lt (by omega), (flat_at l k c d hk).1] at h1
      simp only [World.cell?, hg]
      simpa using h1
    · have hk' := (List.getElem?_eq_some_iff.1 hk).1
      have h1 : (cur.toList.take (n * 2))[k * 2 + 1]? = (flat l)[k * 2 + 1]? := by rw [ht]
      rw [List.getElem?_take_of_lt (by omega), (flat_at l k c d hk).2] at h1
      simp only [World.cell?, hg]
      simpa using h1

/-- Does a want of l stand in shop s? -/
def stands (l : List (Int × Int)) (s : Int) : Bool := l.any (fun y => shp y.1 == s)
/-- The shops below k that wants of l stand in, rising. -/
def shopsTo (l : List (Int × Int)) (k : Nat) : List Int := ((List.range k).filter (fun s : Nat => stands l (s : Int))).map (fun s => ((s : Nat) : Int))
theorem shopsTo_zero (l : List (Int × Int)) : shopsTo l 0 = [] := rfl
theorem shopsTo_hit {l : List (Int × Int)} {k : Nat} (h : stands l (k : Int) = true) : shopsTo l (k + 1) = shopsTo l k ++ [(k : Int)] := by
  unfold shopsTo
  rw [List.range_succ, List.filter_append, List.map_append]
  simp [h]
theorem shopsTo_miss {l : List (Int × Int)} {k : Nat} (h : stands l (k : Int) = false) : shopsTo l (k + 1) = shopsTo l k := by
  unfold shopsTo
  rw [List.range_succ, List.filter_append, List.map_append]
  simp [h]
theorem shopsTo_length (l : List (Int × Int)) (k : Nat) : (shopsTo l k).length ≤ k := by
  unfold shopsTo
  rw [List.length_map]
  have := List.length_filter_le (fun s => stands l ((s : Nat) : Int)) (List.range k)
  simpa using this
theorem stands_next {l : List (Int × Int)} {k : Nat} {c d : Int} (h : l[k]? = some (c, d)) (s : Int) : stands (l.take (k + 1)) s = (stands (l.take k) s || shp c == s) := by
  unfold stands
  rw [take_snoc h]; simp
/-- Shops' answer. -/
def shopsL (l : List (Int × Int)) : List Int := shopsTo l 3

theorem num_new {w : World} {n : Int} {t : TypeId} (H : Nat) (hH : w.heap.size = H) : ∀ j u, [Value.int .i64 n][j]? = some u → (w.alloc (.cells #[.int .i64 n] t)).cell? ((⟨H, 0, none⟩ : Addr).add j) = some u := by
  subst hH
  intro j u h
  cases j with
  | zero => have e : u = .int .i64 n := by simpa using h.symm
            subst e; simp [go_sem, Addr.add]
  | succ j => simp at h
theorem num_cell {n : Int} : ∀ u ∈ [Value.int .i64 n], u.oneCell' = true := by
  intro u hu
  rw [List.mem_singleton.1 hu]; rfl
theorem want_new {w : World} {c d : Int} {t : TypeId} (H : Nat) (hH : w.heap.size = H) : ∀ j u, [Value.int .i64 c, .int .i64 d][j]? = some u → (w.alloc (.cells #[.int .i64 c, .int .i64 d] t)).cell? ((⟨H, 0, none⟩ : Addr).add j) = some u := by
  subst hH
  intro j u h
  match j, h with
  | 0, h => have e : u = .int .i64 c := by simpa using h.symm
            subst e; simp [go_sem, Addr.add]
  | 1, h => have e : u = .int .i64 d := by simpa using h.symm
            subst e; simp [go_sem, Addr.add]
  | j + 2, h => simp at h
theorem want_cell {c d : Int} : ∀ u ∈ [Value.int .i64 c, .int .i64 d], u.oneCell' = true := by
  intro u hu
  rcases List.mem_cons.1 hu with rfl | hu
  · rfl
  · rw [List.mem_singleton.1 hu]; rfl
theorem infoInt : (Try.prog.info? 3).map (fun i => (i.zero, i.size, i.bytes)) = some (some (.int .i64 0), 1, 8) := by kernel_rfl
theorem infoWant : (Try.prog.info? 69).map (fun i => (i.zero, i.size, i.bytes)) = some (some (.agg #[.int .i64 0, .int .i64 0]), 2, 16) := by kernel_rfl

end Go.Proofs.Ytbgnajcmhmpjlab

/- The contract of plan.Shops. -/
namespace Go.Proofs.Ytbgnajcmhmpjlab
open Go.RowKit

/-- Shops' memory at its first loop's head: which shops are wanted. -/
structure SSt (B : Nat) (w : World) (s : Int → Bool) (wr : World) : Prop where
  row : ∀ j : Nat, j < 3 → wr.cell? ⟨B, j, none⟩ = some (.bool (s j))
  f0 : ∀ k, wr.frozen? ⟨B, k, none⟩ = false
  below : Below B w wr
  lt : B < wr.heap.size

theorem SSt.next {B : Nat} {w wr wx : World} {s : Int → Bool} (h : SSt B w s wr) (hb : Below wr.heap.size wr wx) : SSt B w s wx := by
  have hlt := h.lt
  have := hb.size
  exact ⟨fun j hj => ((bcell hb).1 _ _ h.lt).trans (h.row j hj), loose B hb h.lt h.f0, after h.below hb (by omega), by omega⟩

theorem SSt.set {B : Nat} {w wr : World} {s : Int → Bool} (h : SSt B w s wr) (n : Nat) : SSt B w (fun j => s j || (n : Int) == j) (wr.setCell ⟨B, n, none⟩ (.bool true)) := by
  refine ⟨?_, by simpa [go_sem] using h.f0, h.below.setCell (by simp) _, by simpa using h.lt⟩
  intro j hj
  by_cases e : j = n
  · subst e
    rw [World.cell?_setCell_same _ _ _ (h.row j hj)]
    simp
  · rw [World.cell?_setCell_other _ _ _ _ (by intro e'; simp only [Addr.mk.injEq] at e'; omega), h.row j hj]
    have : ((n : Int) == (j : Int)) = false := by simp; omega
    rw [this, Bool.or_false]

theorem idx3 (b0 b1 b2 : Bool) (W : World) : (Instr.index 138 (.agg #[.bool b0, .bool b1, .bool b2]) (.int .i64 0)).run Try.prog W = .ok (.bool b0) W ∧ (Instr.index 138 (.agg #[.bool b0, .bool b1, .bool b2]) (.int .i64 1)).run Try.prog W = .ok (.bool b1) W ∧ (Instr.index 138 (.agg #[.bool b0, .bool b1, .bool b2]) (.int .i64 2)).run Try.prog W = .ok (.bool b2) W := by
  refine ⟨?_, ?_, ?_⟩ <;> simp [Instr.index, run_underlying Try.underlying138, asIntOf, go_sem]

set_option maxRecDepth 100000 in
set_option maxHeartbeats 2000000 in
theorem shops_any (la : Option Addr) (ll lc : Nat) (l : List (Int × Int)) (w : World) (hl : WantsAt w la l) (hll : l.length = ll) (hs : ll < 2 ^ 62) :
    Calls Try.prog 60 #[.slice la ll lc] w fun e w' => (∃ ga cap, e = .returned (.slice ga (shopsL l).length cap) ∧ NumsAt w' ga (shopsL l)) ∧ Below w.heap.size w w' := by
  obtain ⟨i0, hi, hz0, hz1, hz2⟩ := info_parts infoInt
  go_enter Try.func60, Try.ntmps60
  go_wp2_with fail
  go_loopg [12] ll (fun g i wr => ∃ k : Nat, k ≤ ll ∧ g = ll - k ∧ i = .int .i64 k ∧ SSt w.heap.size w (stands (l.take k)) wr)
  case atStart =>
    refine ⟨0, Nat.zero_le _, rfl, rfl, ?_, by simp [go_sem], by go_grown, by simp⟩
    intro j hj
    have : j = 0 ∨ j = 1 ∨ j = 2 := by omega
    rcases this with rfl | rfl | rfl <;> simp [go_sem, stands]
  case round =>
    obtain ⟨k, hk, rfl, rfl, hS⟩ := hrel
    have hlt0 := hS.lt
    by_cases hlt : k < ll
    · obtain ⟨⟨c, d⟩, hkl⟩ : ∃ x, l[k]? = some x := ⟨_, List.getElem?_eq_getElem (by omega)⟩
      obtain ⟨bl, ol, rfl, hbl, hcl, hdl⟩ := hl k c d hkl
      have j0 : (0 : Int) ≤ (k : Int) := by omega
      have j1 : (k : Int) < (ll : Int) := by omega
      have j2 : (ll : Int) < 2 ^ 62 := by omega
      have hcl' : wr.cell? ⟨bl, ol + k * 2, none⟩ = some (.int .i64 c) := (hS.below.cell (p := ⟨bl, ol + k * 2, none⟩) hbl).trans hcl
      have hdl' : wr.cell? ⟨bl, ol + k * 2 + 1, none⟩ = some (.int .i64 d) := (hS.below.cell (p := ⟨bl, ol + k * 2 + 1, none⟩) hbl).trans hdl
      clear hcl hdl hl
      by_cases hc : shp c < 0
      · have hcm : shp c = -1 := by unfold shp at hc ⊢; repeat' split
                                    all_goals first | rfl | (exfalso; revert hc; repeat' split
                                                             all_goals omega)
        have HCM : Hid _ := hcm
        clear hcm
        have hcq : ∀ j : Nat, ¬ shp c = (j : Int) := fun j => by omega
        have HQ : Hid (∀ j : Nat, stands (l.take (k + 1)) (j : Int) = stands (l.take k) (j : Int)) := by
          intro j
          rw [stands_next hkl]
          have : (shp c == (j : Int)) = false := by simpa using hcq j
          rw [this, Bool.or_false]
        clear hcq hc
        go_wp2_with fail
        refine (shop_any _ _).mono ?_
        rw [HCM.out]
        rintro e w' ⟨rfl, rfl⟩

        go_wp2_with fail
        go_roundg (ll - (k + 1))
        case measure => omega
        case rel =>
          have hS2 := hS.next ((Below.refl _ _).alloc (Nat.le_refl _) (.cells #[.int .i64 c, .int .i64 d] 69))
          exact ⟨k + 1, by omega, rfl, by simp, fun j hj => by rw [HQ.out]; exact hS2.row j hj, hS2.f0, hS2.below, hS2.lt⟩
      · obtain ⟨n, hn⟩ := Int.eq_ofNat_of_zero_le (show 0 ≤ shp c by omega)
        have hn3 : n < 3 := by have := shp_lt c; omega
        have HQ : Hid (∀ j : Nat, stands (l.take (k + 1)) (j : Int) = (stands (l.take k) (j : Int) || (n : Int) == (j : Int))) := by
          intro j
          rw [stands_next hkl, hn]
        have HN : Hid _ := hn
        have rn := hS.row n hn3
        have g0 := hS.f0
        clear hn hc
        go_wp2_with fail
        refine (shop_any _ _).mono ?_
        rw [HN.out]
        rintro e w' ⟨rfl, rfl⟩
        go_wp2_with fail
        go_roundg (ll - (k + 1))
        case measure => omega
        case rel =>
          have hS2 := (hS.set n).next ((Below.refl _ _).alloc (Nat.le_refl _) (.cells #[.int .i64 c, .int .i64 d] 69))
          exact ⟨k + 1, by omega, rfl, by simp, fun j hj => by rw [HQ.out]; exact hS2.row j hj, hS2.f0, hS2.below, hS2.lt⟩
    · have hkk : k = ll := by omega
      subst hkk
      have a0 := hS.row 0 (by omega)
      have a1 := hS.row 1 (by omega)
      have a2 := hS.row 2 (by omega)
      rw [List.take_of_length_le (by omega)] at a0 a1 a2
      have HS : Hid _ := hS.below
      clear hS hl
      go_wp2_with fail
      go_loopg [7, 25] 3 (fun g hv i wx => ∃ m : Nat, m ≤ 3 ∧ g = 3 - m ∧ i = .int .i64 m ∧ wx.ownsRow (w.heap.size + 1) 3 1 hv (shopsTo l m).length ((shopsTo l m).map (Value.int .i64)) ∧ Below w.heap.size w wx ∧ w.heap.size < wx.heap.size)
      case atStart => exact ⟨0, Nat.zero_le _, rfl, rfl, World.ownsRow_nil _ _ _ _, HS.out, hlt0⟩
      case round =>
        obtain ⟨m, hm, rfl, rfl, hR, hB, hz⟩ := hrel
        clear a0 a1 a2
        have hq : m = 0 ∨ m = 1 ∨ m = 2 ∨ m = 3 := by omega
        have hsl := shopsTo_length l m
        have HSL : Hid _ := hsl
        clear hsl
        rcases hq with rfl | rfl | rfl | rfl
        · by_cases hb : stands l (0 : Nat) = true
          · have HR : Hid (wr.ownsRow (w.heap.size + 1) 3 1 u7 (shopsTo l 0).length ((shopsTo l 0).map (Value.int .i64))) := hR
            have HB : Hid _ := hB
            have HT : Hid _ := shopsTo_hit hb
            have hix : ∀ W : World, (Instr.index 138 (.agg #[.bool (stands l 0), .bool (stands l 1), .bool (stands l 2)]) (.int .i64 0)).run Try.prog W = .ok (.bool true) W := fun W => by rw [(idx3 _ _ _ W).1, show stands l 0 = true from hb]
            clear hR hB hb
            go_wp2_with (at_builtin; refine wpList_append_own _ rfl (.tmp 30) (.tmp 32) 42 rfl (w.heap.size + 1) 3 i0 (.int .i64 0) 1 8 Try.underlying42 hi hz0 hz1 hz2 rfl (by decide) _ _ _ rfl (HR.out.alloc _) ⟨wr.heap.size, 0, none⟩ 1 1 [.int .i64 0] rfl rfl (num_new _ (by simp)) num_cell (by have := HSL.out; unfold maxLen; omega) (by have := HSL.out; omega) (by simp; omega) ?_; intro v7 w7 hown7 hgrow7 _)
            go_roundg (3 - (0 + 1))
            case measure => omega
            case rel => exact ⟨_, by omega, rfl, rfl, by rw [HT.out]; simpa using hown7, own_below (HR.out.alloc _) hgrow7 (HB.out.alloc (Nat.le_of_lt hz) _) (by simp; omega) (Nat.le_succ _), by have := hgrow7.size; simp at this; omega⟩
          · have HT : Hid _ := shopsTo_miss (Bool.eq_false_iff.2 hb)
            have hix : ∀ W : World, (Instr.index 138 (.agg #[.bool (stands l 0), .bool (stands l 1), .bool (stands l 2)]) (.int .i64 0)).run Try.prog W = .ok (.bool false) W := fun W => by rw [(idx3 _ _ _ W).1, show stands l 0 = false from Bool.eq_false_iff.2 hb]
            clear hb
            go_wp2_with fail
            go_roundg (3 - (0 + 1))
            case measure => omega
            case rel => exact ⟨0 + 1, by omega, rfl, by simp, by rw [HT.out]; exact hR, hB, hz⟩
        · by_cases hb : stands l (1 : Nat) = true
          · have HR : Hid (wr.ownsRow (w.heap.size + 1) 3 1 u7 (shopsTo l 1).length ((shopsTo l 1).map (Value.int .i64))) := hR
            have HB : Hid _ := hB
            have HT : Hid _ := shopsTo_hit hb
            have hix : ∀ W : World, (Instr.index 138 (.agg #[.bool (stands l 0), .bool (stands l 1), .bool (stands l 2)]) (.int .i64 1)).run Try.prog W = .ok (.bool true) W := fun W => by rw [(idx3 _ _ _ W).2.1, show stands l 1 = true from hb]
            clear hR hB hb
            go_wp2_with (at_builtin; refine wpList_append_own _ rfl (.tmp 30) (.tmp 32) 42 rfl (w.heap.size + 1) 3 i0 (.int .i64 0) 1 8 Try.underlying42 hi hz0 hz1 hz2 rfl (by decide) _ _ _ rfl (HR.out.alloc _) ⟨wr.heap.size, 0, none⟩ 1 1 [.int .i64 1] rfl rfl (num_new _ (by simp)) num_cell (by have := HSL.out; unfold maxLen; omega) (by have := HSL.out; omega) (by simp; omega) ?_; intro v7 w7 hown7 hgrow7 _)
            go_roundg (3 - (1 + 1))
            case measure => omega
            case rel => exact ⟨_, by omega, rfl, rfl, by rw [HT.out]; simpa using hown7, own_below (HR.out.alloc _) hgrow7 (HB.out.alloc (Nat.le_of_lt hz) _) (by simp; omega) (Nat.le_succ _), by have := hgrow7.size; simp at this; omega⟩
          · have HT : Hid _ := shopsTo_miss (Bool.eq_false_iff.2 hb)
            have hix : ∀ W : World, (Instr.index 138 (.agg #[.bool (stands l 0), .bool (stands l 1), .bool (stands l 2)]) (.int .i64 1)).run Try.prog W = .ok (.bool false) W := fun W => by rw [(idx3 _ _ _ W).2.1, show stands l 1 = false from Bool.eq_false_iff.2 hb]
            clear hb
            go_wp2_with fail
            go_roundg (3 - (1 + 1))
            case measure => omega
            case rel => exact ⟨1 + 1, by omega, rfl, by simp, by rw [HT.out]; exact hR, hB, hz⟩
        · by_cases hb : stands l (2 : Nat) = true
          · have HR : Hid (wr.ownsRow (w.heap.size + 1) 3 1 u7 (shopsTo l 2).length ((shopsTo l 2).map (Value.int .i64))) := hR
            have HB : Hid _ := hB
            have HT : Hid _ := shopsTo_hit hb
            have hix : ∀ W : World, (Instr.index 138 (.agg #[.bool (stands l 0), .bool (stands l 1), .bool (stands l 2)]) (.int .i64 2)).run Try.prog W = .ok (.bool true) W := fun W => by rw [(idx3 _ _ _ W).2.2, show stands l 2 = true from hb]
            clear hR hB hb
            go_wp2_with (at_builtin; refine wpList_append_own _ rfl (.tmp 30) (.tmp 32) 42 rfl (w.heap.size + 1) 3 i0 (.int .i64 0) 1 8 Try.underlying42 hi hz0 hz1 hz2 rfl (by decide) _ _ _ rfl (HR.out.alloc _) ⟨wr.heap.size, 0, none⟩ 1 1 [.int .i64 2] rfl rfl (num_new _ (by simp)) num_cell (by have := HSL.out; unfold maxLen; omega) (by have := HSL.out; omega) (by simp; omega) ?_; intro v7 w7 hown7 hgrow7 _)
            go_roundg (3 - (2 + 1))
            case measure => omega
            case rel => exact ⟨_, by omega, rfl, rfl, by rw [HT.out]; simpa using hown7, own_below (HR.out.alloc _) hgrow7 (HB.out.alloc (Nat.le_of_lt hz) _) (by simp; omega) (Nat.le_succ _), by have := hgrow7.size; simp at this; omega⟩
          · have HT : Hid _ := shopsTo_miss (Bool.eq_false_iff.2 hb)
            have hix : ∀ W : World, (Instr.index 138 (.agg #[.bool (stands l 0), .bool (stands l 1), .bool (stands l 2)]) (.int .i64 2)).run Try.prog W = .ok (.bool false) W := fun W => by rw [(idx3 _ _ _ W).2.2, show stands l 2 = false from Bool.eq_false_iff.2 hb]
            clear hb
            go_wp2_with fail
            go_roundg (3 - (2 + 1))
            case measure => omega
            case rel => exact ⟨2 + 1, by omega, rfl, by simp, by rw [HT.out]; exact hR, hB, hz⟩
        · go_wp2_with fail
          obtain ⟨ga, cap, rfl, hA, hlen⟩ := nums_of_own hR
          go_ret
          exact ⟨⟨ga, cap, rfl, hA⟩, hB⟩

end Go.Proofs.Ytbgnajcmhmpjlab

/- Two worlds, held against each other. -/
namespace Go.Proofs.Ytbgnajcmhmpjlab
open Go.RowKit

theorem infoInt6 : (Try.prog.info? 3).map (fun i => (i.zero, i.size, i.bytes)) = some (some (.int .i64 0), 1, 8) := by kernel_rfl
theorem cellsInt : Try.prog.cellsOf 3 = 1 := by kernel_rfl

theorem eq6 (a0 a1 a2 a3 a4 a5 b0 b1 b2 b3 b4 b5 : Int) (W : World) :
    (Op.equalIn 10000 23 (.agg #[.int .i64 a0, .int .i64 a1, .int .i64 a2, .int .i64 a3, .int .i64 a4, .int .i64 a5]) (.agg #[.int .i64 b0, .int .i64 b1, .int .i64 b2, .int .i64 b3, .int .i64 b4, .int .i64 b5])).run Try.prog W = .ok (a0 == b0 && (a1 == b1 && (a2 == b2 && (a3 == b3 && (a4 == b4 && a5 == b5))))) W := by
  obtain ⟨i0, hi, hz0, hz1, hz2⟩ := info_parts infoInt6
  rw [show (10000 : Nat) = 9999 + 1 from rfl, run_equalIn_array W 9999 _ _ Try.underlying23 hi, cellsInt]
  simp [List.range, List.range.loop, Op.eqItems, go_sem]
  repeat' split
  all_goals simp_all

theorem fld2 (a b : Int) (W : World) : (Instr.field 28 (.agg #[.int .i64 a, .int .i64 b]) 0).run Try.prog W = .ok (.int .i64 a) W ∧ (Instr.field 28 (.agg #[.int .i64 a, .int .i64 b]) 1).run Try.prog W = .ok (.int .i64 b) W := by
  constructor
  · simp [Instr.field, asAgg, go_sem]
  · simp [Instr.field, asAgg, go_sem]

end Go.Proofs.Ytbgnajcmhmpjlab

/- The contract of planBegun: it answers true. -/
namespace Go.Proofs.Ytbgnajcmhmpjlab
open Go.RowKit

/-- The first cells of a block. -/
def BoxAt (w : World) (b : Nat) (vs : List Value) : Prop := b < w.heap.size ∧ ∀ j v, vs[j]? = some v → w.cell? ⟨b, j, none⟩ = some v
theorem BoxAt.next {w w1 : World} {b : Nat} {vs : List Value} (h : BoxAt w b vs) (hb : Below w.heap.size w w1) : BoxAt w1 b vs :=
  ⟨by have := hb.size; have := h.1; omega, fun j v hj => ((bcell hb).1 _ _ h.1).trans (h.2 j v hj)⟩
theorem BoxAt.new (w : World) (vs : List Value) (t : TypeId) : BoxAt (w.alloc (.cells vs.toArray t)) w.heap.size vs :=
  ⟨by simp, fun j v hj => by simpa [go_sem] using hj⟩

/-- Two blocks, one behind the other. -/
theorem pair_new (w : World) (vs us : List Value) (t u : TypeId) : BoxAt ((w.alloc (.cells vs.toArray t)).alloc (.cells us.toArray u)) w.heap.size vs ∧ BoxAt ((w.alloc (.cells vs.toArray t)).alloc (.cells us.toArray u)) (w.heap.size + 1) us ∧ Below w.heap.size w ((w.alloc (.cells vs.toArray t)).alloc (.cells us.toArray u)) := by
  refine ⟨(BoxAt.new w vs t).next ((Below.refl _ _).alloc (Nat.le_refl _) _), ?_, ((Below.refl _ _).alloc (Nat.le_refl _) _).alloc (by simp) _⟩
  have := BoxAt.new (w.alloc (.cells vs.toArray t)) us u
  simpa using this

def wsB : Nat → Int
  | 0 => 5
  | 2 => 7
  | _ => 0
def lB : List (Int × Int) := [(5, 3), (0, -2)]

theorem shops_begun (la : Option Addr) (lc : Nat) (w : World) (hl : WantsAt w la lB) :
    Calls Try.prog 60 #[.slice la 2 lc] w fun e w' => (∃ g o cap, e = .returned (.slice (some ⟨g, o, none⟩) 2 cap) ∧ g < w'.heap.size ∧ w'.cell? ⟨g, o, none⟩ = some (.int .i64 0) ∧ w'.cell? ⟨g, o + 1, none⟩ = some (.int .i64 2)) ∧ Below w.heap.size w w' := by
  refine (shops_any la 2 lc lB w hl rfl (by omega)).mono ?_
  rintro e w' ⟨⟨ga, cap, rfl, hA⟩, hb⟩
  obtain ⟨g, o, rfl, hg, h0⟩ := hA 0 0 rfl
  obtain ⟨g', o', e', hg', h1⟩ := hA 1 2 rfl
  obtain ⟨rfl, rfl⟩ : g = g' ∧ o = o' := by simpa using e'
  exact ⟨⟨g, o, cap, rfl, hg, h0, h1⟩, hb⟩

theorem want_begun (w : World) : Calls Try.prog 109 #[.agg #[.int .i64 0, .int .i64 0]] w fun e w' => e = .returned (.int .i64 2) ∧ Below w.heap.size w w' := want_any 0 0 w
theorem check_begun (w : World) : Calls Try.prog 94 #[.slice none 0 0] w fun e w' => e = .returned (.agg #[.int .i64 2, .int .i64 (-1)]) ∧ Below w.heap.size w w' :=
  pcheck_any none 0 0 [] w (by intro k c d h; simp at h) rfl
theorem shop_begun (w : World) : Calls Try.prog 59 #[.int .i64 3] w fun e w' => e = .returned (.int .i64 1) ∧ w' = w := shop_any 3 w

end Go.Proofs.Ytbgnajcmhmpjlab

/- Appends of rows of one's own, where several are had at once. -/
namespace Go.Proofs.Ytbgnajcmhmpjlab
open Go.RowKit

/-- Where a row lies behind an append: where it lay, or in a new block. -/
theorem append_where {P : Program} {w : World} {base : Nat} {t ty e : TypeId} {i : TypeInfo} {z : Value} {size bytes : Nat} (ht : P.underlying t = some (.slice e)) (hi : P.info? e = some i) (hz : i.zero = some z) (hsize : i.size = size) (hby : i.bytes = bytes)
    {v : Value} {n : Nat} {xs : List Value} (hown : w.ownsRow base e size v n xs) {a : Addr} {m c : Nat} {news : List Value} (hl : news.length = m * size) (hnews : ∀ j u, news[j]? = some u → w.cell? (a.add j) = some u) (h1 : ∀ u ∈ news, u.oneCell' = true)
    (h63 : n + m ≤ maxLen) (hbytes : (n + m) * bytes ≤ 140737488355328) (hm : 0 < m) {v' : Value} {w' : World} (hr : (Builtin.append_ #[t, t] ty #[v, .slice (some a) m c]).run P w = .ok v' w') :
    ∀ k, v'.ownBlock = some k → v.ownBlock = some k ∨ k = w.heap.size := by
  subst hsize
  subst hby
  have hsmall : n + m ≤ 9223372036854775807 := by simp only [maxLen] at h63; omega
  intro k hk
  rcases hown.2 with ⟨rfl, rfl⟩ | ⟨g, cap, cur, rfl, hbg, hg, hnc, hcm, hcs, htake⟩
  · have q := run_append_nil (P := P) w t ty e i z ht hi hz a m c news hl hnews hm (by omega) (by have hb := hbytes; simp only [Nat.zero_add] at hb; omega)
    rw [q] at hr
    injection hr with e1 _
    rw [← e1] at hk
    right
    simpa [Value.ownBlock] using hk.symm
  · by_cases hroom : n + m ≤ cap
    · have hfit : n * i.size + news.length ≤ cur.size := by rw [hl, hcs, ← Nat.add_mul]; exact Nat.mul_le_mul_right _ hroom
      have q := run_append_room (P := P) w t ty e i ht hi g n cap cur hg a m c news hl hnews h1 hroom hfit
      rw [q] at hr
      injection hr with e1 _
      rw [← e1] at hk
      left
      simpa [Value.ownBlock] using hk
    · have q := run_append_grow (P := P) w t ty e i z ht hi hz ⟨g, 0, none⟩ n cap xs hown.1 (hown.cells (g := g) rfl) a m c news hl hnews (by omega) (by omega) (growslice_fits (by omega) hbytes)
      rw [q] at hr
      injection hr with e1 _
      rw [← e1] at hk
      right
      simpa [Value.ownBlock] using hk.symm
/-- An append of a row of one's own, and where it lies then. -/
theorem append_two {P : Program} {w : World} {o : Oper} {a : Act} {K : Act → World → Prop} {Q : Exit → Act → World → Prop} (s x : Operand) (t : TypeId)
    (ho : o.op = .call { callee := .builtin .append, args := #[s, x], argTypes := #[t, t] })
    (base : Nat) (e : TypeId) (i : TypeInfo) (z : Value) (size bytes : Nat) (ht : P.underlying t = some (.slice e)) (hi : P.info? e = some i) (hz : i.zero = some z)
    (hsize : i.size = size) (hby : i.bytes = bytes) (hzs : z.cells.size = size) (hsz : 0 < size)
    (v : Value) (n : Nat) (xs : List Value) (hs : a.eval s = v) (hown : w.ownsRow base e size v n xs)
    (ad : Addr) (m c : Nat) (news : List Value) (hx : a.eval x = .slice (some ad) m c) (hl : news.length = m * size) (hnews : ∀ j u, news[j]? = some u → w.cell? (ad.add j) = some u) (h1 : ∀ u ∈ news, u.oneCell' = true)
    (h63 : n + m ≤ maxLen) (hbytes : (n + m) * bytes ≤ 140737488355328) (hbase : base ≤ w.heap.size) (hm : 0 < m)
    (h : ∀ v' w', w'.ownsRow base e size v' (n + m) (xs ++ news) → w.grownBy w' v.ownBlock → (∀ k, v'.ownBlock = some k → v.ownBlock = some k ∨ k = w.heap.size) → K (a.put o.dst v') w') : o.wp P a w K Q := by
  obtain ⟨v', w', hr, h2, h3, _⟩ := run_append_own (P := P) w base t o.type e i z size bytes ht hi hz hsize hby hzs hsz v n xs hown ad m c news hl hnews h1 h63 hbytes hbase
  have h4 := append_where ht hi hz hsize hby hown hl hnews h1 h63 hbytes hm hr
  unfold Oper.wp execOp
  simp only [ho, resolve, invoke, builtin, Sem.run_bind, Sem.run_pure, Result.andThen_ok, List.map_toArray, List.map_cons, List.map_nil, hs, hx, hr]
  exact h v' w' h2 h3 h4
theorem list_append_two {P : Program} {w : World} {ops : Array Oper} {rest : List Oper} {o : Oper} {a : Act} {Q : Exit → Act → World → Prop} (hgd : o.guard = none) (s x : Operand) (t : TypeId)
    (ho : o.op = .call { callee := .builtin .append, args := #[s, x], argTypes := #[t, t] })
    (base : Nat) (e : TypeId) (i : TypeInfo) (z : Value) (size bytes : Nat) (ht : P.underlying t = some (.slice e)) (hi : P.info? e = some i) (hz : i.zero = some z)
    (hsize : i.size = size) (hby : i.bytes = bytes) (hzs : z.cells.size = size) (hsz : 0 < size)
    (v : Value) (n : Nat) (xs : List Value) (hs : a.eval s = v) (hown : w.ownsRow base e size v n xs)
    (ad : Addr) (m c : Nat) (news : List Value) (hx : a.eval x = .slice (some ad) m c) (hl : news.length = m * size) (hnews : ∀ j u, news[j]? = some u → w.cell? (ad.add j) = some u) (h1 : ∀ u ∈ news, u.oneCell' = true)
    (h63 : n + m ≤ maxLen) (hbytes : (n + m) * bytes ≤ 140737488355328) (hbase : base ≤ w.heap.size) (hm : 0 < m)
    (h : ∀ v' w', w'.ownsRow base e size v' (n + m) (xs ++ news) → w.grownBy w' v.ownBlock → (∀ k, v'.ownBlock = some k → v.ownBlock = some k ∨ k = w.heap.size) → wpList P ops Q rest (a.put o.dst v') w') : wpList P ops Q (o :: rest) a w :=
  wpList_plain hgd fun _ hK => append_two s x t ho base e i z size bytes ht hi hz hsize hby hzs hsz v n xs hs hown ad m c news hx hl hnews h1 h63 hbytes hbase hm fun v' w' h2 h3 h4 => hK _ _ (h v' w' h2 h3 h4)
theorem step_append_two {P : Program} {w : World} {ops : Array Oper} {o : Oper} {a : Act} {K : Act → World → Prop} {Q : Exit → Act → World → Prop} {E : Prop} (hgd : o.guard = none) (s x : Operand) (t : TypeId)
    (ho : o.op = .call { callee := .builtin .append, args := #[s, x], argTypes := #[t, t] })
    (base : Nat) (e : TypeId) (i : TypeInfo) (z : Value) (size bytes : Nat) (ht : P.underlying t = some (.slice e)) (hi : P.info? e = some i) (hz : i.zero = some z)
    (hsize : i.size = size) (hby : i.bytes = bytes) (hzs : z.cells.size = size) (hsz : 0 < size)
    (v : Value) (n : Nat) (xs : List Value) (hs : a.eval s = v) (hown : w.ownsRow base e size v n xs)
    (ad : Addr) (m c : Nat) (news : List Value) (hx : a.eval x = .slice (some ad) m c) (hl : news.length = m * size) (hnews : ∀ j u, news[j]? = some u → w.cell? (ad.add j) = some u) (h1 : ∀ u ∈ news, u.oneCell' = true)
    (h63 : n + m ≤ maxLen) (hbytes : (n + m) * bytes ≤ 140737488355328) (hbase : base ≤ w.heap.size) (hm : 0 < m)
    (h : ∀ v' w', w'.ownsRow base e size v' (n + m) (xs ++ news) → w.grownBy w' v.ownBlock → (∀ k, v'.ownBlock = some k → v.ownBlock = some k ∨ k = w.heap.size) → K (a.put o.dst v') w') : if Region.wanted o (yielded ops a.tmps) = true then Oper.wp P o a w K Q else E := by
  have hw : Region.wanted o (yielded ops a.tmps) = true := by simp [Region.wanted, hgd]
  rw [if_pos hw]
  exact append_two s x t ho base e i z size bytes ht hi hz hsize hby hzs hsz v n xs hs hown ad m c news hx hl hnews h1 h63 hbytes hbase hm h

end Go.Proofs.Ytbgnajcmhmpjlab

/- The contracts of Hold and End, and of the document's Held and Ended. -/
namespace Go.Proofs.Ytbgnajcmhmpjlab
open Go.RowKit

/-- Hold's code, and what it answers. -/
def hC (v o i n : Int) : Int := if both v o i n = 0 then (if n < 0 then (if v < o - n then 5 else 0) else (if 100 < v + (i + n) then 6 else 0)) else both v o i n
def hV (v o i n : Int) : Int := if hC v o i n = 0 then v else 0
def hO (v o i n : Int) : Int := if hC v o i n = 0 then (if n < 0 then o - n else o) else 0
def hI (v o i n : Int) : Int := if hC v o i n = 0 then (if n < 0 then i else i + n) else 0

/-- End's code, and what it answers. -/
def eC (v o i n : Int) : Int := if both v o i n = 0 then (if n < 0 then (if o + n < 0 then 7 else 0) else (if i - n < 0 then 7 else 0)) else both v o i n
def eV (v o i n : Int) (d : Bool) : Int := if eC v o i n = 0 then (if d = true then v + n else v) else 0
def eO (v o i n : Int) : Int := if eC v o i n = 0 then (if n < 0 then o + n else o) else 0
def eI (v o i n : Int) : Int := if eC v o i n = 0 then (if n < 0 then i else i - n) else 0

theorem both_ok {v o i n : Int} (h : both v o i n = 0) : chk v o i = 0 ∧ dlt n = 0 := by
  unfold both at h
  split at h
  · exact ⟨‹_›, h⟩
  · exact absurd h ‹_›

set_option maxHeartbeats 1000000 in
theorem hold_less (v o i n : Int) (w : World) (h1 : 0 ≤ v) (h2 : v ≤ 100) (h3 : 0 ≤ o) (h4 : o ≤ v) (h5 : 0 ≤ i) (h6 : v + i ≤ 100) (h7 : n < 0) (h8 : -100 ≤ n) (h9 : o - n ≤ v) :
    Calls Try.prog 114 #[.agg #[.int .i64 v, .int .i64 o, .int .i64 i], .int .i64 n] w fun e w' => e = .returned (.tuple #[.agg #[.int .i64 v, .int .i64 (o - n), .int .i64 i], .int .i64 0]) ∧ Below w.heap.size w w' := by
  go_enter Try.func114, Try.ntmps114
  go_wp2
  exact bodyPost_ret (v := .tuple #[.agg #[.int .i64 v, .int .i64 (o - n), .int .i64 i], .int .i64 0]) (by simp [results, Try.results114, go_sem]) rfl ⟨rfl, by go_grown⟩

set_option maxHeartbeats 1000000 in
theorem hold_short (v o i n : Int) (w : World) (h1 : 0 ≤ v) (h2 : v ≤ 100) (h3 : 0 ≤ o) (h4 : o ≤ v) (h5 : 0 ≤ i) (h6 : v + i ≤ 100) (h7 : n < 0) (h8 : -100 ≤ n) (h9 : v < o - n) :
    Calls Try.prog 114 #[.agg #[.int .i64 v, .int .i64 o, .int .i64 i], .int .i64 n] w fun e w' => e = .returned (.tuple #[.agg #[.int .i64 0, .int .i64 0, .int .i64 0], .int .i64 5]) ∧ Below w.heap.size w w' := by
  go_enter Try.func114, Try.ntmps114
  go_wp2
  exact bodyPost_ret (v := .tuple #[.agg #[.int .i64 0, .int .i64 0, .int .i64 0], .int .i64 5]) (by simp [results, Try.results114, go_sem]) rfl ⟨rfl, by go_grown⟩

set_option maxHeartbeats 1000000 in
theorem hold_more (v o i n : Int) (w : World) (h1 : 0 ≤ v) (h2 : v ≤ 100) (h3 : 0 ≤ o) (h4 : o ≤ v) (h5 : 0 ≤ i) (h6 : v + i ≤ 100) (h7 : 0 < n) (h8 : n ≤ 100) (h9 : v + (i + n) ≤ 100) :
    Calls Try.prog 114 #[.agg #[.int .i64 v, .int .i64 o, .int .i64 i], .int .i64 n] w fun e w' => e = .returned (.tuple #[.agg #[.int .i64 v, .int .i64 o, .int .i64 (i + n)], .int .i64 0]) ∧ Below w.heap.size w w' := by
  go_enter Try.func114, Try.ntmps114
  go_wp2
  exact bodyPost_ret (v := .tuple #[.agg #[.int .i64 v, .int .i64 o, .int .i64 (i + n)], .int .i64 0]) (by simp [results, Try.results114, go_sem]) rfl ⟨rfl, by go_grown⟩

set_option maxHeartbeats 1000000 in
theorem hold_full (v o i n : Int) (w : World) (h1 : 0 ≤ v) (h2 : v ≤ 100) (h3 : 0 ≤ o) (h4 : o ≤ v) (h5 : 0 ≤ i) (h6 : v + i ≤ 100) (h7 : 0 < n) (h8 : n ≤ 100) (h9 : 100 < v + (i + n)) :
    Calls Try.prog 114 #[.agg #[.int .i64 v, .int .i64 o, .int .i64 i], .int .i64 n] w fun e w' => e = .returned (.tuple #[.agg #[.int .i64 0, .int .i64 0, .int .i64 0], .int .i64 6]) ∧ Below w.heap.size w w' := by
  go_enter Try.func114, Try.ntmps114
  go_wp2
  exact bodyPost_ret (v := .tuple #[.agg #[.int .i64 0, .int .i64 0, .int .i64 0], .int .i64 6]) (by simp [results, Try.results114, go_sem]) rfl ⟨rfl, by go_grown⟩

set_option maxHeartbeats 1000000 in
theorem held_less (v o i n : Int) (w : World) (h1 : 0 ≤ v) (h2 : v ≤ 100) (h3 : 0 ≤ o) (h4 : o ≤ v) (h5 : 0 ≤ i) (h6 : v + i ≤ 100) (h7 : n < 0) (h8 : -100 ≤ n) (h9 : o - n ≤ v) :
    Calls Try.prog 100 #[.agg #[.int .i64 v, .int .i64 o, .int .i64 i], .int .i64 n] w fun e w' => e = .returned (.tuple #[.agg #[.int .i64 v, .int .i64 (o - n), .int .i64 i], .int .i64 0]) ∧ Below w.heap.size w w' := by
  go_enter Try.func100, Try.ntmps100
  go_wp2
  exact bodyPost_ret (v := .tuple #[.agg #[.int .i64 v, .int .i64 (o - n), .int .i64 i], .int .i64 0]) (by simp [results, Try.results100, go_sem]) rfl ⟨rfl, by go_grown⟩

set_option maxHeartbeats 1000000 in
theorem held_short (v o i n : Int) (w : World) (h1 : 0 ≤ v) (h2 : v ≤ 100) (h3 : 0 ≤ o) (h4 : o ≤ v) (h5 : 0 ≤ i) (h6 : v + i ≤ 100) (h7 : n < 0) (h8 : -100 ≤ n) (h9 : v < o - n) :
    Calls Try.prog 100 #[.agg #[.int .i64 v, .int .i64 o, .int .i64 i], .int .i64 n] w fun e w' => e = .returned (.tuple #[.agg #[.int .i64 0, .int .i64 0, .int .i64 0], .int .i64 5]) ∧ Below w.heap.size w w' := by
  go_enter Try.func100, Try.ntmps100
  go_wp2
  exact bodyPost_ret (v := .tuple #[.agg #[.int .i64 0, .int .i64 0, .int .i64 0], .int .i64 5]) (by simp [results, Try.results100, go_sem]) rfl ⟨rfl, by go_grown⟩

set_option maxHeartbeats 1000000 in
theorem held_more (v o i n : Int) (w : World) (h1 : 0 ≤ v) (h2 : v ≤ 100) (h3 : 0 ≤ o) (h4 : o ≤ v) (h5 : 0 ≤ i) (h6 : v + i ≤ 100) (h7 : 0 < n) (h8 : n ≤ 100) (h9 : v + (i + n) ≤ 100) :
    Calls Try.prog 100 #[.agg #[.int .i64 v, .int .i64 o, .int .i64 i], .int .i64 n] w fun e w' => e = .returned (.tuple #[.agg #[.int .i64 v, .int .i64 o, .int .i64 (i + n)], .int .i64 0]) ∧ Below w.heap.size w w' := by
  go_enter Try.func100, Try.ntmps100
  go_wp2
  exact bodyPost_ret (v := .tuple #[.agg #[.int .i64 v, .int .i64 o, .int .i64 (i + n)], .int .i64 0]) (by simp [results, Try.results100, go_sem]) rfl ⟨rfl, by go_grown⟩

set_option maxHeartbeats 1000000 in
theorem held_full (v o i n : Int) (w : World) (h1 : 0 ≤ v) (h2 : v ≤ 100) (h3 : 0 ≤ o) (h4 : o ≤ v) (h5 : 0 ≤ i) (h6 : v + i ≤ 100) (h7 : 0 < n) (h8 : n ≤ 100) (h9 : 100 < v + (i + n)) :
    Calls Try.prog 100 #[.agg #[.int .i64 v, .int .i64 o, .int .i64 i], .int .i64 n] w fun e w' => e = .returned (.tuple #[.agg #[.int .i64 0, .int .i64 0, .int .i64 0], .int .i64 6]) ∧ Below w.heap.size w w' := by
  go_enter Try.func100, Try.ntmps100
  go_wp2
  exact bodyPost_ret (v := .tuple #[.agg #[.int .i64 0, .int .i64 0, .int .i64 0], .int .i64 6]) (by simp [results, Try.results100, go_sem]) rfl ⟨rfl, by go_grown⟩

end Go.Proofs.Ytbgnajcmhmpjlab

/- The contracts of End and of the document's Ended, way by way. -/
namespace Go.Proofs.Ytbgnajcmhmpjlab
open Go.RowKit

set_option maxHeartbeats 1000000 in
theorem end_less_true (v o i n : Int) (w : World) (h1 : 0 ≤ v) (h2 : v ≤ 100) (h3 : 0 ≤ o) (h4 : o ≤ v) (h5 : 0 ≤ i) (h6 : v + i ≤ 100) (h7 : n < 0) (h8 : -100 ≤ n) (h9 : 0 ≤ o + n) :
    Calls Try.prog 107 #[.agg #[.int .i64 v, .int .i64 o, .int .i64 i], .int .i64 n, .bool true] w fun e w' => e = .returned (.tuple #[.agg #[.int .i64 (v + n), .int .i64 (o + n), .int .i64 i], .int .i64 0]) ∧ Below w.heap.size w w' := by
  go_enter Try.func107, Try.ntmps107
  go_wp2
  exact bodyPost_ret (v := .tuple #[.agg #[.int .i64 (v + n), .int .i64 (o + n), .int .i64 i], .int .i64 0]) (by simp [results, Try.results107, go_sem]) rfl ⟨rfl, by go_grown⟩

set_option maxHeartbeats 1000000 in
theorem end_more_true (v o i n : Int) (w : World) (h1 : 0 ≤ v) (h2 : v ≤ 100) (h3 : 0 ≤ o) (h4 : o ≤ v) (h5 : 0 ≤ i) (h6 : v + i ≤ 100) (h7 : 0 < n) (h8 : n ≤ 100) (h9 : 0 ≤ i - n) :
    Calls Try.prog 107 #[.agg #[.int .i64 v, .int .i64 o, .int .i64 i], .int .i64 n, .bool true] w fun e w' => e = .returned (.tuple #[.agg #[.int .i64 (v + n), .int .i64 o, .int .i64 (i - n)], .int .i64 0]) ∧ Below w.heap.size w w' := by
  go_enter Try.func107, Try.ntmps107
  go_wp2
  exact bodyPost_ret (v := .tuple #[.agg #[.int .i64 (v + n), .int .i64 o, .int .i64 (i - n)], .int .i64 0]) (by simp [results, Try.results107, go_sem]) rfl ⟨rfl, by go_grown⟩

set_option maxHeartbeats 1000000 in
theorem end_less_false (v o i n : Int) (w : World) (h1 : 0 ≤ v) (h2 : v ≤ 100) (h3 : 0 ≤ o) (h4 : o ≤ v) (h5 : 0 ≤ i) (h6 : v + i ≤ 100) (h7 : n < 0) (h8 : -100 ≤ n) (h9 : 0 ≤ o + n) :
    Calls Try.prog 107 #[.agg #[.int .i64 v, .int .i64 o, .int .i64 i], .int .i64 n, .bool false] w fun e w' => e = .returned (.tuple #[.agg #[.int .i64 v, .int .i64 (o + n), .int .i64 i], .int .i64 0]) ∧ Below w.heap.size w w' := by
  go_enter Try.func107, Try.ntmps107
  go_wp2
  exact bodyPost_ret (v := .tuple #[.agg #[.int .i64 v, .int .i64 (o + n), .int .i64 i], .int .i64 0]) (by simp [results, Try.results107, go_sem]) rfl ⟨rfl, by go_grown⟩

set_option maxHeartbeats 1000000 in
theorem end_more_false (v o i n : Int) (w : World) (h1 : 0 ≤ v) (h2 : v ≤ 100) (h3 : 0 ≤ o) (h4 : o ≤ v) (h5 : 0 ≤ i) (h6 : v + i ≤ 100) (h7 : 0 < n) (h8 : n ≤ 100) (h9 : 0 ≤ i - n) :
    Calls Try.prog 107 #[.agg #[.int .i64 v, .int .i64 o, .int .i64 i], .int .i64 n, .bool false] w fun e w' => e = .returned (.tuple #[.agg #[.int .i64 v, .int .i64 o, .int .i64 (i - n)], .int .i64 0]) ∧ Below w.heap.size w w' := by
  go_enter Try.func107, Try.ntmps107
  go_wp2
  exact bodyPost_ret (v := .tuple #[.agg #[.int .i64 v, .int .i64 o, .int .i64 (i - n)], .int .i64 0]) (by simp [results, Try.results107, go_sem]) rfl ⟨rfl, by go_grown⟩

set_option maxHeartbeats 1000000 in
theorem end_noless (v o i n : Int) (d : Bool) (w : World) (h1 : 0 ≤ v) (h2 : v ≤ 100) (h3 : 0 ≤ o) (h4 : o ≤ v) (h5 : 0 ≤ i) (h6 : v + i ≤ 100) (h7 : n < 0) (h8 : -100 ≤ n) (h9 : o + n < 0) :
    Calls Try.prog 107 #[.agg #[.int .i64 v, .int .i64 o, .int .i64 i], .int .i64 n, .bool d] w fun e w' => e = .returned (.tuple #[.agg #[.int .i64 0, .int .i64 0, .int .i64 0], .int .i64 7]) ∧ Below w.heap.size w w' := by
  go_enter Try.func107, Try.ntmps107
  go_wp2
  exact bodyPost_ret (v := .tuple #[.agg #[.int .i64 0, .int .i64 0, .int .i64 0], .int .i64 7]) (by simp [results, Try.results107, go_sem]) rfl ⟨rfl, by go_grown⟩

set_option maxHeartbeats 1000000 in
theorem end_nomore (v o i n : Int) (d : Bool) (w : World) (h1 : 0 ≤ v) (h2 : v ≤ 100) (h3 : 0 ≤ o) (h4 : o ≤ v) (h5 : 0 ≤ i) (h6 : v + i ≤ 100) (h7 : 0 < n) (h8 : n ≤ 100) (h9 : i - n < 0) :
    Calls Try.prog 107 #[.agg #[.int .i64 v, .int .i64 o, .int .i64 i], .int .i64 n, .bool d] w fun e w' => e = .returned (.tuple #[.agg #[.int .i64 0, .int .i64 0, .int .i64 0], .int .i64 7]) ∧ Below w.heap.size w w' := by
  go_enter Try.func107, Try.ntmps107
  go_wp2
  exact bodyPost_ret (v := .tuple #[.agg #[.int .i64 0, .int .i64 0, .int .i64 0], .int .i64 7]) (by simp [results, Try.results107, go_sem]) rfl ⟨rfl, by go_grown⟩

end Go.Proofs.Ytbgnajcmhmpjlab

/- The contracts of Hold, End, Held and Ended, whole: what they answer for every counter and every number. -/
namespace Go.Proofs.Ytbgnajcmhmpjlab
open Go.RowKit

set_option maxHeartbeats 400000 in
theorem hold_no (v o i n : Int) (w : World) (hx : (both v o i n != 0) = true) :
    Calls Try.prog 114 #[.agg #[.int .i64 v, .int .i64 o, .int .i64 i], .int .i64 n] w fun e w' => e = .returned (.tuple #[.agg #[.int .i64 0, .int .i64 0, .int .i64 0], .int .i64 (both v o i n)]) ∧ Below w.heap.size w w' := by
  go_enter Try.func114, Try.ntmps114
  go_wp2_with (go_at_call 115; refine (both_any _ _ _ _ _).mono ?_; rintro e w1 ⟨rfl, hb1⟩; obtain ⟨hc1, hf1⟩ := bcell hb1)
  have hw1 : Below w.heap.size w w1 := after (by go_grown) hb1 (by simp; omega)
  exact bodyPost_ret (v := .tuple #[.agg #[.int .i64 0, .int .i64 0, .int .i64 0], .int .i64 (both v o i n)]) (by simp [results, Try.results114, go_sem, hc1]) rfl ⟨rfl, by go_grown⟩

set_option maxHeartbeats 400000 in
theorem end_no (v o i n : Int) (d : Bool) (w : World) (hx : (both v o i n != 0) = true) :
    Calls Try.prog 107 #[.agg #[.int .i64 v, .int .i64 o, .int .i64 i], .int .i64 n, .bool d] w fun e w' => e = .returned (.tuple #[.agg #[.int .i64 0, .int .i64 0, .int .i64 0], .int .i64 (both v o i n)]) ∧ Below w.heap.size w w' := by
  go_enter Try.func107, Try.ntmps107
  go_wp2_with (go_at_call 115; refine (both_any _ _ _ _ _).mono ?_; rintro e w1 ⟨rfl, hb1⟩; obtain ⟨hc1, hf1⟩ := bcell hb1)
  have hw1 : Below w.heap.size w w1 := after (by go_grown) hb1 (by simp; omega)
  exact bodyPost_ret (v := .tuple #[.agg #[.int .i64 0, .int .i64 0, .int .i64 0], .int .i64 (both v o i n)]) (by simp [results, Try.results107, go_sem, hc1]) rfl ⟨rfl, by go_grown⟩

set_option maxHeartbeats 400000 in
theorem held_no1 (v o i n : Int) (w : World) (hx : (chk v o i != 0) = true) :
    Calls Try.prog 100 #[.agg #[.int .i64 v, .int .i64 o, .int .i64 i], .int .i64 n] w fun e w' => e = .returned (.tuple #[.agg #[.int .i64 0, .int .i64 0, .int .i64 0], .int .i64 (chk v o i)]) ∧ Below w.heap.size w w' := by
  go_enter Try.func100, Try.ntmps100
  go_wp2_with (go_at_call 113; refine (countFault_any _ _ _ _).mono ?_; rintro e w1 ⟨rfl, hb1⟩; obtain ⟨hc1, hf1⟩ := bcell hb1)
  have hw1 : Below w.heap.size w w1 := after (by go_grown) hb1 (by simp; omega)
  exact bodyPost_ret (v := .tuple #[.agg #[.int .i64 0, .int .i64 0, .int .i64 0], .int .i64 (chk v o i)]) (by simp [results, Try.results100, go_sem, hc1]) rfl ⟨rfl, by go_grown⟩

set_option maxHeartbeats 400000 in
theorem held_no2 (v o i n : Int) (w : World) (hx : (chk v o i != 0) = false) (hy : (dlt n != 0) = true) :
    Calls Try.prog 100 #[.agg #[.int .i64 v, .int .i64 o, .int .i64 i], .int .i64 n] w fun e w' => e = .returned (.tuple #[.agg #[.int .i64 0, .int .i64 0, .int .i64 0], .int .i64 (dlt n)]) ∧ Below w.heap.size w w' := by
  go_enter Try.func100, Try.ntmps100
  go_wp2_with (first | (go_at_call 113; refine (countFault_any _ _ _ _).mono ?_; rintro e w1 ⟨rfl, hb1⟩; obtain ⟨hc1, hf1⟩ := bcell hb1) | (go_at_call 112; refine (deltaFault_any _ _).mono ?_; rintro e w2 ⟨rfl, hw2⟩; subst w2))
  have hw1 : Below w.heap.size w w1 := after (by go_grown) hb1 (by simp; omega)
  exact bodyPost_ret (v := .tuple #[.agg #[.int .i64 0, .int .i64 0, .int .i64 0], .int .i64 (dlt n)]) (by simp [results, Try.results100, go_sem, hc1]) rfl ⟨rfl, by go_grown⟩

theorem both_cases (v o i n : Int) : (chk v o i ≠ 0 ∧ both v o i n = chk v o i) ∨ (chk v o i = 0 ∧ dlt n ≠ 0 ∧ both v o i n = dlt n) ∨ (both v o i n = 0 ∧ (0 ≤ v ∧ v ≤ 100 ∧ 0 ≤ o ∧ o ≤ v ∧ 0 ≤ i ∧ v + i ≤ 100) ∧ n ≠ 0 ∧ -100 ≤ n ∧ n ≤ 100) := by
  by_cases h : chk v o i = 0
  · by_cases h' : dlt n = 0
    · exact Or.inr (Or.inr ⟨by unfold both; rw [if_pos h, h'], chk_ok h, dlt_ok h'⟩)
    · exact Or.inr (Or.inl ⟨h, h', by unfold both; rw [if_pos h]⟩)
  · exact Or.inl ⟨h, by unfold both; rw [if_neg h]⟩
theorem bne_of {a b : Int} (h : a ≠ b) : (a != b) = true := by simpa using h
theorem bne_self (a b : Int) (h : a = b) : (a != b) = false := by simp [h]

/-- What Hold and Held answer, by its ways. -/
theorem hold_vals (v o i n : Int) :
    (both v o i n ≠ 0 ∧ hC v o i n = both v o i n ∧ hV v o i n = 0 ∧ hO v o i n = 0 ∧ hI v o i n = 0)
    ∨ (both v o i n = 0 ∧ n < 0 ∧ v < o - n ∧ hC v o i n = 5 ∧ hV v o i n = 0 ∧ hO v o i n = 0 ∧ hI v o i n = 0)
    ∨ (both v o i n = 0 ∧ n < 0 ∧ o - n ≤ v ∧ hC v o i n = 0 ∧ hV v o i n = v ∧ hO v o i n = o - n ∧ hI v o i n = i)
    ∨ (both v o i n = 0 ∧ 0 ≤ n ∧ 100 < v + (i + n) ∧ hC v o i n = 6 ∧ hV v o i n = 0 ∧ hO v o i n = 0 ∧ hI v o i n = 0)
    ∨ (both v o i n = 0 ∧ 0 ≤ n ∧ v + (i + n) ≤ 100 ∧ hC v o i n = 0 ∧ hV v o i n = v ∧ hO v o i n = o ∧ hI v o i n = i + n) := by
  by_cases hb : both v o i n = 0
  · by_cases hn : n < 0
    · by_cases hs : v < o - n
      · exact Or.inr (Or.inl ⟨hb, hn, hs, by simp [hC, hb, hn, hs], by simp [hV, hC, hb, hn, hs], by simp [hO, hC, hb, hn, hs], by simp [hI, hC, hb, hn, hs]⟩)
      · exact Or.inr (Or.inr (Or.inl ⟨hb, hn, by omega, by simp [hC, hb, hn, hs], by simp [hV, hC, hb, hn, hs], by simp [hO, hC, hb, hn, hs], by simp [hI, hC, hb, hn, hs]⟩))
    · by_cases hs : 100 < v + (i + n)
      · exact Or.inr (Or.inr (Or.inr (Or.inl ⟨hb, by omega, hs, by simp [hC, hb, hn, hs], by simp [hV, hC, hb, hn, hs], by simp [hO, hC, hb, hn, hs], by simp [hI, hC, hb, hn, hs]⟩)))
      · exact Or.inr (Or.inr (Or.inr (Or.inr ⟨hb, by omega, by omega, by simp [hC, hb, hn, hs], by simp [hV, hC, hb, hn, hs], by simp [hO, hC, hb, hn, hs], by simp [hI, hC, hb, hn, hs]⟩)))
  · exact Or.inl ⟨hb, by simp [hC, hb], by simp [hV, hC, hb], by simp [hO, hC, hb], by simp [hI, hC, hb]⟩

/-- What End and Ended answer, by its ways. -/
theorem end_vals (v o i n : Int) (d : Bool) :
    (both v o i n ≠ 0 ∧ eC v o i n = both v o i n ∧ eV v o i n d = 0 ∧ eO v o i n = 0 ∧ eI v o i n = 0)
    ∨ (both v o i n = 0 ∧ n < 0 ∧ o + n < 0 ∧ eC v o i n = 7 ∧ eV v o i n d = 0 ∧ eO v o i n = 0 ∧ eI v o i n = 0)
    ∨ (both v o i n = 0 ∧ n < 0 ∧ 0 ≤ o + n ∧ eC v o i n = 0 ∧ eV v o i n d = (if d = true then v + n else v) ∧ eO v o i n = o + n ∧ eI v o i n = i)
    ∨ (both v o i n = 0 ∧ 0 ≤ n ∧ i - n < 0 ∧ eC v o i n = 7 ∧ eV v o i n d = 0 ∧ eO v o i n = 0 ∧ eI v o i n = 0)
    ∨ (both v o i n = 0 ∧ 0 ≤ n ∧ 0 ≤ i - n ∧ eC v o i n = 0 ∧ eV v o i n d = (if d = true then v + n else v) ∧ eO v o i n = o ∧ eI v o i n = i - n) := by
  by_cases hb : both v o i n = 0
  · by_cases hn : n < 0
    · by_cases hs : o + n < 0
      · exact Or.inr (Or.inl ⟨hb, hn, hs, by simp [eC, hb, hn, hs], by simp [eV, eC, hb, hn, hs], by simp [eO, eC, hb, hn, hs], by simp [eI, eC, hb, hn, hs]⟩)
      · exact Or.inr (Or.inr (Or.inl ⟨hb, hn, by omega, by simp [eC, hb, hn, hs], by simp [eV, eC, hb, hn, hs], by simp [eO, eC, hb, hn, hs], by simp [eI, eC, hb, hn, hs]⟩))
    · by_cases hs : i - n < 0
      · exact Or.inr (Or.inr (Or.inr (Or.inl ⟨hb, by omega, hs, by simp [eC, hb, hn, hs], by simp [eV, eC, hb, hn, hs], by simp [eO, eC, hb, hn, hs], by simp [eI, eC, hb, hn, hs]⟩)))
      · exact Or.inr (Or.inr (Or.inr (Or.inr ⟨hb, by omega, by omega, by simp [eC, hb, hn, hs], by simp [eV, eC, hb, hn, hs], by simp [eO, eC, hb, hn, hs], by simp [eI, eC, hb, hn, hs]⟩)))
  · exact Or.inl ⟨hb, by simp [eC, hb], by simp [eV, eC, hb], by simp [eO, eC, hb], by simp [eI, eC, hb]⟩

theorem hold_any (v o i n : Int) (w : World) :
    Calls Try.prog 114 #[.agg #[.int .i64 v, .int .i64 o, .int .i64 i], .int .i64 n] w fun e w' => e = .returned (.tuple #[.agg #[.int .i64 (hV v o i n), .int .i64 (hO v o i n), .int .i64 (hI v o i n)], .int .i64 (hC v o i n)]) ∧ Below w.heap.size w w' := by
  rcases hold_vals v o i n with ⟨hb, e1, e2, e3, e4⟩ | ⟨hb, hn, hs, e1, e2, e3, e4⟩ | ⟨hb, hn, hs, e1, e2, e3, e4⟩ | ⟨hb, hn, hs, e1, e2, e3, e4⟩ | ⟨hb, hn, hs, e1, e2, e3, e4⟩
  · rw [e1, e2, e3, e4]; exact hold_no v o i n w (bne_of hb)
  all_goals
    obtain ⟨k1, k2⟩ := both_ok hb
    obtain ⟨a1, a2, a3, a4, a5, a6⟩ := chk_ok k1
    obtain ⟨b1, b2, b3⟩ := dlt_ok k2
    rw [e1, e2, e3, e4]
  · exact hold_short v o i n w a1 a2 a3 a4 a5 a6 hn b2 hs
  · exact hold_less v o i n w a1 a2 a3 a4 a5 a6 hn b2 hs
  · exact hold_full v o i n w a1 a2 a3 a4 a5 a6 (by omega) b3 hs
  · exact hold_more v o i n w a1 a2 a3 a4 a5 a6 (by omega) b3 hs

theorem held_any (v o i n : Int) (w : World) :
    Calls Try.prog 100 #[.agg #[.int .i64 v, .int .i64 o, .int .i64 i], .int .i64 n] w fun e w' => e = .returned (.tuple #[.agg #[.int .i64 (hV v o i n), .int .i64 (hO v o i n), .int .i64 (hI v o i n)], .int .i64 (hC v o i n)]) ∧ Below w.heap.size w w' := by
  rcases hold_vals v o i n with ⟨hb, e1, e2, e3, e4⟩ | ⟨hb, hn, hs, e1, e2, e3, e4⟩ | ⟨hb, hn, hs, e1, e2, e3, e4⟩ | ⟨hb, hn, hs, e1, e2, e3, e4⟩ | ⟨hb, hn, hs, e1, e2, e3, e4⟩
  · rw [e1, e2, e3, e4]
    rcases both_cases v o i n with ⟨k1, k2⟩ | ⟨k1, k2, k3⟩ | ⟨k1, _⟩
    · rw [k2]; exact held_no1 v o i n w (bne_of k1)
    · rw [k3]; exact held_no2 v o i n w (bne_self _ _ k1) (bne_of k2)
    · exact absurd k1 hb
  all_goals
    obtain ⟨k1, k2⟩ := both_ok hb
    obtain ⟨a1, a2, a3, a4, a5, a6⟩ := chk_ok k1
    obtain ⟨b1, b2, b3⟩ := dlt_ok k2
    rw [e1, e2, e3, e4]
  · exact held_short v o i n w a1 a2 a3 a4 a5 a6 hn b2 hs
  · exact held_less v o i n w a1 a2 a3 a4 a5 a6 hn b2 hs
  · exact held_full v o i n w a1 a2 a3 a4 a5 a6 (by omega) b3 hs
  · exact held_more v o i n w a1 a2 a3 a4 a5 a6 (by omega) b3 hs

theorem end_any (v o i n : Int) (d : Bool) (w : World) :
    Calls Try.prog 107 #[.agg #[.int .i64 v, .int .i64 o, .int .i64 i], .int .i64 n, .bool d] w fun e w' => e = .returned (.tuple #[.agg #[.int .i64 (eV v o i n d), .int .i64 (eO v o i n), .int .i64 (eI v o i n)], .int .i64 (eC v o i n)]) ∧ Below w.heap.size w w' := by
  rcases end_vals v o i n d with ⟨hb, e1, e2, e3, e4⟩ | ⟨hb, hn, hs, e1, e2, e3, e4⟩ | ⟨hb, hn, hs, e1, e2, e3, e4⟩ | ⟨hb, hn, hs, e1, e2, e3, e4⟩ | ⟨hb, hn, hs, e1, e2, e3, e4⟩
  · rw [e1, e2, e3, e4]; exact end_no v o i n d w (bne_of hb)
  all_goals
    obtain ⟨k1, k2⟩ := both_ok hb
    obtain ⟨a1, a2, a3, a4, a5, a6⟩ := chk_ok k1
    obtain ⟨b1, b2, b3⟩ := dlt_ok k2
    rw [e1, e2, e3, e4]
  · exact end_noless v o i n d w a1 a2 a3 a4 a5 a6 hn b2 hs
  · cases d
    · exact end_less_false v o i n w a1 a2 a3 a4 a5 a6 hn b2 hs
    · exact end_less_true v o i n w a1 a2 a3 a4 a5 a6 hn b2 hs
  · exact end_nomore v o i n d w a1 a2 a3 a4 a5 a6 (by omega) b3 hs
  · cases d
    · exact end_more_false v o i n w a1 a2 a3 a4 a5 a6 (by omega) b3 hs
    · exact end_more_true v o i n w a1 a2 a3 a4 a5 a6 (by omega) b3 hs

end Go.Proofs.Ytbgnajcmhmpjlab

/- The contract of the laws' own first look, countBegun: it answers true. -/
namespace Go.Proofs.Ytbgnajcmhmpjlab
open Go.RowKit

end Go.Proofs.Ytbgnajcmhmpjlab

/- What Hold and End answer, way by way, and the laws of it that the statements ask: plain arithmetic. -/
namespace Go.Proofs.Ytbgnajcmhmpjlab
open Go.RowKit

/-- A contract under a name that the walk does not look behind. -/
def HoldIs (v o i n a b c k : Int) : Prop := ∀ w : World, Calls Try.prog 114 #[.agg #[.int .i64 v, .int .i64 o, .int .i64 i], .int .i64 n] w fun e w' => e = .returned (.tuple #[.agg #[.int .i64 a, .int .i64 b, .int .i64 c], .int .i64 k]) ∧ Below w.heap.size w w'
def EndIs (v o i n : Int) (d : Bool) (a b c k : Int) : Prop := ∀ w : World, Calls Try.prog 107 #[.agg #[.int .i64 v, .int .i64 o, .int .i64 i], .int .i64 n, .bool d] w fun e w' => e = .returned (.tuple #[.agg #[.int .i64 a, .int .i64 b, .int .i64 c], .int .i64 k]) ∧ Below w.heap.size w w'
theorem holdIs (v o i n : Int) : HoldIs v o i n (hV v o i n) (hO v o i n) (hI v o i n) (hC v o i n) := fun w => hold_any v o i n w
theorem endIs (v o i n : Int) (d : Bool) : EndIs v o i n d (eV v o i n d) (eO v o i n) (eI v o i n) (eC v o i n) := fun w => end_any v o i n d w

theorem both_of {v o i n : Int} (h : chk v o i = 0) (h' : dlt n = 0) : both v o i n = 0 := by unfold both; rw [if_pos h, h']
theorem endIs_less {v o i n : Int} (d : Bool) (hb : both v o i n = 0) (hn : n < 0) (h : 0 ≤ o + n) : EndIs v o i n d (if d = true then v + n else v) (o + n) i 0 := by
  have h' : ¬ o + n < 0 := by omega
  have H := endIs v o i n d
  simpa [eV, eO, eI, eC, hb, hn, h'] using H
theorem endIs_more {v o i n : Int} (d : Bool) (hb : both v o i n = 0) (hn : 0 ≤ n) (h : 0 ≤ i - n) : EndIs v o i n d (if d = true then v + n else v) o (i - n) 0 := by
  have h' : ¬ i - n < 0 := by omega
  have hn' : ¬ n < 0 := by omega
  have H := endIs v o i n d
  simpa [eV, eO, eI, eC, hb, hn', h'] using H

/-- What can be held: what it comes to. -/
theorem hold_zero {v o i n : Int} (h : hC v o i n = 0) : (0 ≤ v ∧ v ≤ 100 ∧ 0 ≤ o ∧ o ≤ v ∧ 0 ≤ i ∧ v + i ≤ 100) ∧ n ≠ 0 ∧ -100 ≤ n ∧ n ≤ 100 ∧
    ((n < 0 ∧ o - n ≤ v ∧ hV v o i n = v ∧ hO v o i n = o - n ∧ hI v o i n = i) ∨ (0 < n ∧ v + (i + n) ≤ 100 ∧ hV v o i n = v ∧ hO v o i n = o ∧ hI v o i n = i + n)) := by
  rcases hold_vals v o i n with ⟨hb, e1, e2, e3, e4⟩ | ⟨hb, hn, hs, e1, e2, e3, e4⟩ | ⟨hb, hn, hs, e1, e2, e3, e4⟩ | ⟨hb, hn, hs, e1, e2, e3, e4⟩ | ⟨hb, hn, hs, e1, e2, e3, e4⟩
  · omega
  · omega
  · obtain ⟨k1, k2⟩ := both_ok hb
    obtain ⟨b1, b2, b3⟩ := dlt_ok k2
    exact ⟨chk_ok k1, b1, b2, b3, Or.inl ⟨hn, hs, e2, e3, e4⟩⟩
  · omega
  · obtain ⟨k1, k2⟩ := both_ok hb
    obtain ⟨b1, b2, b3⟩ := dlt_ok k2
    exact ⟨chk_ok k1, b1, b2, b3, Or.inr ⟨by omega, hs, e2, e3, e4⟩⟩
theorem hold_less_of {v o i n : Int} (h1 : 0 ≤ v) (h2 : v ≤ 100) (h3 : 0 ≤ o) (h4 : o ≤ v) (h5 : 0 ≤ i) (h6 : v + i ≤ 100) (h7 : n < 0) (h8 : -100 ≤ n) (h9 : o - n ≤ v) : hC v o i n = 0 ∧ hV v o i n = v ∧ hO v o i n = o - n ∧ hI v o i n = i := by
  have hb : both v o i n = 0 := both_of (chk_of h1 h2 h3 h4 h5 h6) (dlt_of (by omega) h8 (by omega))
  have h' : ¬ v < o - n := by omega
  exact ⟨by simp [hC, hb, h7, h'], by simp [hV, hC, hb, h7, h'], by simp [hO, hC, hb, h7, h'], by simp [hI, hC, hb, h7, h']⟩
theorem hold_more_of {v o i n : Int} (h1 : 0 ≤ v) (h2 : v ≤ 100) (h3 : 0 ≤ o) (h4 : o ≤ v) (h5 : 0 ≤ i) (h6 : v + i ≤ 100) (h7 : 0 < n) (h8 : n ≤ 100) (h9 : v + (i + n) ≤ 100) : hC v o i n = 0 ∧ hV v o i n = v ∧ hO v o i n = o ∧ hI v o i n = i + n := by
  have hb : both v o i n = 0 := both_of (chk_of h1 h2 h3 h4 h5 h6) (dlt_of (by omega) (by omega) h8)
  have h' : ¬ 100 < v + (i + n) := by omega
  have h7' : ¬ n < 0 := by omega
  exact ⟨by simp [hC, hb, h7', h'], by simp [hV, hC, hb, h7', h'], by simp [hO, hC, hb, h7', h'], by simp [hI, hC, hb, h7', h']⟩

/-- What can be held one behind the other can be held the other way round, and comes to the same. -/
theorem hold_turn {v o i n m : Int} (h : hC v o i n = 0) (h' : hC (hV v o i n) (hO v o i n) (hI v o i n) m = 0) :
    hC v o i m = 0 ∧ hC (hV v o i m) (hO v o i m) (hI v o i m) n = 0 ∧ hV (hV v o i n) (hO v o i n) (hI v o i n) m = hV (hV v o i m) (hO v o i m) (hI v o i m) n
    ∧ hO (hV v o i n) (hO v o i n) (hI v o i n) m = hO (hV v o i m) (hO v o i m) (hI v o i m) n ∧ hI (hV v o i n) (hO v o i n) (hI v o i n) m = hI (hV v o i m) (hO v o i m) (hI v o i m) n := by
  obtain ⟨⟨a1, a2, a3, a4, a5, a6⟩, b1, b2, b3, hw⟩ := hold_zero h
  rcases hw with ⟨hn, hs, e2, e3, e4⟩ | ⟨hn, hs, e2, e3, e4⟩
  all_goals
    rw [e2, e3, e4] at h' ⊢
    obtain ⟨⟨c1, c2, c3, c4, c5, c6⟩, d1, d2, d3, hw'⟩ := hold_zero h'
    rcases hw' with ⟨hm, hs', g2, g3, g4⟩ | ⟨hm, hs', g2, g3, g4⟩
    all_goals
      rw [g2, g3, g4]
  · obtain ⟨f1, f2, f3, f4⟩ := hold_less_of (v := v) (o := o) (i := i) (n := m) a1 a2 a3 a4 a5 a6 hm d2 (by omega)
    rw [f2, f3, f4]
    obtain ⟨k1, k2, k3, k4⟩ := hold_less_of (v := v) (o := o - m) (i := i) (n := n) a1 a2 (by omega) (by omega) a5 a6 hn b2 (by omega)
    exact ⟨f1, k1, k2.symm, by rw [k3]; omega, k4.symm⟩
  · obtain ⟨f1, f2, f3, f4⟩ := hold_more_of (v := v) (o := o) (i := i) (n := m) a1 a2 a3 a4 a5 a6 hm d3 (by omega)
    rw [f2, f3, f4]
    obtain ⟨k1, k2, k3, k4⟩ := hold_less_of (v := v) (o := o) (i := i + m) (n := n) a1 a2 (by omega) (by omega) (by omega) (by omega) hn b2 (by omega)
    exact ⟨f1, k1, k2.symm, k3.symm, k4.symm⟩
  · obtain ⟨f1, f2, f3, f4⟩ := hold_less_of (v := v) (o := o) (i := i) (n := m) a1 a2 a3 a4 a5 a6 hm d2 (by omega)
    rw [f2, f3, f4]
    obtain ⟨k1, k2, k3, k4⟩ := hold_more_of (v := v) (o := o - m) (i := i) (n := n) a1 a2 (by omega) (by omega) a5 a6 hn b3 (by omega)
    exact ⟨f1, k1, k2.symm, k3.symm, k4.symm⟩
  · obtain ⟨f1, f2, f3, f4⟩ := hold_more_of (v := v) (o := o) (i := i) (n := m) a1 a2 a3 a4 a5 a6 hm d3 (by omega)
    rw [f2, f3, f4]
    obtain ⟨k1, k2, k3, k4⟩ := hold_more_of (v := v) (o := o) (i := i + m) (n := n) a1 a2 (by omega) (by omega) (by omega) (by omega) hn b3 (by omega)
    exact ⟨f1, k1, k2.symm, k3.symm, by rw [k4]; omega⟩

end Go.Proofs.Ytbgnajcmhmpjlab

/- The plain mathematics of package shop: what a shop and the document's booth answer, as functions on one book. No program is named here. -/
namespace Go.Proofs.Ytbgnajcmhmpjlab
open Go.RowKit

/-- A hold: its deal, its counter, its delta. -/
abbrev H3 := Int × Int × Int

def outOf (h : H3) (c : Int) : Int := if h.2.1 = c then (if h.2.2 < 0 then -h.2.2 else 0) else 0
def innOf (h : H3) (c : Int) : Int := if h.2.1 = c then (if h.2.2 < 0 then 0 else h.2.2) else 0
def gainOf (deal : Int) (done : Bool) (h : H3) (c : Int) : Int := if h.1 = deal ∧ h.2.1 = c ∧ done = true then h.2.2 else 0
/-- What is held of a counter to go, and to come; what a deal that is done makes of it. -/
def outs : List H3 → Int → Int
  | [], _ => 0
  | h :: r, c => outOf h c + outs r c
def inns : List H3 → Int → Int
  | [], _ => 0
  | h :: r, c => innOf h c + inns r c
def gain (deal : Int) (done : Bool) : List H3 → Int → Int
  | [], _ => 0
  | h :: r, c => gainOf deal done h c + gain deal done r c
theorem outs_append (l m : List H3) (c : Int) : outs (l ++ m) c = outs l c + outs m c := by
  induction l with
  | nil => simp [outs]
  | cons h r ih => simp only [List.cons_append, outs, ih]; omega
theorem inns_append (l m : List H3) (c : Int) : inns (l ++ m) c = inns l c + inns m c := by
  induction l with
  | nil => simp [inns]
  | cons h r ih => simp only [List.cons_append, inns, ih]; omega
theorem gain_append (deal : Int) (done : Bool) (l m : List H3) (c : Int) : gain deal done (l ++ m) c = gain deal done l c + gain deal done m c := by
  induction l with
  | nil => simp [gain]
  | cons h r ih => simp only [List.cons_append, gain, ih]; omega
theorem outOf_nonneg (h : H3) (c : Int) : 0 ≤ outOf h c := by unfold outOf; repeat' split
                                                              all_goals omega
theorem innOf_nonneg (h : H3) (c : Int) : 0 ≤ innOf h c := by unfold innOf; repeat' split
                                                              all_goals omega
theorem outs_nonneg (l : List H3) (c : Int) : 0 ≤ outs l c := by
  induction l with
  | nil => simp [outs]
  | cons h r ih => have := outOf_nonneg h c; simp only [outs]; omega
theorem inns_nonneg (l : List H3) (c : Int) : 0 ≤ inns l c := by
  induction l with
  | nil => simp [inns]
  | cons h r ih => have := innOf_nonneg h c; simp only [inns]; omega
theorem outs_snoc {l : List H3} {k : Nat} {h : H3} (e : l[k]? = some h) (c : Int) : outs (l.take (k + 1)) c = outs (l.take k) c + outOf h c := by
  rw [take_snoc e, outs_append]; simp [outs]
theorem inns_snoc {l : List H3} {k : Nat} {h : H3} (e : l[k]? = some h) (c : Int) : inns (l.take (k + 1)) c = inns (l.take k) c + innOf h c := by
  rw [take_snoc e, inns_append]; simp [inns]
theorem gain_snoc {deal : Int} {done : Bool} {l : List H3} {k : Nat} {h : H3} (e : l[k]? = some h) (c : Int) : gain deal done (l.take (k + 1)) c = gain deal done (l.take k) c + gainOf deal done h c := by
  rw [take_snoc e, gain_append]; simp [gain]
theorem outs_take_le (l : List H3) (k : Nat) (c : Int) : outs (l.take k) c ≤ outs l c := by
  have h := outs_append (l.take k) (l.drop k) c
  rw [List.take_append_drop] at h
  have := outs_nonneg (l.drop k) c
  omega
theorem inns_take_le (l : List H3) (k : Nat) (c : Int) : inns (l.take k) c ≤ inns l c := by
  have h := inns_append (l.take k) (l.drop k) c
  rw [List.take_append_drop] at h
  have := inns_nonneg (l.drop k) c
  omega

/-- Is a deal over, and was it done? -/
def over : List (Int × Bool) → Int → Option Bool
  | [], _ => none
  | e :: r, x => if e.1 = x then some e.2 else over r x
theorem over_append (l m : List (Int × Bool)) (x : Int) : over (l ++ m) x = (match over l x with | some b => some b | none => over m x) := by
  induction l with
  | nil => rfl
  | cons e r ih =>
    simp only [List.cons_append, over]
    split
    · rfl
    · exact ih
def ovB (es : List (Int × Bool)) (x : Int) : Bool := (over es x).isSome
def dnB (es : List (Int × Bool)) (x : Int) : Bool := over es x == some true

/-- The book of a shop: its number, what its two counters have, what is held, which deals are over. -/
structure Bk where
  no : Int
  v0 : Int
  v1 : Int
  hs : List H3
  es : List (Int × Bool)
def Bk.val (A : Bk) : Nat → Int
  | 0 => A.v0
  | _ => A.v1
def Bk.out (A : Bk) (k : Nat) : Int := outs A.hs (A.no * 2 + k)
def Bk.inn (A : Bk) (k : Nat) : Int := inns A.hs (A.no * 2 + k)
def same (deal c : Int) (h : H3) : Bool := h.1 == deal && h.2.1 == c
/-- Hold: the code, and the book behind it. -/
def holdR (A : Bk) (deal c d : Int) : Int × Bk :=
  if deal < 0 then (1, A) else if 8 ≤ deal then (1, A) else if wnt c d = 0 then (if shp c = A.no then (match over A.es deal with
    | some _ => (8, A)
    | none => match A.hs.find? (same deal c) with
      | some h => if h.2.2 = d then (0, A) else (9, A)
      | none => if hC (A.val (c % 2).toNat) (outs A.hs c) (inns A.hs c) d = 0 then (0, { A with hs := A.hs ++ [(deal, c, d)] }) else (hC (A.val (c % 2).toNat) (outs A.hs c) (inns A.hs c) d, A)) else (1, A)) else (wnt c d, A)
def endA (A : Bk) (deal : Int) (done : Bool) : Bk := { A with v0 := A.v0 + gain deal done A.hs (A.no * 2), v1 := A.v1 + gain deal done A.hs (A.no * 2 + 1), hs := A.hs.filter (fun h => h.1 != deal), es := A.es ++ [(deal, done)] }
/-- End: the code, and the book behind it. -/
def endR (A : Bk) (deal : Int) (done : Bool) : Int × Bk :=
  if deal < 0 then (1, A) else if 8 ≤ deal then (1, A) else match over A.es deal with
    | some b => if b = done then (0, A) else (9, A)
    | none => (0, endA A deal done)

/-- A book that may be. -/
structure Good (A : Bk) : Prop where
  no0 : 0 ≤ A.no
  no3 : A.no < 3
  cnt : ∀ k : Nat, k < 2 → chk (A.val k) (A.out k) (A.inn k) = 0
  each : ∀ h ∈ A.hs, 0 ≤ h.1 ∧ h.1 < 8 ∧ shp h.2.1 = A.no ∧ wnt h.2.1 h.2.2 = 0 ∧ over A.es h.1 = none
  ends : ∀ e ∈ A.es, 0 ≤ e.1 ∧ e.1 < 8
theorem over_none {es : List (Int × Bool)} {x : Int} (h : ∀ e ∈ es, e.1 ≠ x) : over es x = none := by
  induction es with
  | nil => rfl
  | cons e r ih => rw [over, if_neg (h e (by simp)), ih (fun e' he' => h e' (by simp [he']))]

/-- A counter of the shop's: its place. -/
theorem shp_place {c n : Int} (h0 : 0 ≤ c) (h1 : c < 6) (h : shp c = n) : c = n * 2 + c % 2 ∧ 0 ≤ c % 2 ∧ c % 2 < 2 := by
  rw [shp_eq h0 h1] at h
  omega
theorem shp_of {c : Int} (h0 : 0 ≤ shp c) : 0 ≤ c ∧ c < 6 := by
  have := @shp_neg c
  omega

/-- What is left to be looked through when k holds of a deal that is over were: those ahead that are not its own, and all others. -/
def left (deal : Int) (l : List H3) (k : Nat) : List H3 := (l.take k).filter (fun h => h.1 != deal) ++ l.drop k
theorem left_zero (deal : Int) (l : List H3) : left deal l 0 = l := rfl
theorem left_all (deal : Int) (l : List H3) (k : Nat) (hk : l.length ≤ k) : left deal l k = l.filter (fun h => h.1 != deal) := by
  unfold left
  rw [List.take_of_length_le hk, List.drop_of_length_le hk, List.append_nil]
theorem left_other {deal : Int} {l : List H3} {k : Nat} {h : H3} (e : l[k]? = some h) (hd : h.1 ≠ deal) : left deal l (k + 1) = left deal l k := by
  unfold left
  rw [take_snoc e, List.filter_append, drop_cons e]
  simp [hd]
theorem left_own {deal : Int} {l : List H3} {k : Nat} {h : H3} (e : l[k]? = some h) (hd : h.1 = deal) (c : Int) : outs (left deal l k) c = outs (left deal l (k + 1)) c + outOf h c ∧ inns (left deal l k) c = inns (left deal l (k + 1)) c + innOf h c := by
  unfold left
  rw [take_snoc e, List.filter_append, drop_cons e]
  simp only [outs_append, inns_append, outs, inns]
  simp [hd, outs, inns]
  omega

/-- One hold of a deal that is over, on the counters: the code is none, and the counters may be. -/
theorem end_one {v o i n o' i' : Int} (done : Bool) (hc : chk v o i = 0) (hd : dlt n = 0) (ho : o = o' + (if n < 0 then -n else 0)) (hi : i = i' + (if n < 0 then 0 else n)) (ho' : 0 ≤ o') (hi' : 0 ≤ i') :
    EndIs v o i n done (v + if done = true then n else 0) o' i' 0 ∧ chk (v + if done = true then n else 0) o' i' = 0 := by
  obtain ⟨c1, c2, c3, c4, c5, c6⟩ := chk_ok hc
  obtain ⟨d1, d2, d3⟩ := dlt_ok hd
  have hb := both_of hc hd
  by_cases hn : n < 0
  · rw [if_pos hn] at ho hi
    have h1 := endIs_less done hb hn (by omega)
    have e1 : o + n = o' := by omega
    have e2 : i' = i := by omega
    subst e2
    rw [e1] at h1
    cases done
    · simp only [Bool.false_eq_true, if_false, Int.add_zero] at h1 ⊢
      exact ⟨h1, chk_of (by omega) (by omega) (by omega) (by omega) (by omega) (by omega)⟩
    · simp only [if_true] at h1 ⊢
      exact ⟨h1, chk_of (by omega) (by omega) (by omega) (by omega) (by omega) (by omega)⟩
  · rw [if_neg hn] at ho hi
    have h1 := endIs_more done hb (by omega) (by omega)
    have e1 : i - n = i' := by omega
    have e2 : o' = o := by omega
    subst e2
    rw [e1] at h1
    cases done
    · simp only [Bool.false_eq_true, if_false, Int.add_zero] at h1 ⊢
      exact ⟨h1, chk_of (by omega) (by omega) (by omega) (by omega) (by omega) (by omega)⟩
    · simp only [if_true] at h1 ⊢
      exact ⟨h1, chk_of (by omega) (by omega) (by omega) (by omega) (by omega) (by omega)⟩

end Go.Proofs.Ytbgnajcmhmpjlab

/- How a shop and what it holds lie in memory, and what a step of it leaves of all else. -/
namespace Go.Proofs.Ytbgnajcmhmpjlab
open Go.RowKit

/-- A list of holds as memory holds it: three numbers each. -/
def HoldsAt (w : World) (la : Option Addr) (l : List H3) : Prop := ∀ k a c d, l[k]? = some (a, c, d) → ∃ b off, la = some ⟨b, off, none⟩ ∧ b < w.heap.size ∧ w.cell? ⟨b, off + k * 3, none⟩ = some (.int .i64 a) ∧ w.cell? ⟨b, off + k * 3 + 1, none⟩ = some (.int .i64 c) ∧ w.cell? ⟨b, off + k * 3 + 2, none⟩ = some (.int .i64 d)
theorem HoldsAt.below {w w' : World} {B : Nat} {la : Option Addr} {l : List H3} (h : HoldsAt w la l) (hb : Below B w w') (hB : w.heap.size ≤ B) : HoldsAt w' la l := by
  intro k a c d hk
  obtain ⟨b, off, e, hlt, h0, h1, h2⟩ := h k a c d hk
  have hb' : b < B := by omega
  refine ⟨b, off, e, ?_, (hb.cell (p := ⟨b, off + k * 3, none⟩) hb').trans h0, (hb.cell (p := ⟨b, off + k * 3 + 1, none⟩) hb').trans h1, (hb.cell (p := ⟨b, off + k * 3 + 2, none⟩) hb').trans h2⟩
  have := hb.size
  omega

/-- A list of holds, cell by cell. -/
def flat3 (l : List H3) : List Value := l.flatMap (fun x => [.int .i64 x.1, .int .i64 x.2.1, .int .i64 x.2.2])
theorem flat3_length (l : List H3) : (flat3 l).length = l.length * 3 := by
  unfold flat3
  induction l with
  | nil => rfl
  | cons x r ih => rw [List.flatMap_cons, List.length_append, ih]; simp; omega
theorem flat3_append (l m : List H3) : flat3 (l ++ m) = flat3 l ++ flat3 m := by unfold flat3; simp
theorem flat3_snoc (l : List H3) (a c d : Int) : flat3 (l ++ [(a, c, d)]) = flat3 l ++ [.int .i64 a, .int .i64 c, .int .i64 d] := by
  unfold flat3; simp
theorem flat3_at (l : List H3) : ∀ k a c d, l[k]? = some (a, c, d) → (flat3 l)[k * 3]? = some (.int .i64 a) ∧ (flat3 l)[k * 3 + 1]? = some (.int .i64 c) ∧ (flat3 l)[k * 3 + 2]? = some (.int .i64 d) := by
  intro k a c d h
  have hk := (List.getElem?_eq_some_iff.1 h).1
  have e : l = l.take k ++ (a, c, d) :: l.drop (k + 1) := by rw [← drop_cons h, List.take_append_drop]
  have hl : (flat3 (l.take k)).length = k * 3 := by rw [flat3_length, List.length_take, Nat.min_eq_left (by omega)]
  have e2 : flat3 l = flat3 (l.take k) ++ (.int .i64 a :: .int .i64 c :: .int .i64 d :: flat3 (l.drop (k + 1))) := by
    conv => lhs; rw [e]
    rw [flat3_append]
    rfl
  rw [e2]
  refine ⟨?_, ?_, ?_⟩
  · rw [List.getElem?_append_right (by omega), hl, Nat.sub_self]; rfl
  · rw [List.getElem?_append_right (by omega), hl, show k * 3 + 1 - k * 3 = 1 by omega]; rfl
  · rw [List.getElem?_append_right (by omega), hl, show k * 3 + 2 - k * 3 = 2 by omega]; rfl
theorem holds_of_own {w : World} {B e n : Nat} {v : Value} {l : List H3} (h : w.ownsRow B e 3 v n (flat3 l)) : ∃ ga cap, v = .slice ga n cap ∧ HoldsAt w ga l ∧ l.length = n := by
  have hn : l.length = n := by have := h.1; rw [flat3_length] at this; omega
  rcases h.2 with ⟨e1, e0⟩ | ⟨g, cap, cur, e1, hb, hg, hc, hm, hz, ht⟩
  · refine ⟨none, 0, by rw [e1, e0], ?_, hn⟩
    intro k a c d hk
    have := (List.getElem?_eq_some_iff.1 hk).1
    omega
  · refine ⟨_, cap, e1, fun k a c d hk => ⟨g, 0, rfl, (Array.getElem?_eq_some_iff.1 hg).1, ?_⟩, hn⟩
    have hk' := (List.getElem?_eq_some_iff.1 hk).1
    obtain ⟨f0, f1, f2⟩ := flat3_at l k a c d hk
    have q : ∀ j u, j < n * 3 → (flat3 l)[j]? = some u → w.cell? ⟨g, 0 + j, none⟩ = some u := by
      intro j u hj hu
      have h1 : (cur.toList.take (n * 3))[j]? = (flat3 l)[j]? := by rw [ht]
      rw [List.getElem?_take_of_lt hj, hu] at h1
      simp only [World.cell?, hg]
      simpa using h1
    exact ⟨by simpa using q _ _ (by omega) f0, by simpa using q _ _ (by omega) f1, by simpa using q _ _ (by omega) f2⟩

/-- A row of cells that may be written. -/
def Row (w : World) (g e n : Nat) : Prop := ∃ cur, w.heap[g]? = some (.cells cur e (0, 0)) ∧ cur.size = n
theorem Row.setCell {w : World} {g e n : Nat} (h : Row w g e n) (p : Addr) (u : Value) : Row (w.setCell p u) g e n := by
  obtain ⟨cur, hg, hs⟩ := h
  by_cases hp : g = p.block
  · subst hp
    refine ⟨if p.spot.isSome then cur else cur.setIfInBounds p.off u, ?_, by split <;> simp [hs]⟩
    simp [World.setCell, Array.getElem?_modify, hg]
  · exact ⟨cur, by rw [Below.heap_setCell _ _ _ _ hp]; exact hg, hs⟩
theorem Row.setCells {g e n : Nat} (b : Nat) : ∀ (vs : List Value) (o : Nat) (w : World), Row w g e n → Row (w.setCells b o vs) g e n
  | [], _, _, h => h
  | v :: r, o, w, h => by rw [World.setCells]; exact Row.setCells b r (o + 1) _ (h.setCell _ _)
theorem Row.below {w w' : World} {B g e n : Nat} (h : Row w g e n) (hb : Below B w w') (hB : g < B) : Row w' g e n := by
  obtain ⟨cur, hg, hs⟩ := h
  exact ⟨cur, by rw [hb.block g hB]; exact hg, hs⟩
theorem Row.lt {w : World} {g e n : Nat} (h : Row w g e n) : g < w.heap.size := by
  obtain ⟨cur, hg, hs⟩ := h
  exact (Array.getElem?_eq_some_iff.1 hg).1
theorem Row.loose {w : World} {g e n : Nat} (h : Row w g e n) : ∀ k, w.frozen? ⟨g, k, none⟩ = false := by
  obtain ⟨cur, hg, hs⟩ := h
  intro k
  simp [World.frozen?, hg]
theorem Row.some {w : World} {g e n j : Nat} (h : Row w g e n) (hj : j < n) : (w.cell? ⟨g, j, none⟩).isSome = true := by
  obtain ⟨cur, hg, hs⟩ := h
  simp [World.cell?, hg, hs, hj]
theorem own_row {w : World} {B e s n g cap : Nat} {xs : List Value} (h : w.ownsRow B e s (.slice (Option.some ⟨g, 0, none⟩) n cap) n xs) : B ≤ g ∧ Row w g e (cap * s) ∧ n ≤ cap ∧ cap ≤ maxLen ∧ ∀ j u, xs[j]? = Option.some u → w.cell? ⟨g, j, none⟩ = Option.some u := by
  rcases h.2 with ⟨e1, e0⟩ | ⟨g', cap', cur, e1, hb, hg, hc, hm, hz, ht⟩
  · simp at e1
  · simp only [Value.slice.injEq, Option.some.injEq, Addr.mk.injEq, and_true, true_and] at e1
    obtain ⟨rfl, rfl⟩ := e1
    refine ⟨hb, ⟨cur, hg, hz⟩, hc, hm, fun j u hu => ?_⟩
    have hj : j < n * s := by have := (List.getElem?_eq_some_iff.1 hu).1; rw [h.1] at this; exact this
    have h1 : (cur.toList.take (n * s))[j]? = xs[j]? := by rw [ht]
    rw [List.getElem?_take_of_lt hj, hu] at h1
    simp only [World.cell?, hg]
    simpa using h1
theorem row_own {w : World} {B e s n g cap : Nat} {xs : List Value} (hr : Row w g e (cap * s)) (hB : B ≤ g) (hc : n ≤ cap) (hm : cap ≤ maxLen) (hl : xs.length = n * s) (hx : ∀ j u, xs[j]? = Option.some u → w.cell? ⟨g, j, none⟩ = Option.some u) : w.ownsRow B e s (.slice (Option.some ⟨g, 0, none⟩) n cap) n xs := by
  obtain ⟨cur, hg, hs⟩ := hr
  refine ⟨hl, .inr ⟨g, cap, cur, rfl, hB, hg, hc, hm, hs, ?_⟩⟩
  have hle : n * s ≤ cap * s := Nat.mul_le_mul_right _ hc
  apply List.ext_getElem?
  intro j
  by_cases hj : j < n * s
  · rw [List.getElem?_take_of_lt hj]
    obtain ⟨u, hu⟩ : ∃ u, xs[j]? = Option.some u := ⟨_, List.getElem?_eq_getElem (by omega)⟩
    have := hx j u hu
    rw [hu, ← this]
    simp [World.cell?, hg]
  · rw [List.getElem?_eq_none (by simp; omega), List.getElem?_eq_none (by omega)]

/-- All but O is as it was. -/
structure Save (O : Nat → Prop) (a b : World) : Prop where
  os : b.os = a.os
  tape : b.tape = a.tape
  output : b.output = a.output
  size : a.heap.size ≤ b.heap.size
  block : ∀ k, k < a.heap.size → ¬ O k → b.heap[k]? = a.heap[k]?
theorem Save.refl (O : Nat → Prop) (a : World) : Save O a a := ⟨rfl, rfl, rfl, Nat.le_refl _, fun _ _ _ => rfl⟩
theorem Save.trans {O O' : Nat → Prop} {a b c : World} (h : Save O a b) (k : Save O' b c) (hO : ∀ j, j < a.heap.size → O' j → O j) : Save O a c :=
  ⟨k.os.trans h.os, k.tape.trans h.tape, k.output.trans h.output, Nat.le_trans h.size k.size, fun j hj hn => (k.block j (Nat.lt_of_lt_of_le hj h.size) (fun q => hn (hO j hj q))).trans (h.block j hj hn)⟩
theorem Save.of_below {O : Nat → Prop} {a b : World} (h : Below a.heap.size a b) : Save O a b := ⟨h.os, h.tape, h.output, h.size, fun j hj _ => h.block j hj⟩
theorem Save.next {O : Nat → Prop} {a b c : World} (h : Save O a b) (k : Below b.heap.size b c) : Save O a c :=
  h.trans (O' := fun _ => False) (.of_below k) (fun _ _ q => q.elim)
theorem Save.mono {O O' : Nat → Prop} {a b : World} (h : Save O a b) (hO : ∀ j, j < a.heap.size → O j → O' j) : Save O' a b := ⟨h.os, h.tape, h.output, h.size, fun j hj hn => h.block j hj (fun q => hn (hO j hj q))⟩
theorem Save.below {O : Nat → Prop} {B : Nat} {a b : World} (h : Save O a b) (hB : ∀ k, k < B → ¬ O k) (hs : B ≤ a.heap.size) : Below B a b := ⟨h.os, h.tape, h.output, h.size, fun j hj => h.block j (Nat.lt_of_lt_of_le hj hs) (hB j hj)⟩
theorem Save.setCell {O : Nat → Prop} {a b : World} (h : Save O a b) {p : Addr} (hp : p.block < a.heap.size → O p.block) (u : Value) : Save O a (b.setCell p u) :=
  ⟨h.os, h.tape, h.output, by simpa using h.size, fun j hj hn => (Below.heap_setCell _ _ _ _ (fun e => hn (by subst e; exact hp hj))).trans (h.block j hj hn)⟩
theorem Save.set3 {O : Nat → Prop} {a b : World} (h : Save O a b) (g : Nat) (hg : O g) (o1 o2 o3 : Nat) (u1 u2 u3 : Value) : Save O a (((b.setCell ⟨g, o1, none⟩ u1).setCell ⟨g, o2, none⟩ u2).setCell ⟨g, o3, none⟩ u3) :=
  ((h.setCell (p := ⟨g, o1, none⟩) (fun _ => hg) u1).setCell (p := ⟨g, o2, none⟩) (fun _ => hg) u2).setCell (p := ⟨g, o3, none⟩) (fun _ => hg) u3
theorem Save.setCells {O : Nat → Prop} {a : World} (g : Nat) (hg : g < a.heap.size → O g) : ∀ (vs : List Value) (o : Nat) (b : World), Save O a b → Save O a (b.setCells g o vs)
  | [], _, _, h => h
  | v :: r, o, b, h => by rw [World.setCells]; exact Save.setCells g hg r (o + 1) _ (h.setCell (p := ⟨g, o, none⟩) hg v)
theorem Save.grown {O : Nat → Prop} {a b c : World} {row : Option Nat} (h : Save O a b) (hg : b.grownBy c row) (hr : ∀ k, row = some k → k < a.heap.size → O k) : Save O a c :=
  ⟨hg.os.trans h.os, hg.tape.trans h.tape, hg.output.trans h.output, Nat.le_trans h.size hg.size, fun j hj hn => (hg.block j (Nat.lt_of_lt_of_le hj h.size) (fun e => hn (hr j e.symm hj))).trans (h.block j hj hn)⟩
theorem Save.cell {O : Nat → Prop} {a b : World} (h : Save O a b) {p : Addr} (hp : p.block < a.heap.size) (hn : ¬ O p.block) : b.cell? p = a.cell? p := World.cell?_of_block (h.block _ hp hn)
theorem Save.frozen {O : Nat → Prop} {a b : World} (h : Save O a b) {p : Addr} (hp : p.block < a.heap.size) (hn : ¬ O p.block) : b.frozen? p = a.frozen? p := World.frozen?_of_block (h.block _ hp hn)
theorem own_save {O : Nat → Prop} {w w1 : World} {B e s n : Nat} {v : Value} {xs : List Value} (h : w.ownsRow B e s v n xs) (hb : Save O w w1) (hn : ∀ k, v.ownBlock = some k → ¬ O k) : w1.ownsRow B e s v n xs := by
  refine ⟨h.1, ?_⟩
  rcases h.2 with h2 | ⟨g, cap, cur, hv, hg, hh, r⟩
  · exact .inl h2
  · refine .inr ⟨g, cap, cur, hv, hg, ?_, r⟩
    rw [hb.block g (Array.getElem?_eq_some_iff.1 hh).1 (hn g (by rw [hv]; rfl))]
    exact hh

theorem BoxAt.save {O : Nat → Prop} {w w1 : World} {b : Nat} {vs : List Value} (h : BoxAt w b vs) (hb : Save O w w1) (hn : ¬ O b) : BoxAt w1 b vs :=
  ⟨Nat.lt_of_lt_of_le h.1 hb.size, fun j v hj => (hb.cell (p := ⟨b, j, none⟩) h.1 hn).trans (h.2 j v hj)⟩
theorem addr_add (g j : Nat) : (⟨g, 0, none⟩ : Addr).add j = ⟨g, j, none⟩ := by unfold Addr.add; split <;> simp_all
theorem own_cap {w : World} {B e s n cap : Nat} {ga : Option Addr} {xs : List Value} (h : w.ownsRow B e s (.slice ga n cap) n xs) : n ≤ cap := by
  rcases h.2 with ⟨e1, e0⟩ | ⟨g', cap', cur, e1, hb, hg, hc, hm, hz, ht⟩
  · omega
  · simp only [Value.slice.injEq] at e1
    omega

/-- A shop's own block: its number, its counters, what it holds (the list's head), which deals are over and done. -/
structure ShopRaw (w : World) (p : Nat) (no : Int) (c : Nat → Int) (hv : Value) (ov dn : Nat → Bool) : Prop where
  lt : p < w.heap.size
  no : w.cell? ⟨p, 0, none⟩ = some (.int .i64 no)
  cs : ∀ j : Nat, j < 6 → w.cell? ⟨p, 1 + j, none⟩ = some (.int .i64 (c j))
  hv : w.cell? ⟨p, 7, none⟩ = some hv
  ov : ∀ d : Nat, d < 8 → w.cell? ⟨p, 8 + d * 2, none⟩ = some (.bool (ov d))
  dn : ∀ d : Nat, d < 8 → w.cell? ⟨p, 8 + d * 2 + 1, none⟩ = some (.bool (dn d))
  loose : ∀ k, w.frozen? ⟨p, k, none⟩ = false
theorem ShopRaw.save {O : Nat → Prop} {w w1 : World} {p : Nat} {no : Int} {c : Nat → Int} {hv : Value} {ov dn : Nat → Bool} (h : ShopRaw w p no c hv ov dn) (hb : Save O w w1) (hn : ¬ O p) : ShopRaw w1 p no c hv ov dn := by
  have hl := h.lt
  have hs := hb.size
  have q : ∀ o, w1.cell? ⟨p, o, none⟩ = w.cell? ⟨p, o, none⟩ := fun o => hb.cell (p := ⟨p, o, none⟩) hl hn
  exact ⟨by omega, (q _).trans h.no, fun j hj => (q _).trans (h.cs j hj), (q _).trans h.hv, fun d hd => (q _).trans (h.ov d hd), fun d hd => (q _).trans (h.dn d hd), fun k => (hb.frozen (p := ⟨p, k, none⟩) hl hn).trans (h.loose k)⟩
theorem ShopRaw.next {w w1 : World} {p : Nat} {no : Int} {c : Nat → Int} {hv : Value} {ov dn : Nat → Bool} (h : ShopRaw w p no c hv ov dn) (hb : Below w.heap.size w w1) : ShopRaw w1 p no c hv ov dn :=
  h.save (O := fun _ => False) (.of_below hb) (fun q => q)
theorem cell_set_same {w : World} {p o : Nat} {u v : Value} (h : w.cell? ⟨p, o, none⟩ = some v) : (w.setCell ⟨p, o, none⟩ u).cell? ⟨p, o, none⟩ = some u := World.cell?_setCell_same _ _ _ h
theorem cell_set_off {w : World} {p o o' : Nat} {u : Value} (h : o ≠ o') : (w.setCell ⟨p, o', none⟩ u).cell? ⟨p, o, none⟩ = w.cell? ⟨p, o, none⟩ := World.cell?_setCell_other _ _ _ _ (by intro e; simp only [Addr.mk.injEq] at e; omega)
theorem cell_set_block {w : World} {p b o o' : Nat} {u : Value} (h : p ≠ b) : (w.setCell ⟨b, o', none⟩ u).cell? ⟨p, o, none⟩ = w.cell? ⟨p, o, none⟩ := World.cell?_setCell_other _ _ _ _ (by intro e; simp only [Addr.mk.injEq] at e; omega)
/-- One number of the counters is stored. -/
theorem ShopRaw.setC {w : World} {p : Nat} {no : Int} {c : Nat → Int} {hv : Value} {ov dn : Nat → Bool} (h : ShopRaw w p no c hv ov dn) (m : Nat) (hm : m < 6) (v : Int) : ShopRaw (w.setCell ⟨p, 1 + m, none⟩ (.int .i64 v)) p no (upd c m v) hv ov dn := by
  refine ⟨by simpa using h.lt, (cell_set_off (by omega)).trans h.no, ?_, (cell_set_off (by omega)).trans h.hv, fun d hd => (cell_set_off (by omega)).trans (h.ov d hd), fun d hd => (cell_set_off (by omega)).trans (h.dn d hd), by simpa [go_sem] using h.loose⟩
  intro j hj
  unfold upd
  by_cases e : j = m
  · subst e
    rw [cell_set_same (h.cs j hj), if_pos rfl]
  · rw [cell_set_off (by omega), h.cs j hj, if_neg e]
theorem ShopRaw.setH {w : World} {p : Nat} {no : Int} {c : Nat → Int} {hv : Value} {ov dn : Nat → Bool} (h : ShopRaw w p no c hv ov dn) (u : Value) : ShopRaw (w.setCell ⟨p, 7, none⟩ u) p no c u ov dn :=
  ⟨by simpa using h.lt, (cell_set_off (by omega)).trans h.no, fun j hj => (cell_set_off (by omega)).trans (h.cs j hj), cell_set_same h.hv, fun d hd => (cell_set_off (by omega)).trans (h.ov d hd), fun d hd => (cell_set_off (by omega)).trans (h.dn d hd), by simpa [go_sem] using h.loose⟩
def updB (f : Nat → Bool) (k : Nat) (b : Bool) : Nat → Bool := fun j => if j = k then b else f j
theorem ShopRaw.setE {w : World} {p : Nat} {no : Int} {c : Nat → Int} {hv : Value} {ov dn : Nat → Bool} (h : ShopRaw w p no c hv ov dn) (n : Nat) (hn : n < 8) (a b : Bool) : ShopRaw ((w.setCell ⟨p, 8 + n * 2, none⟩ (.bool a)).setCell ⟨p, 8 + n * 2 + 1, none⟩ (.bool b)) p no c hv (updB ov n a) (updB dn n b) := by
  refine ⟨by simpa using h.lt, ((cell_set_off (by omega)).trans (cell_set_off (by omega))).trans h.no, fun j hj => ((cell_set_off (by omega)).trans (cell_set_off (by omega))).trans (h.cs j hj), ((cell_set_off (by omega)).trans (cell_set_off (by omega))).trans h.hv, ?_, ?_, by simpa [go_sem] using h.loose⟩
  · intro d hd
    unfold updB
    by_cases e : d = n
    · subst e
      rw [if_pos rfl, cell_set_off (by omega), cell_set_same (h.ov d hd)]
    · rw [if_neg e, cell_set_off (by omega), cell_set_off (by omega), h.ov d hd]
  · intro d hd
    unfold updB
    by_cases e : d = n
    · subst e
      rw [if_pos rfl, cell_set_same ((cell_set_off (by omega)).trans (h.dn d hd))]
    · rw [if_neg e, cell_set_off (by omega), cell_set_off (by omega), h.dn d hd]

/-- The six numbers of a shop's counters. -/
def cnt6 (A : Bk) : Nat → Int
  | 0 => A.v0
  | 1 => outs A.hs (A.no * 2)
  | 2 => inns A.hs (A.no * 2)
  | 3 => A.v1
  | 4 => outs A.hs (A.no * 2 + 1)
  | _ => inns A.hs (A.no * 2 + 1)
/-- A shop whose book is A, in blocks of O. -/
structure ShopIn (O : Nat → Prop) (w : World) (p : Nat) (A : Bk) : Prop where
  own : ∀ k, O k → k < w.heap.size
  mine : O p
  raw : ∃ hv, ShopRaw w p A.no (cnt6 A) hv (fun d => ovB A.es d) (fun d => dnB A.es d) ∧ w.ownsRow (p + 1) 92 3 hv A.hs.length (flat3 A.hs) ∧ ∀ k, hv.ownBlock = some k → O k
theorem ShopIn.save {O O' : Nat → Prop} {w w1 : World} {p : Nat} {A : Bk} (h : ShopIn O w p A) (hb : Save O' w w1) (hn : ∀ k, O k → ¬ O' k) : ShopIn O w1 p A := by
  obtain ⟨hv, h1, h2, h3⟩ := h.raw
  exact ⟨fun k hk => Nat.lt_of_lt_of_le (h.own k hk) hb.size, h.mine, hv, h1.save hb (hn p h.mine), own_save h2 hb (fun k hk => hn k (h3 k hk)), h3⟩
theorem ShopIn.next {O : Nat → Prop} {w w1 : World} {p : Nat} {A : Bk} (h : ShopIn O w p A) (hb : Below w.heap.size w w1) : ShopIn O w1 p A :=
  h.save (O' := fun _ => False) (.of_below hb) (fun _ _ q => q)
/-- What a step of an object with the blocks O leaves: its new blocks are its old ones, or new memory. -/
def Moved (O O' : Nat → Prop) (w : World) : Prop := ∀ k, O' k → O k ∨ w.heap.size ≤ k
theorem Moved.refl (O : Nat → Prop) (w : World) : Moved O O w := fun _ h => .inl h

end Go.Proofs.Ytbgnajcmhmpjlab

/- What Apply comes to, as a whole: the mathematics of PlanOrder, PlanApart and PlanJoins. No program is named here. -/
namespace Go.Proofs.Ytbgnajcmhmpjlab
open Go.RowKit

/-- How much more the wants of l make counter j. -/
def dOf : List (Int × Int) → Nat → Int
  | [], _ => 0
  | x :: r, j => (if x.1 = (j : Int) then x.2 else 0) + dOf r j
def plusW (ws : Nat → Int) (l : List (Int × Int)) : Nat → Int := fun j => ws j + dOf l j

theorem mor_ok {v d : Int} (h : morC v d = 0) : 0 ≤ v ∧ v ≤ 100 ∧ 0 ≤ v + d ∧ v + d ≤ 100 ∧ morV v d = v + d := by
  unfold morC at h
  unfold morV
  repeat' split at h
  all_goals first | omega | (refine ⟨by omega, by omega, by omega, by omega, ?_⟩; repeat' split
                             all_goals omega)
theorem mor_of {v d : Int} (h0 : 0 ≤ v) (h1 : v ≤ 100) (h2 : 0 ≤ v + d) (h3 : v + d ≤ 100) : morC v d = 0 := by
  unfold morC
  repeat' split
  all_goals omega

theorem dOf_append (a b : List (Int × Int)) (j : Nat) : dOf (a ++ b) j = dOf a j + dOf b j := by
  induction a with
  | nil => simp [dOf]
  | cons x r ih => rw [List.cons_append, dOf, dOf, ih]; omega
theorem dOf_reverse (l : List (Int × Int)) (j : Nat) : dOf l.reverse j = dOf l j := by
  induction l with
  | nil => rfl
  | cons x r ih => rw [List.reverse_cons, dOf_append, ih, dOf, dOf, dOf]; omega
theorem dOf_none {l : List (Int × Int)} {j : Nat} (h : ∀ x ∈ l, x.1 ≠ (j : Int)) : dOf l j = 0 := by
  induction l with
  | nil => rfl
  | cons x r ih => rw [dOf, if_neg (h x (by simp)), ih (fun y hy => h y (by simp [hy]))]; rfl
theorem dOf_one {l : List (Int × Int)} {j : Nat} {x : Int × Int} (hp : l.Pairwise (fun x y => x.1 ≠ y.1)) (hx : x ∈ l) (e : x.1 = (j : Int)) : dOf l j = x.2 := by
  induction l with
  | nil => simp at hx
  | cons y r ih =>
    have hp' := List.pairwise_cons.1 hp
    rw [dOf]
    rcases List.mem_cons.1 hx with rfl | hx
    · rw [if_pos e, dOf_none (fun z hz ez => hp'.1 z hz (by rw [e, ez]))]; omega
    · rw [if_neg (fun ey => hp'.1 x hx (by rw [e, ey])), ih hp'.2 hx]; omega

theorem run_code {l : List (Int × Int)} : ∀ {ws : Nat → Int} {i : Nat}, (∀ x ∈ l, 0 ≤ x.1) → l.Pairwise (fun x y => x.1 ≠ y.1) → (∀ x ∈ l, morC (ws x.1.toNat) x.2 = 0) → runW ws i l = (plusW ws l, 0, 0) := by
  induction l with
  | nil => intro ws i _ _ _; rw [runW]; congr 1; funext j; simp [plusW, dOf]
  | cons x r ih =>
    intro ws i h0 hp hm
    have hp' := List.pairwise_cons.1 hp
    have hx := hm x (by simp)
    obtain ⟨_, _, _, _, hv⟩ := mor_ok hx
    rw [runW, if_pos hx, hv, ih (fun y hy => h0 y (by simp [hy])) hp'.2]
    · congr 1
      funext j
      have := h0 x (by simp)
      unfold plusW upd
      rw [dOf]
      by_cases e : j = x.1.toNat
      · rw [if_pos e, if_pos (by omega), e]; omega
      · rw [if_neg e, if_neg (by omega)]; omega
    · intro y hy
      have q := hm y (by simp [hy])
      have h1 := h0 x (by simp)
      have h2 := h0 y (by simp [hy])
      have h3 := hp'.1 y hy
      unfold upd
      rw [if_neg (by omega)]
      exact q
theorem run_zero {l : List (Int × Int)} : ∀ {ws : Nat → Int} {i : Nat}, (∀ x ∈ l, 0 ≤ x.1) → l.Pairwise (fun x y => x.1 ≠ y.1) → (runW ws i l).2.1 = 0 → ∀ x ∈ l, morC (ws x.1.toNat) x.2 = 0 := by
  induction l with
  | nil => intro ws i _ _ _ x hx; simp at hx
  | cons x r ih =>
    intro ws i h0 hp h
    have hp' := List.pairwise_cons.1 hp
    rw [runW] at h
    split at h
    · rename_i hx
      intro y hy
      rcases List.mem_cons.1 hy with rfl | hy
      · exact hx
      · have q := ih (fun y hy => h0 y (by simp [hy])) hp'.2 h y hy
        have h1 := h0 x (by simp)
        have h2 := h0 y (by simp [hy])
        have h3 := hp'.1 y hy
        unfold upd at q
        rw [if_neg (by omega)] at q
        exact q
    · rename_i hx
      exact absurd h hx
theorem run_noW {l : List (Int × Int)} : ∀ {ws : Nat → Int} {i : Nat}, (runW ws i l).2.1 ≠ 0 → (runW ws i l).1 = noW := by
  induction l with
  | nil => intro ws i h; simp [runW] at h
  | cons x r ih =>
    intro ws i h
    rw [runW] at h ⊢
    split
    · rename_i hx
      rw [if_pos hx] at h
      exact ih h
    · rfl

/-- A deal that can be done. -/
structure Can (ws : Nat → Int) (l : List (Int × Int)) : Prop where
  fit : Fit l
  each : ∀ x ∈ l, morC (ws x.1.toNat) x.2 = 0
theorem Fit.nonneg {l : List (Int × Int)} (h : Fit l) : ∀ x ∈ l, 0 ≤ x.1 := fun x hx => (wnt_ok (h.each x hx)).1
theorem app_can {ws : Nat → Int} {l : List (Int × Int)} (h : Can ws l) : appW ws l = (plusW ws l, 0, 0) := by
  unfold appW
  rw [if_pos (fit_iff.2 h.fit), run_code h.fit.nonneg h.fit.apart h.each]
theorem can_app {ws : Nat → Int} {l : List (Int × Int)} (h : (appW ws l).2.1 = 0) : Can ws l := by
  unfold appW at h
  split at h
  · rename_i hf
    have hF := fit_iff.1 hf
    exact ⟨hF, run_zero hF.nonneg hF.apart h⟩
  · rename_i hf
    exact absurd h hf
theorem app_noW {ws : Nat → Int} {l : List (Int × Int)} (h : (appW ws l).2.1 ≠ 0) : (appW ws l).1 = noW := by
  unfold appW at h ⊢
  split
  · rename_i hf
    rw [if_pos hf] at h
    exact run_noW h
  · rfl

theorem Fit.reverse {l : List (Int × Int)} (h : Fit l) : Fit l.reverse :=
  ⟨by simpa using h.pos, by simpa using h.few, fun x hx => h.each x (by simpa using hx), by rw [List.pairwise_reverse]; exact h.apart.imp (fun q e => q e.symm)⟩
theorem Can.reverse {ws : Nat → Int} {l : List (Int × Int)} (h : Can ws l) : Can ws l.reverse := ⟨h.fit.reverse, fun x hx => h.each x (by simpa using hx)⟩
theorem can_reverse {ws : Nat → Int} {l : List (Int × Int)} : Can ws l.reverse ↔ Can ws l := ⟨fun h => by simpa using h.reverse, Can.reverse⟩
/-- Turned about it comes to the same. -/
theorem app_reverse_code (ws : Nat → Int) (l : List (Int × Int)) : ((appW ws l.reverse).2.1 = 0 ↔ (appW ws l).2.1 = 0) := by
  constructor
  · intro h; rw [app_can (can_reverse.1 (can_app h))]
  · intro h; rw [app_can (can_app h).reverse]
theorem app_reverse (ws : Nat → Int) (l : List (Int × Int)) : (appW ws l.reverse).1 = (appW ws l).1 := by
  by_cases h : (appW ws l).2.1 = 0
  · have hc := can_app h
    rw [app_can hc, app_can hc.reverse]
    funext j
    simp [plusW, dOf_reverse]
  · have h' : (appW ws l.reverse).2.1 ≠ 0 := fun e => h ((app_reverse_code ws l).1 e)
    rw [app_noW h, app_noW h']

/-- A want done back, as the program reckons it. -/
def bk (x : Int × Int) : Int × Int := (x.1, IntKind.i64.wrap (-x.2))
theorem bk_of {x : Int × Int} (h : dlt x.2 = 0) : bk x = (x.1, -x.2) := by
  obtain ⟨_, h1, h2⟩ := dlt_ok h
  unfold bk
  rw [IntKind.wrap_i64, show (-x.2 + 9223372036854775808) % 18446744073709551616 - 9223372036854775808 = -x.2 by omega]
/-- All of a deal done back, the last want first. -/
def bks (l : List (Int × Int)) : List (Int × Int) := (l.map bk).reverse
theorem bks_eq {l : List (Int × Int)} (h : ∀ x ∈ l, dlt x.2 = 0) : bks l = (l.map (fun x => (x.1, -x.2))).reverse := by
  unfold bks
  rw [List.map_congr_left (fun x hx => bk_of (h x hx))]
theorem dOf_neg (l : List (Int × Int)) (j : Nat) : dOf (l.map (fun x => (x.1, -x.2))) j = - dOf l j := by
  induction l with
  | nil => rfl
  | cons x r ih => rw [List.map_cons, dOf, dOf, ih]; simp only; split <;> omega
theorem Fit.delta {l : List (Int × Int)} (h : Fit l) : ∀ x ∈ l, dlt x.2 = 0 := fun x hx => (wnt_ok (h.each x hx)).2.2
theorem Fit.back {l : List (Int × Int)} (h : Fit l) : Fit (l.map (fun x => (x.1, -x.2))) := by
  refine ⟨by simpa using h.pos, by simpa using h.few, ?_, ?_⟩
  · intro y hy
    obtain ⟨x, hx, rfl⟩ := List.mem_map.1 hy
    obtain ⟨h0, h1, h2⟩ := wnt_ok (h.each x hx)
    obtain ⟨e1, e2, e3⟩ := dlt_ok h2
    exact wnt_of h0 h1 (dlt_of (by simp; omega) (by simp; omega) (by simp; omega))
  · rw [List.pairwise_map]
    exact h.apart
theorem Can.back {ws : Nat → Int} {l : List (Int × Int)} (h : Can ws l) : Can (plusW ws l) (bks l) := by
  rw [bks_eq h.fit.delta, can_reverse]
  refine ⟨h.fit.back, ?_⟩
  intro y hy
  obtain ⟨x, hx, rfl⟩ := List.mem_map.1 hy
  have h0 := h.fit.nonneg x hx
  obtain ⟨m0, m1, m2, m3, _⟩ := mor_ok (h.each x hx)
  unfold plusW
  simp only
  rw [dOf_one h.fit.apart hx (by omega)]
  exact mor_of (by omega) (by omega) (by omega) (by omega)
/-- Done back they make the world that it was. -/
theorem Can.undo {ws : Nat → Int} {l : List (Int × Int)} (h : Can ws l) : appW (plusW ws l) (bks l) = (ws, 0, 0) := by
  rw [app_can h.back]
  congr 1
  funext j
  unfold plusW
  rw [bks_eq h.fit.delta, dOf_reverse, dOf_neg]
  omega

/-- One part behind the other. -/
theorem run_append (a b : List (Int × Int)) : ∀ (ws : Nat → Int) (i : Nat), runW ws i (a ++ b) = if (runW ws i a).2.1 = 0 then runW (runW ws i a).1 (i + a.length) b else runW ws i a := by
  induction a with
  | nil => intro ws i; simp [runW]
  | cons x r ih =>
    intro ws i
    rw [List.cons_append, runW, runW]
    by_cases hx : morC (ws x.1.toNat) x.2 = 0
    · rw [if_pos hx, if_pos hx, ih]
      simp only [List.length_cons]
      rw [show i + 1 + r.length = i + (r.length + 1) by omega]
    · rw [if_neg hx, if_neg hx]
      simp only
      rw [if_neg hx]
theorem run_shift (b : List (Int × Int)) : ∀ (ws : Nat → Int) (i k : Nat), (runW ws (i + k) b).1 = (runW ws i b).1 ∧ (runW ws (i + k) b).2.1 = (runW ws i b).2.1 ∧ ((runW ws i b).2.1 ≠ 0 → (runW ws (i + k) b).2.2 = (runW ws i b).2.2 + k) := by
  induction b with
  | nil => intro ws i k; simp [runW]
  | cons x r ih =>
    intro ws i k
    rw [runW, runW]
    by_cases hx : morC (ws x.1.toNat) x.2 = 0
    · rw [if_pos hx, if_pos hx, show i + k + 1 = i + 1 + k by omega]
      exact ih _ _ _
    · rw [if_neg hx, if_neg hx]
      exact ⟨rfl, rfl, fun _ => by simp⟩
theorem Fit.take {l : List (Int × Int)} (h : Fit l) {k : Nat} (h0 : 0 < k) : Fit (l.take k) := by
  have := h.pos
  have := h.few
  exact ⟨by simp; omega, by simp; omega, fun x hx => h.each x (List.mem_of_mem_take hx), h.apart.sublist (List.take_sublist _ _)⟩
theorem Fit.drop {l : List (Int × Int)} (h : Fit l) {k : Nat} (h0 : k < l.length) : Fit (l.drop k) := by
  have := h.few
  exact ⟨by simp; omega, by simp; omega, fun x hx => h.each x (List.mem_of_mem_drop hx), h.apart.sublist (List.drop_sublist _ _)⟩
theorem app_fit {ws : Nat → Int} {l : List (Int × Int)} (h : Fit l) : appW ws l = runW ws 0 l := by
  unfold appW
  rw [if_pos (fit_iff.2 h)]
theorem join_bad {ws : Nat → Int} {l : List (Int × Int)} (h : Fit l) {k : Nat} (h0 : 0 < k) (hg : (appW ws (l.take k)).2.1 ≠ 0) : appW ws l = appW ws (l.take k) := by
  rw [app_fit (h.take h0)] at hg ⊢
  rw [app_fit h]
  have e := run_append (l.take k) (l.drop k) ws 0
  rw [List.take_append_drop, if_neg hg] at e
  exact e
theorem join_good {ws : Nat → Int} {l : List (Int × Int)} (h : Fit l) {k : Nat} (h0 : 0 < k) (h1 : k < l.length) (hg : (appW ws (l.take k)).2.1 = 0) :
    (appW ws l).1 = (appW (appW ws (l.take k)).1 (l.drop k)).1 ∧ (appW ws l).2.1 = (appW (appW ws (l.take k)).1 (l.drop k)).2.1 ∧ ((appW (appW ws (l.take k)).1 (l.drop k)).2.1 ≠ 0 → (appW ws l).2.2 = (appW (appW ws (l.take k)).1 (l.drop k)).2.2 + k) := by
  rw [app_fit h, app_fit (h.drop h1)]
  rw [app_fit (h.take h0)] at hg ⊢
  have e := run_append (l.take k) (l.drop k) ws 0
  rw [List.take_append_drop, if_pos hg, List.length_take, Nat.min_eq_left (by omega)] at e
  rw [e]
  exact run_shift _ _ 0 k
theorem app_at {ws : Nat → Int} {l : List (Int × Int)} (h : Fit l) : 0 ≤ (appW ws l).2.2 ∧ (appW ws l).2.2 ≤ l.length := by
  rw [app_fit h]
  have q : ∀ (b : List (Int × Int)) (ws : Nat → Int) (i : Nat), 0 ≤ (runW ws i b).2.2 ∧ (runW ws i b).2.2 ≤ i + b.length := by
    intro b
    induction b with
    | nil => intro ws i; simp [runW]
    | cons x r ih =>
      intro ws i
      rw [runW]
      by_cases hx : morC (ws x.1.toNat) x.2 = 0
      · rw [if_pos hx]
        have := ih (upd ws x.1.toNat (morV (ws x.1.toNat) x.2)) (i + 1)
        simp only [List.length_cons] at this ⊢
        omega
      · rw [if_neg hx]
        simp
        omega
  have := q l ws 0
  omega

/-- Where a list is cut: a number below its length. -/
theorem cut_ok (n : Int) (L : Nat) (h0 : 0 < L) (h1 : L ≤ 201) : ∃ r : Nat, r < L ∧ wrap64 ((IntKind.u64.wrap n).tmod (L : Int)) = (r : Int) := by
  have e2 : 0 ≤ IntKind.u64.wrap n := by rw [IntKind.wrap_u64]; omega
  rw [Int.tmod_eq_emod_of_nonneg e2]
  have e3 := Int.emod_nonneg (IntKind.u64.wrap n) (b := (L : Int)) (by omega)
  have e4 := Int.emod_lt_of_pos (IntKind.u64.wrap n) (b := (L : Int)) (by omega)
  refine ⟨(IntKind.u64.wrap n % (L : Int)).toNat, by omega, ?_⟩
  rw [IntWalk.wrap64_in _ (by omega)]
  omega

end Go.Proofs.Ytbgnajcmhmpjlab

/- The mathematics of PlanApart: which shops, and how much more each counter has. No program is named here. -/
namespace Go.Proofs.Ytbgnajcmhmpjlab
open Go.RowKit

theorem shopsL_mem {l : List (Int × Int)} {a : Int} : a ∈ shopsL l ↔ ∃ n : Nat, a = (n : Int) ∧ n < 3 ∧ stands l (n : Int) = true := by
  unfold shopsL shopsTo
  rw [List.mem_map]
  constructor
  · rintro ⟨n, hn, rfl⟩
    obtain ⟨h1, h2⟩ := List.mem_filter.1 hn
    exact ⟨n, rfl, by simpa using h1, h2⟩
  · rintro ⟨n, rfl, h1, h2⟩
    exact ⟨n, List.mem_filter.2 ⟨by simpa using h1, h2⟩, rfl⟩
theorem shopsL_rising (l : List (Int × Int)) : (shopsL l).Pairwise (· < ·) := by
  unfold shopsL shopsTo
  rw [List.pairwise_map]
  exact (List.pairwise_lt_range.sublist List.filter_sublist).imp (fun h => by omega)
theorem shopsL_behind {l : List (Int × Int)} {i : Nat} {a b : Int} (ha : (shopsL l)[i]? = some a) (hb : (shopsL l)[i + 1]? = some b) : a < b := by
  obtain ⟨h1, rfl⟩ := List.getElem?_eq_some_iff.1 ha
  obtain ⟨h2, rfl⟩ := List.getElem?_eq_some_iff.1 hb
  exact (List.pairwise_iff_getElem.1 (shopsL_rising l)) i (i + 1) h1 h2 (by omega)
theorem shop_in {l : List (Int × Int)} {c d : Int} (h : (c, d) ∈ l) (h0 : 0 ≤ c) (h1 : c < 6) : shp c ∈ shopsL l := by
  rw [shopsL_mem]
  refine ⟨(shp c).toNat, ?_, ?_, ?_⟩
  · rw [shp_eq h0 h1]; omega
  · rw [shp_eq h0 h1]; omega
  · unfold stands
    rw [List.any_eq_true]
    refine ⟨(c, d), h, ?_⟩
    simp only [beq_iff_eq]
    rw [shp_eq h0 h1]; omega

/-- Which shops have a want's counter below k. -/
def hasTo (l : List (Int × Int)) (k : Int) (j : Int) : Bool := l.any (fun y => decide (y.1 < k) && (shp y.1 == j))
/-- Which shops have a want's counter that is k. -/
def hasAt (l : List (Int × Int)) (k : Int) (j : Int) : Bool := l.any (fun y => (y.1 == k) && (shp y.1 == j))
theorem hasAt_next {l : List (Int × Int)} {m : Nat} {c d : Int} (h : l[m]? = some (c, d)) (k j : Int) : hasAt (l.take (m + 1)) k j = (hasAt (l.take m) k j || ((c == k) && (shp c == j))) := by
  unfold hasAt
  rw [take_snoc h]; simp
theorem hasTo_next (l : List (Int × Int)) (k : Nat) (j : Int) : hasTo l ((k : Int) + 1) j = (hasTo l k j || hasAt l k j) := by
  unfold hasTo hasAt
  induction l with
  | nil => rfl
  | cons x r ih =>
    simp only [List.any_cons]
    rw [ih]
    have e : (decide (x.1 < (k : Int) + 1)) = (decide (x.1 < (k : Int)) || (x.1 == (k : Int))) := by
      by_cases h1 : x.1 < (k : Int)
      · simp [h1]; omega
      · by_cases h2 : x.1 = (k : Int)
        · simp [h2]; omega
        · have h3 : ¬ x.1 < (k : Int) + 1 := by omega
          simp [h1, h2, h3]
    rw [e]
    generalize decide (x.1 < (k : Int)) = p1
    generalize (x.1 == (k : Int)) = p2
    generalize (shp x.1 == j) = p3
    generalize (r.any fun y => decide (y.1 < (k : Int)) && shp y.1 == j) = p4
    generalize (r.any fun y => y.1 == (k : Int) && shp y.1 == j) = p5
    cases p1 <;> cases p2 <;> cases p3 <;> cases p4 <;> cases p5 <;> rfl
theorem hasTo_zero {l : List (Int × Int)} (h : ∀ x ∈ l, 0 ≤ x.1) (j : Int) : hasTo l 0 j = false := by
  unfold hasTo
  rw [List.any_eq_false]
  intro x hx
  have := h x hx
  have : ¬ x.1 < 0 := by omega
  simp [this]
theorem hasTo_all {l : List (Int × Int)} (h : ∀ x ∈ l, x.1 < 6) (j : Int) : hasTo l 6 j = stands l j := by
  unfold hasTo stands
  induction l with
  | nil => rfl
  | cons x r ih =>
    have := h x (by simp)
    simp only [List.any_cons]
    rw [ih (fun y hy => h y (by simp [hy]))]
    simp [this]
theorem hasAt_zero (l : List (Int × Int)) (k j : Int) : hasAt (l.take 0) k j = false := by simp [hasAt]

theorem dOf_next {l : List (Int × Int)} {m : Nat} {c d : Int} (h : l[m]? = some (c, d)) (k : Nat) : dOf (l.take (m + 1)) k = dOf (l.take m) k + (if c = (k : Int) then d else 0) := by
  rw [take_snoc h, dOf_append, dOf, dOf]; simp
theorem dOf_bound {l : List (Int × Int)} (h : ∀ x ∈ l, -100 ≤ x.2 ∧ x.2 ≤ 100) (k : Nat) : -(100 * (l.length : Int)) ≤ dOf l k ∧ dOf l k ≤ 100 * (l.length : Int) := by
  induction l with
  | nil => simp [dOf]
  | cons x r ih =>
    have q := ih (fun y hy => h y (by simp [hy]))
    have p := h x (by simp)
    rw [dOf, List.length_cons]
    split <;> omega
theorem Fit.small {l : List (Int × Int)} (h : Fit l) (m k : Nat) : -400 ≤ dOf (l.take m) k ∧ dOf (l.take m) k ≤ 400 := by
  have q := dOf_bound (l := l.take m) (fun x hx => by
    obtain ⟨_, h1, h2⟩ := dlt_ok (h.delta x (List.mem_of_mem_take hx))
    exact ⟨h1, h2⟩) k
  have := h.few
  have e : (l.take m).length ≤ 4 := by simp; omega
  omega
/-- A counter that is wanted has from 0 to 100, ahead and behind. -/
theorem Can.range {ws : Nat → Int} {l : List (Int × Int)} (h : Can ws l) {k : Nat} (hd : dOf l k ≠ 0) : 0 ≤ ws k ∧ ws k ≤ 100 ∧ 0 ≤ ws k + dOf l k ∧ ws k + dOf l k ≤ 100 := by
  by_cases hx : ∃ x ∈ l, x.1 = (k : Int)
  · obtain ⟨x, hx, e⟩ := hx
    have q := mor_ok (h.each x hx)
    rw [dOf_one h.fit.apart hx e]
    have e2 : x.1.toNat = k := by omega
    rw [e2] at q
    exact ⟨q.1, q.2.1, q.2.2.1, q.2.2.2.1⟩
  · exact absurd (dOf_none (fun x hx' e => hx ⟨x, hx', e⟩)) hd

end Go.Proofs.Ytbgnajcmhmpjlab

/- The plain mathematics of package post: mail on its way as a list; what Send, Take and Double come to. No program is named here. -/
namespace Go.Proofs.Ytbgnajcmhmpjlab
open Go.RowKit

/-- A mail: kind, deal, shop, the want's counter and delta, yes? -/
structure Ml where
  kind : Int
  deal : Int
  shop : Int
  c : Int
  d : Int
  yes : Bool
def Ml.cells (x : Ml) : List Value := [.int .i64 x.kind, .int .i64 x.deal, .int .i64 x.shop, .int .i64 x.c, .int .i64 x.d, .bool x.yes]
def noMl : Ml := ⟨0, 0, 0, 0, 0, false⟩
def eqM (a b : Ml) : Bool := a.kind == b.kind && (a.deal == b.deal && (a.shop == b.shop && ((a.c == b.c && a.d == b.d) && a.yes == b.yes)))
theorem eqM_iff {a b : Ml} : eqM a b = true ↔ a = b := by
  rcases a with ⟨a1, a2, a3, a4, a5, a6⟩
  rcases b with ⟨b1, b2, b3, b4, b5, b6⟩
  unfold eqM
  simp
  intro _ _ _
  exact and_assoc
/-- The place of the number n among so many: as a number without sign, round by how many there are. -/
def rnd (n : Int) (k : Nat) : Nat := (n % 18446744073709551616).toNat % k
theorem rnd_lt (n : Int) {k : Nat} (h : 0 < k) : rnd n k < k := Nat.mod_lt _ h
/-- Send: is it on its way, and all that is. -/
def sendR (l : List Ml) (m : Ml) : Bool × List Ml := if 40 ≤ l.length then (false, l) else (true, l ++ [m])
/-- Take: the mail, is there one, and all that is left. -/
def takeR (l : List Ml) (n : Int) : Ml × Bool × List Ml := match l[rnd n l.length]? with
  | some m => (m, true, l.eraseIdx (rnd n l.length))
  | none => (noMl, false, l)
def dblR (l : List Ml) (n : Int) : Bool × List Ml := match l[rnd n l.length]? with
  | some m => sendR l m
  | none => (false, l)
theorem takeR_nil (n : Int) : takeR [] n = (noMl, false, []) := rfl
theorem dblR_nil (n : Int) : dblR [] n = (false, []) := rfl
theorem rnd_some {l : List Ml} (n : Int) (h : l ≠ []) : ∃ m, l[rnd n l.length]? = some m :=
  ⟨_, List.getElem?_eq_getElem (rnd_lt n (List.length_pos_iff.2 h))⟩
theorem takeR_some {l : List Ml} {n : Int} {m : Ml} (h : l[rnd n l.length]? = some m) : takeR l n = (m, true, l.eraseIdx (rnd n l.length)) := by unfold takeR; rw [h]
theorem dblR_some {l : List Ml} {n : Int} {m : Ml} (h : l[rnd n l.length]? = some m) : dblR l n = sendR l m := by unfold dblR; rw [h]
theorem erase_split (l : List Ml) (k : Nat) : l.eraseIdx k = l.take k ++ l.drop (k + 1) := List.eraseIdx_eq_take_drop_succ l k
theorem erase_perm {l : List Ml} {k : Nat} {m : Ml} (h : l[k]? = some m) : l.Perm (m :: l.eraseIdx k) := by
  have e : l = l.take k ++ m :: l.drop (k + 1) := by rw [← drop_cons h, List.take_append_drop]
  rw [erase_split]
  exact (List.Perm.of_eq e).trans List.perm_middle
theorem sendR_len (l : List Ml) (m : Ml) (h : l.length ≤ 40) : (sendR l m).2.length ≤ 40 := by
  unfold sendR
  split
  · exact h
  · simp; omega
theorem dblR_len (l : List Ml) (n : Int) (h : l.length ≤ 40) : (dblR l n).2.length ≤ 40 := by
  unfold dblR
  split
  · exact sendR_len l _ h
  · exact h
theorem takeR_len (l : List Ml) (n : Int) (h : l.length ≤ 40) : (takeR l n).2.2.length ≤ 40 := by
  unfold takeR
  split
  · have := List.length_eraseIdx_le l (rnd n l.length)
    show (l.eraseIdx (rnd n l.length)).length ≤ 40
    omega
  · exact h
/-- What was sent and doubled, less what was taken, is what is on its way, in whatever order. -/
theorem perm_take {l left : List Ml} {n : Int} {m : Ml} {k : Nat} (hp : left.Perm l) (h : l[rnd n l.length]? = some m) (hk : left[k]? = some m) : (left.eraseIdx k).Perm (takeR l n).2.2 := by
  rw [takeR_some h]
  have e1 := erase_perm hk
  have e2 := erase_perm h
  exact List.Perm.cons_inv ((e1.symm.trans hp).trans e2)
theorem perm_send {l left : List Ml} {m : Ml} (hp : left.Perm l) : (left ++ [m]).Perm (l ++ [m]) := hp.append_right _
theorem perm_mem {l left : List Ml} {n : Int} {m : Ml} (hp : left.Perm l) (h : l[rnd n l.length]? = some m) : m ∈ left := hp.mem_iff.2 (List.mem_of_getElem? h)

end Go.Proofs.Ytbgnajcmhmpjlab

/- The plain mathematics of package broker: deals, what is heard, quit and forgotten of them, and what is due. No program is named here. -/
namespace Go.Proofs.Ytbgnajcmhmpjlab
open Go.RowKit

/-- A deal: its wants, its state, the places of its wants that are held, the shops where it is over. -/
structure Dl where
  w : List (Int × Int)
  st : Int
  yes : List Int
  ov : List Int
/-- A broker's book: its deals; those that are done, as they were decided. -/
structure Bok where
  L : List Dl
  ord : List Int
def dealAt (B : Bok) (n : Int) : Option Dl := if n < 0 then none else B.L[n.toNat]?
def stR (B : Bok) (n : Int) : Int := match dealAt B n with
  | some D => D.st
  | none => -1
def wantsR (B : Bok) (n : Int) : List (Int × Int) := match dealAt B n with
  | some D => D.w
  | none => []
def putD (B : Bok) (n : Int) (D : Dl) : Bok := { B with L := B.L.set n.toNat D }
/-- Begin: the number, the code, and the book behind it. -/
def beginR (B : Bok) (l : List (Int × Int)) : Int × Int × Bok := if (chkW l).1 = 0 then (if 8 ≤ B.L.length then (0, 6, B) else ((B.L.length : Int), 0, { B with L := B.L ++ [⟨l, 0, [], []⟩] })) else (0, (chkW l).1, B)
def quitR (B : Bok) (n : Int) : Int × Bok := match dealAt B n with
  | none => (7, B)
  | some D => if D.st = 0 then (0, putD B n { D with st := 2 }) else (8, B)
/-- The place of a want. -/
def wantAt (l : List (Int × Int)) (c d : Int) : Option Nat := l.findIdx? (fun x => x.1 == c && x.2 == d)
def addI (l : List Int) (i : Int) : List Int := if i ∈ l then l else l ++ [i]
def hearR (B : Bok) (m : Ml) : Bok := match dealAt B m.deal with
  | none => B
  | some D => if D.st = 0 then (if m.kind = 2 ∧ shp m.c = m.shop then (match wantAt D.w m.c m.d with
      | none => B
      | some i => if m.yes = true then (if (addI D.yes i).length = D.w.length then { putD B m.deal { D with yes := addI D.yes i, st := 1 } with ord := B.ord ++ [m.deal] } else putD B m.deal { D with yes := addI D.yes i }) else putD B m.deal { D with st := 2 }) else B)
    else (if m.kind = 4 ∧ m.shop ∈ shopsL D.w ∧ m.shop ∉ D.ov then putD B m.deal { D with ov := D.ov ++ [m.shop] } else B)
/-- The asks of a deal from its k-th want on. -/
def asksR (n : Int) (yes : List Int) : Nat → List (Int × Int) → List Ml
  | _, [] => []
  | k, x :: r => if (k : Int) ∈ yes then asksR n yes (k + 1) r else ⟨1, n, shp x.1, x.1, x.2, false⟩ :: asksR n yes (k + 1) r
def endsR (n : Int) (D : Dl) : List Ml := ((shopsL D.w).filter (fun s => decide (s ∉ D.ov))).map (fun s => ⟨3, n, s, 0, 0, D.st == 1⟩)
def dueD (n : Int) (D : Dl) : List Ml := if D.st = 0 then asksR n D.yes 0 D.w else endsR n D
def duesR : Nat → List Dl → List Ml
  | _, [] => []
  | k, D :: r => dueD (k : Int) D ++ duesR (k + 1) r
def dueR (B : Bok) : List Ml := duesR 0 B.L
def crashD (D : Dl) : Dl := { D with st := if D.st = 0 then 2 else D.st, yes := [], ov := [] }
def crashR (B : Bok) : Bok := { B with L := B.L.map crashD }

theorem dealAt_nat (B : Bok) (k : Nat) : dealAt B (k : Int) = B.L[k]? := by
  unfold dealAt
  rw [if_neg (by omega)]
  rfl
theorem dealAt_some {B : Bok} {n : Int} {D : Dl} (h : dealAt B n = some D) : ∃ k : Nat, n = (k : Int) ∧ k < B.L.length ∧ B.L[k]? = some D := by
  unfold dealAt at h
  split at h
  · cases h
  · exact ⟨n.toNat, by omega, (List.getElem?_eq_some_iff.1 h).1, h⟩
theorem dealAt_mem {B : Bok} {n : Int} {D : Dl} (h : dealAt B n = some D) : D ∈ B.L := by
  obtain ⟨k, _, _, hk⟩ := dealAt_some h
  exact List.mem_of_getElem? hk
theorem mem_dealAt {B : Bok} {D : Dl} (h : D ∈ B.L) : ∃ k : Nat, k < B.L.length ∧ dealAt B (k : Int) = some D := by
  obtain ⟨k, hk, e⟩ := List.getElem_of_mem h
  exact ⟨k, hk, by rw [dealAt_nat, List.getElem?_eq_getElem hk, e]⟩
theorem dealAt_put {B : Bok} {n : Int} {D0 : Dl} (h : dealAt B n = some D0) (D : Dl) (j : Int) : dealAt (putD B n D) j = if j = n then some D else dealAt B j := by
  obtain ⟨k, rfl, hk, _⟩ := dealAt_some h
  unfold dealAt putD
  simp only [Int.toNat_natCast]
  by_cases e : j = (k : Int)
  · subst e
    rw [if_pos rfl, if_neg (by omega)]
    simp [hk]
  · rw [if_neg e]
    by_cases hj : j < 0
    · rw [if_pos hj, if_pos hj]
    · rw [if_neg hj, if_neg hj, List.getElem?_set_ne (by omega)]
theorem put_ord (B : Bok) (n : Int) (D : Dl) : (putD B n D).ord = B.ord := rfl
theorem put_len (B : Bok) (n : Int) (D : Dl) : (putD B n D).L.length = B.L.length := by simp [putD]
theorem stR_some {B : Bok} {n : Int} {D : Dl} (h : dealAt B n = some D) : stR B n = D.st := by unfold stR; rw [h]
theorem wantsR_some {B : Bok} {n : Int} {D : Dl} (h : dealAt B n = some D) : wantsR B n = D.w := by unfold wantsR; rw [h]
theorem wantAt_some {l : List (Int × Int)} {c d : Int} {i : Nat} (h : wantAt l c d = some i) : l[i]? = some (c, d) := by
  unfold wantAt at h
  obtain ⟨hi, hp, _⟩ := List.findIdx?_eq_some_iff_getElem.1 h
  rw [List.getElem?_eq_getElem hi]
  simp only [Bool.and_eq_true, beq_iff_eq] at hp
  congr 1
  exact Prod.ext hp.1 hp.2
theorem wantAt_none {l : List (Int × Int)} {c d : Int} (h : wantAt l c d = none) : (c, d) ∉ l := by
  unfold wantAt at h
  rw [List.findIdx?_eq_none_iff] at h
  intro hm
  have := h _ hm
  simp at this
/-- What is heard comes to nothing, to a want that is held, to a deal that is done, or not, or to a shop where it is over. -/
theorem hearR_cases (B : Bok) (m : Ml) : hearR B m = B ∨
    (∃ (D : Dl) (i : Nat), dealAt B m.deal = some D ∧ D.st = 0 ∧ m.kind = 2 ∧ shp m.c = m.shop ∧ D.w[i]? = some (m.c, m.d) ∧ ((m.yes = false ∧ hearR B m = putD B m.deal { D with st := 2 }) ∨ (m.yes = true ∧ (addI D.yes i).length ≠ D.w.length ∧ hearR B m = putD B m.deal { D with yes := addI D.yes i }) ∨ (m.yes = true ∧ (addI D.yes i).length = D.w.length ∧ hearR B m = { putD B m.deal { D with yes := addI D.yes i, st := 1 } with ord := B.ord ++ [m.deal] }))) ∨
    (∃ D : Dl, dealAt B m.deal = some D ∧ D.st ≠ 0 ∧ m.kind = 4 ∧ m.shop ∈ shopsL D.w ∧ m.shop ∉ D.ov ∧ hearR B m = putD B m.deal { D with ov := D.ov ++ [m.shop] }) := by
  unfold hearR
  cases hd : dealAt B m.deal with
  | none => exact .inl rfl
  | some D =>
    simp only
    by_cases h0 : D.st = 0
    · rw [if_pos h0]
      by_cases h1 : m.kind = 2 ∧ shp m.c = m.shop
      · rw [if_pos h1]
        cases hw : wantAt D.w m.c m.d with
        | none => exact .inl rfl
        | some i =>
          simp only
          right; left
          refine ⟨D, i, rfl, h0, h1.1, h1.2, wantAt_some hw, ?_⟩
          cases hy : m.yes with
          | false => left; exact ⟨rfl, by simp⟩
          | true =>
            right
            by_cases hl : (addI D.yes i).length = D.w.length
            · right; exact ⟨rfl, hl, by rw [if_pos rfl, if_pos hl]⟩
            · left; exact ⟨rfl, hl, by rw [if_pos rfl, if_neg hl]⟩
      · rw [if_neg h1]; exact .inl rfl
    · rw [if_neg h0]
      by_cases h1 : m.kind = 4 ∧ m.shop ∈ shopsL D.w ∧ m.shop ∉ D.ov
      · rw [if_pos h1]
        right; right
        exact ⟨D, rfl, h0, h1.1, h1.2.1, h1.2.2, rfl⟩
      · rw [if_neg h1]; exact .inl rfl
theorem addI_mem {l : List Int} {i j : Int} : j ∈ addI l i ↔ j ∈ l ∨ j = i := by
  unfold addI
  split
  · rename_i h
    constructor
    · exact .inl
    · rintro (h1 | rfl)
      · exact h1
      · exact h
  · simp
theorem addI_nodup {l : List Int} (h : l.Nodup) (i : Int) : (addI l i).Nodup := by
  unfold addI
  split
  · exact h
  · rename_i hi
    refine List.nodup_append.2 ⟨h, by simp, ?_⟩
    intro a ha b hb
    rw [List.mem_singleton.1 hb]
    intro e
    subst e
    exact hi ha
theorem length_le_of_below : ∀ {k : Nat} {l : List Int}, l.Nodup → (∀ x ∈ l, 0 ≤ x ∧ x < (k : Int)) → l.length ≤ k := by
  intro k
  induction k with
  | zero =>
    intro l _ hb
    cases l with
    | nil => simp
    | cons x r => have := hb x (by simp); omega
  | succ k ih =>
    intro l hn hb
    have h1 := ih (l := l.erase (k : Int)) (hn.erase _) (fun x hx => by
      have hx' := List.mem_of_mem_erase hx
      have h2 := hb x hx'
      have : x ≠ (k : Int) := fun e => by subst e; exact (List.Nodup.not_mem_erase hn) hx
      omega)
    have h2 := List.length_erase (a := (k : Int)) (l := l)
    split at h2 <;> omega
/-- Places that stand once each, all below k, and k of them: all. -/
theorem all_of_length {l : List Int} {k : Nat} (hn : l.Nodup) (hb : ∀ x ∈ l, 0 ≤ x ∧ x < (k : Int)) (hl : l.length = k) : ∀ i : Nat, i < k → (i : Int) ∈ l := by
  induction k generalizing l with
  | zero => intro i hi; omega
  | succ k ih =>
    have hk : (k : Int) ∈ l := by
      apply Classical.byContradiction
      intro hk
      have hb' : ∀ x ∈ l, 0 ≤ x ∧ x < (k : Int) := fun x hx => by
        have h1 := hb x hx
        have : x ≠ (k : Int) := fun e => hk (e ▸ hx)
        omega
      have := length_le_of_below hn hb'
      omega
    intro i hi
    by_cases e : i = k
    · rw [e]; exact hk
    · have h1 := ih (l := l.erase (k : Int)) (hn.erase _) (fun x hx => by
        have hx' := List.mem_of_mem_erase hx
        have h2 := hb x hx'
        have : x ≠ (k : Int) := fun e => by subst e; exact (List.Nodup.not_mem_erase hn) hx
        omega) (by rw [List.length_erase_of_mem hk, hl]; omega) i (by omega)
      exact List.mem_of_mem_erase h1

end Go.Proofs.Ytbgnajcmhmpjlab

namespace Go.Proofs.Ytbgnajcmhmpjlab
open Go.RowKit

/-- The heads of a deal's three rows: its wants, those that are held, the shops where it is over. -/
structure DV where
  w : Value
  y : Value
  o : Value
def DV.all (v : DV) : List Value := [v.w, v.y, v.o]
/-- A row of deals, cell by cell. -/
def flatD : List Dl → List DV → List Value
  | D :: r, v :: s => v.w :: .int .i64 D.st :: v.y :: v.o :: flatD r s
  | _, _ => []
theorem flatD_length : ∀ {L : List Dl} {V : List DV}, V.length = L.length → (flatD L V).length = L.length * 4
  | [], [], _ => rfl
  | D :: r, v :: s, h => by
    have h' : s.length = r.length := by simpa using h
    simp only [flatD, List.length_cons, flatD_length h']
    omega
theorem flatD_at : ∀ {L : List Dl} {V : List DV} {k : Nat} {D : Dl} {v : DV}, L[k]? = some D → V[k]? = some v → (flatD L V)[k * 4]? = some v.w ∧ (flatD L V)[k * 4 + 1]? = some (.int .i64 D.st) ∧ (flatD L V)[k * 4 + 2]? = some v.y ∧ (flatD L V)[k * 4 + 3]? = some v.o
  | E :: r, u :: s, 0, D, v, h1, h2 => by
    obtain rfl : E = D := by simpa using h1
    obtain rfl : u = v := by simpa using h2
    exact ⟨rfl, rfl, rfl, rfl⟩
  | E :: r, u :: s, k + 1, D, v, h1, h2 => by
    obtain ⟨a, b, c, d⟩ := flatD_at (L := r) (V := s) (k := k) (by simpa using h1) (by simpa using h2)
    refine ⟨?_, ?_, ?_, ?_⟩
    · rw [show (k + 1) * 4 = k * 4 + 4 by omega]; simpa [flatD] using a
    · rw [show (k + 1) * 4 + 1 = k * 4 + 1 + 4 by omega]; simpa [flatD] using b
    · rw [show (k + 1) * 4 + 2 = k * 4 + 2 + 4 by omega]; simpa [flatD] using c
    · rw [show (k + 1) * 4 + 3 = k * 4 + 3 + 4 by omega]; simpa [flatD] using d
theorem flatD_snoc : ∀ {L : List Dl} {V : List DV} (D : Dl) (v : DV), V.length = L.length → flatD (L ++ [D]) (V ++ [v]) = flatD L V ++ [v.w, .int .i64 D.st, v.y, v.o]
  | [], [], _, _, _ => rfl
  | E :: r, u :: s, D, v, h => by
    have h' : s.length = r.length := by simpa using h
    simp only [List.cons_append, flatD, flatD_snoc D v h']
theorem flatD_st : ∀ {L : List Dl} {V : List DV} {k : Nat} {D : Dl} (x : Int), V.length = L.length → L[k]? = some D → flatD (L.set k { D with st := x }) V = (flatD L V).set (k * 4 + 1) (.int .i64 x)
  | E :: r, u :: s, 0, D, x, _, h => by
    obtain rfl : E = D := by simpa using h
    rfl
  | E :: r, u :: s, k + 1, D, x, hl, h => by
    have := flatD_st (L := r) (V := s) (k := k) (D := D) x (by simpa using hl) (by simpa using h)
    rw [show (k + 1) * 4 + 1 = k * 4 + 1 + 4 by omega]
    simp only [List.set_cons_succ, flatD, this]
theorem flatD_yes : ∀ {L : List Dl} {V : List DV} {k : Nat} {D : Dl} {v : DV} (l : List Int) (u : Value), V.length = L.length → L[k]? = some D → V[k]? = some v → flatD (L.set k { D with yes := l }) (V.set k { v with y := u }) = (flatD L V).set (k * 4 + 2) u
  | E :: r, t :: s, 0, D, v, l, u, _, h, h2 => by
    obtain rfl : E = D := by simpa using h
    obtain rfl : t = v := by simpa using h2
    rfl
  | E :: r, t :: s, k + 1, D, v, l, u, hl, h, h2 => by
    have := flatD_yes (L := r) (V := s) (k := k) (D := D) (v := v) l u (by simpa using hl) (by simpa using h) (by simpa using h2)
    rw [show (k + 1) * 4 + 2 = k * 4 + 2 + 4 by omega]
    simp only [List.set_cons_succ, flatD, this]
theorem flatD_ov : ∀ {L : List Dl} {V : List DV} {k : Nat} {D : Dl} {v : DV} (l : List Int) (u : Value), V.length = L.length → L[k]? = some D → V[k]? = some v → flatD (L.set k { D with ov := l }) (V.set k { v with o := u }) = (flatD L V).set (k * 4 + 3) u
  | E :: r, t :: s, 0, D, v, l, u, _, h, h2 => by
    obtain rfl : E = D := by simpa using h
    obtain rfl : t = v := by simpa using h2
    rfl
  | E :: r, t :: s, k + 1, D, v, l, u, hl, h, h2 => by
    have := flatD_ov (L := r) (V := s) (k := k) (D := D) (v := v) l u (by simpa using hl) (by simpa using h) (by simpa using h2)
    rw [show (k + 1) * 4 + 3 = k * 4 + 3 + 4 by omega]
    simp only [List.set_cons_succ, flatD, this]
/-- One cell of a row of one's own is stored. -/
theorem own_set {w : World} {B e s n g cap i : Nat} {xs : List Value} (h : w.ownsRow B e s (.slice (some ⟨g, 0, none⟩) n cap) n xs) (hi : i < xs.length) (u : Value) : (w.setCell ⟨g, i, none⟩ u).ownsRow B e s (.slice (some ⟨g, 0, none⟩) n cap) n (xs.set i u) := by
  obtain ⟨hB, hr, hc, hm, hx⟩ := own_row h
  refine row_own (hr.setCell _ _) hB hc hm (by simpa using h.1) (fun j v hj => ?_)
  by_cases q : j = i
  · subst q
    rw [List.getElem?_set_self hi] at hj
    obtain rfl := Option.some.inj hj
    exact cell_set_same (hx j _ (List.getElem?_eq_getElem hi))
  · rw [List.getElem?_set_ne (by omega)] at hj
    exact (cell_set_off q).trans (hx j v hj)

/-- Rows that have no block together. -/
def ApartV (l : List Value) : Prop := l.Pairwise (fun u v => ∀ k, u.ownBlock = some k → v.ownBlock ≠ some k)
/-- A book of deals, at the places o and o + 1 of the block q: the heads of its rows. -/
structure BokRaw (tD tW tI : TypeId) (w : World) (q o : Nat) (B : Bok) (rv ov : Value) (V : List DV) : Prop where
  len : V.length = B.L.length
  c0 : w.cell? ⟨q, o, none⟩ = some rv
  c1 : w.cell? ⟨q, o + 1, none⟩ = some ov
  row : w.ownsRow (q + 1) tD 4 rv B.L.length (flatD B.L V)
  ord : w.ownsRow (q + 1) tI 1 ov B.ord.length (B.ord.map (Value.int .i64))
  deal : ∀ (k : Nat) (D : Dl) (v : DV), B.L[k]? = some D → V[k]? = some v → w.ownsRow (q + 1) tW 2 v.w D.w.length (flat D.w) ∧ w.ownsRow (q + 1) tI 1 v.y D.yes.length (D.yes.map (Value.int .i64)) ∧ w.ownsRow (q + 1) tI 1 v.o D.ov.length (D.ov.map (Value.int .i64))
  apart : ApartV (rv :: ov :: V.flatMap DV.all)
/-- A book of deals, in blocks of O. -/
structure BokIn (tD tW tI : TypeId) (O : Nat → Prop) (w : World) (q o : Nat) (B : Bok) : Prop where
  own : ∀ k, O k → k < w.heap.size
  mine : O q
  loose : ∀ k, w.frozen? ⟨q, k, none⟩ = false
  raw : ∃ (rv ov : Value) (V : List DV), BokRaw tD tW tI w q o B rv ov V ∧ ∀ u ∈ rv :: ov :: V.flatMap DV.all, ∀ k, u.ownBlock = some k → O k
theorem BokIn.lt {tD tW tI : TypeId} {O : Nat → Prop} {w : World} {q o : Nat} {B : Bok} (h : BokIn tD tW tI O w q o B) : q < w.heap.size := h.own q h.mine
theorem mem_all {V : List DV} {k : Nat} {v : DV} (h : V[k]? = some v) : v.w ∈ V.flatMap DV.all ∧ v.y ∈ V.flatMap DV.all ∧ v.o ∈ V.flatMap DV.all := by
  have hm := List.mem_of_getElem? h
  refine ⟨List.mem_flatMap.2 ⟨v, hm, ?_⟩, List.mem_flatMap.2 ⟨v, hm, ?_⟩, List.mem_flatMap.2 ⟨v, hm, ?_⟩⟩ <;> simp [DV.all]
theorem BokRaw.save {tD tW tI : TypeId} {O' : Nat → Prop} {w w1 : World} {q o : Nat} {B : Bok} {rv ov : Value} {V : List DV} (h : BokRaw tD tW tI w q o B rv ov V) (hl : q < w.heap.size) (hb : Save O' w w1) (hq : ¬ O' q) (out : ∀ u ∈ rv :: ov :: V.flatMap DV.all, ∀ k, u.ownBlock = some k → ¬ O' k) : BokRaw tD tW tI w1 q o B rv ov V := by
  refine ⟨h.len, (hb.cell (p := ⟨q, o, none⟩) hl hq).trans h.c0, (hb.cell (p := ⟨q, o + 1, none⟩) hl hq).trans h.c1, own_save h.row hb (out rv (by simp)), own_save h.ord hb (out ov (by simp)), fun k D v hD hv => ?_, h.apart⟩
  obtain ⟨a, b, c⟩ := h.deal k D v hD hv
  obtain ⟨m1, m2, m3⟩ := mem_all hv
  exact ⟨own_save a hb (out _ (by simp [m1])), own_save b hb (out _ (by simp [m2])), own_save c hb (out _ (by simp [m3]))⟩
theorem BokIn.save {tD tW tI : TypeId} {O O' : Nat → Prop} {w w1 : World} {q o : Nat} {B : Bok} (h : BokIn tD tW tI O w q o B) (hb : Save O' w w1) (hn : ∀ k, O k → ¬ O' k) : BokIn tD tW tI O w1 q o B := by
  obtain ⟨rv, ov, V, h1, h7⟩ := h.raw
  have hl := h.lt
  have hq := hn q h.mine
  exact ⟨fun k hk => Nat.lt_of_lt_of_le (h.own k hk) hb.size, h.mine, fun k => (hb.frozen (p := ⟨q, k, none⟩) hl hq).trans (h.loose k), rv, ov, V, h1.save hl hb hq (fun u hu k hk => hn k (h7 u hu k hk)), h7⟩
theorem BokIn.next {tD tW tI : TypeId} {O : Nat → Prop} {w w1 : World} {q o : Nat} {B : Bok} (h : BokIn tD tW tI O w q o B) (hb : Below w.heap.size w w1) : BokIn tD tW tI O w1 q o B :=
  h.save (O' := fun _ => False) (.of_below hb) (fun _ _ q => q)

theorem all_y : ∀ {V : List DV} {k : Nat} {v : DV} (u : Value), V[k]? = some v → (V.set k { v with y := u }).flatMap DV.all = (V.flatMap DV.all).set (k * 3 + 1) u ∧ (V.flatMap DV.all)[k * 3 + 1]? = some v.y
  | t :: s, 0, v, u, h => by
    obtain rfl : t = v := by simpa using h
    exact ⟨rfl, rfl⟩
  | t :: s, k + 1, v, u, h => by
    obtain ⟨a, b⟩ := all_y (V := s) (k := k) u (by simpa using h)
    rw [show (k + 1) * 3 + 1 = k * 3 + 1 + 3 by omega]
    refine ⟨?_, ?_⟩
    · simp only [List.set_cons_succ, List.flatMap_cons, a, DV.all, List.cons_append, List.nil_append]
    · simpa [DV.all] using b
theorem all_o : ∀ {V : List DV} {k : Nat} {v : DV} (u : Value), V[k]? = some v → (V.set k { v with o := u }).flatMap DV.all = (V.flatMap DV.all).set (k * 3 + 2) u ∧ (V.flatMap DV.all)[k * 3 + 2]? = some v.o
  | t :: s, 0, v, u, h => by
    obtain rfl : t = v := by simpa using h
    exact ⟨rfl, rfl⟩
  | t :: s, k + 1, v, u, h => by
    obtain ⟨a, b⟩ := all_o (V := s) (k := k) u (by simpa using h)
    rw [show (k + 1) * 3 + 2 = k * 3 + 2 + 3 by omega]
    refine ⟨?_, ?_⟩
    · simp only [List.set_cons_succ, List.flatMap_cons, a, DV.all, List.cons_append, List.nil_append]
    · simpa [DV.all] using b
/-- A row is another one now, in its own block or in one that none has. -/
theorem apart_set {l : List Value} {i : Nat} {u u' : Value} (h : ApartV l) (hi : l[i]? = some u) (hu : ∀ k, u'.ownBlock = some k → u.ownBlock = some k ∨ ∀ v ∈ l, v.ownBlock ≠ some k) : ApartV (l.set i u') := by
  obtain ⟨hi', rfl⟩ := List.getElem?_eq_some_iff.1 hi
  unfold ApartV
  rw [List.pairwise_iff_getElem]
  intro a b ha hb hab k h1 h2
  have ha' : a < l.length := by simpa using ha
  have hb' : b < l.length := by simpa using hb
  have hp := List.pairwise_iff_getElem.1 h
  rw [List.getElem_set] at h1 h2
  by_cases ea : i = a
  · rw [if_pos ea] at h1
    rw [if_neg (by omega)] at h2
    rcases hu k h1 with q | q
    · subst ea
      exact hp i b hi' hb' hab k q h2
    · exact q _ (List.getElem_mem hb') h2
  · rw [if_neg ea] at h1
    by_cases eb : i = b
    · rw [if_pos eb] at h2
      rcases hu k h2 with q | q
      · subst eb
        exact hp a i ha' hi' hab k h1 q
      · exact q _ (List.getElem_mem ha') h1
    · rw [if_neg eb] at h2
      exact hp a b ha' hb' hab k h1 h2
/-- A row more, in a block that none has. -/
theorem apart_more {l m : List Value} (h : ApartV l) (hm : ApartV m) (hn : ∀ u ∈ m, ∀ k, u.ownBlock = some k → ∀ v ∈ l, v.ownBlock ≠ some k) : ApartV (l ++ m) :=
  List.pairwise_append.2 ⟨h, hm, fun v hv u hu k h1 h2 => hn u hu k h2 v hv h1⟩
theorem apart_at {l : List Value} {i j : Nat} {u v : Value} (h : ApartV l) (hi : l[i]? = some u) (hj : l[j]? = some v) (hij : i ≠ j) : ∀ k, u.ownBlock = some k → v.ownBlock ≠ some k := by
  obtain ⟨hi', rfl⟩ := List.getElem?_eq_some_iff.1 hi
  obtain ⟨hj', rfl⟩ := List.getElem?_eq_some_iff.1 hj
  have hp := List.pairwise_iff_getElem.1 h
  intro k h1 h2
  rcases Nat.lt_or_gt_of_ne hij with q | q
  · exact hp i j hi' hj' q k h1 h2
  · exact hp j i hj' hi' q k h2 h1

theorem all_w : ∀ {V : List DV} {k : Nat} {v : DV}, V[k]? = some v → (V.flatMap DV.all)[k * 3]? = some v.w
  | t :: s, 0, v, h => by
    obtain rfl : t = v := by simpa using h
    rfl
  | t :: s, k + 1, v, h => by
    have := all_w (V := s) (k := k) (v := v) (by simpa using h)
    rw [show (k + 1) * 3 = k * 3 + 3 by omega]
    simpa [DV.all] using this
theorem at_w {rv ov : Value} {V : List DV} {k : Nat} {v : DV} (h : V[k]? = some v) : (rv :: ov :: V.flatMap DV.all)[k * 3 + 2]? = some v.w := by
  simpa using all_w h
theorem at_y {rv ov : Value} {V : List DV} {k : Nat} {v : DV} (h : V[k]? = some v) : (rv :: ov :: V.flatMap DV.all)[k * 3 + 1 + 2]? = some v.y := by
  simpa using (all_y v.y h).2
theorem at_o {rv ov : Value} {V : List DV} {k : Nat} {v : DV} (h : V[k]? = some v) : (rv :: ov :: V.flatMap DV.all)[k * 3 + 2 + 2]? = some v.o := by
  simpa using (all_o v.o h).2
/-- The row of deals lies in no other row's block. -/
theorem BokRaw.other {tD tW tI : TypeId} {w : World} {q o g n cap : Nat} {B : Bok} {ov : Value} {V : List DV} (h : BokRaw tD tW tI w q o B (.slice (some ⟨g, 0, none⟩) n cap) ov V) : ∀ u ∈ ov :: V.flatMap DV.all, ∀ k, u.ownBlock = some k → k ≠ g := by
  intro u hu k hk e
  have h1 := (List.pairwise_cons.1 h.apart).1 u hu g rfl
  exact h1 (by rw [hk, e])
/-- A deal's state is stored. -/
theorem BokRaw.st {tD tW tI : TypeId} {w : World} {q o g n cap k : Nat} {B : Bok} {ov : Value} {V : List DV} {D : Dl} (h : BokRaw tD tW tI w q o B (.slice (some ⟨g, 0, none⟩) n cap) ov V) (hl : q < w.heap.size) (hk : B.L[k]? = some D) (x : Int) : BokRaw tD tW tI (w.setCell ⟨g, k * 4 + 1, none⟩ (.int .i64 x)) q o (putD B (k : Int) { D with st := x }) (.slice (some ⟨g, 0, none⟩) n cap) ov V := by
  have hn : B.L.length = n := by
    rcases h.row.2 with ⟨e1, e0⟩ | ⟨g', cap', cur, e1, _⟩
    · cases e1
    · simp only [Value.slice.injEq] at e1; omega
  subst hn
  obtain ⟨hB, _⟩ := own_row h.row
  have hkl := (List.getElem?_eq_some_iff.1 hk).1
  have hS : Save (fun b => b = g) w (w.setCell ⟨g, k * 4 + 1, none⟩ (.int .i64 x)) := Save.setCell (O := fun b => b = g) (Save.refl _ _) (p := ⟨g, k * 4 + 1, none⟩) (fun _ => rfl) _
  have hq : ¬ q = g := by omega
  have out := h.other
  have e1 : (putD B (k : Int) { D with st := x }).L = B.L.set k { D with st := x } := by simp [putD]
  refine ⟨by rw [put_len]; exact h.len, (hS.cell (p := ⟨q, o, none⟩) hl hq).trans h.c0, (hS.cell (p := ⟨q, o + 1, none⟩) hl hq).trans h.c1, ?_, own_save h.ord hS (fun j hj => out _ (by simp) j hj), fun j E v hE hv => ?_, h.apart⟩
  · rw [e1, List.length_set, flatD_st x h.len hk]
    exact own_set h.row (by rw [flatD_length h.len]; omega) _
  · have hE' : ∃ E', B.L[j]? = some E' ∧ E.w = E'.w ∧ E.yes = E'.yes ∧ E.ov = E'.ov := by
      rw [e1] at hE
      by_cases ej : k = j
      · subst ej
        rw [List.getElem?_set_self hkl] at hE
        obtain rfl := Option.some.inj hE
        exact ⟨D, hk, rfl, rfl, rfl⟩
      · rw [List.getElem?_set_ne ej] at hE
        exact ⟨E, hE, rfl, rfl, rfl⟩
    obtain ⟨E', hE', q1, q2, q3⟩ := hE'
    obtain ⟨a, b, c⟩ := h.deal j E' v hE' hv
    obtain ⟨m1, m2, m3⟩ := mem_all hv
    rw [q1, q2, q3]
    exact ⟨own_save a hS (out _ (by simp [m1])), own_save b hS (out _ (by simp [m2])), own_save c hS (out _ (by simp [m3]))⟩
/-- The row of a deal's wants that are held is another one now. -/
theorem BokRaw.yes {tD tW tI : TypeId} {w w8 : World} {q o g n cap k : Nat} {B : Bok} {ov v8 : Value} {V : List DV} {D : Dl} {v : DV} {l : List Int} (h : BokRaw tD tW tI w q o B (.slice (some ⟨g, 0, none⟩) n cap) ov V) (hl : q < w.heap.size) (hall : ∀ u ∈ (.slice (some ⟨g, 0, none⟩) n cap : Value) :: ov :: V.flatMap DV.all, ∀ j, u.ownBlock = some j → j < w.heap.size) (hk : B.L[k]? = some D) (hv : V[k]? = some v)
    (h8 : Save (fun b => v.y.ownBlock = some b) w w8) (hr8 : w8.ownsRow (q + 1) tI 1 v8 l.length (l.map (Value.int .i64))) (hw8 : ∀ j, v8.ownBlock = some j → v.y.ownBlock = some j ∨ w.heap.size ≤ j) :
    BokRaw tD tW tI (w8.setCell ⟨g, k * 4 + 2, none⟩ v8) q o (putD B (k : Int) { D with yes := l }) (.slice (some ⟨g, 0, none⟩) n cap) ov (V.set k { v with y := v8 }) := by
  have hn : B.L.length = n := by
    rcases h.row.2 with ⟨e1, e0⟩ | ⟨g', cap', cur, e1, _⟩
    · cases e1
    · simp only [Value.slice.injEq] at e1; omega
  subst hn
  obtain ⟨hB, _⟩ := own_row h.row
  have hkl := (List.getElem?_eq_some_iff.1 hk).1
  have hvl := (List.getElem?_eq_some_iff.1 hv).1
  have hS : Save (fun b => b = g) w8 (w8.setCell ⟨g, k * 4 + 2, none⟩ v8) := Save.setCell (O := fun b => b = g) (Save.refl _ _) (p := ⟨g, k * 4 + 2, none⟩) (fun _ => rfl) _
  have hq : ¬ q = g := by omega
  have out := h.other
  have hvy := (mem_all hv).2.1
  have hgl : g < w.heap.size := hall (.slice (some ⟨g, 0, none⟩) B.L.length cap) List.mem_cons_self g rfl
  have hqy : ¬ v.y.ownBlock = some q := fun e => by
    have hr := (h.deal k D v hk hv).2.1
    have := (hr.lt q e).1
    omega
  have hgy : ¬ v.y.ownBlock = some g := fun e => out v.y (by simp [hvy]) g e rfl
  have hl8 : q < w8.heap.size := Nat.lt_of_lt_of_le hl h8.size
  have h8g : v8.ownBlock ≠ some g := fun e => (hw8 g e).elim hgy (fun q => by omega)
  have e1 : (putD B (k : Int) { D with yes := l }).L = B.L.set k { D with yes := l } := by simp [putD]
  have far : ∀ {i : Nat} {u : Value}, ((.slice (some ⟨g, 0, none⟩) B.L.length cap : Value) :: ov :: V.flatMap DV.all)[i]? = some u → i ≠ k * 3 + 1 + 2 → ∀ j, u.ownBlock = some j → ¬ v.y.ownBlock = some j := fun {i u} hi hne j h1 h2 => apart_at h.apart hi (at_y hv) hne j h1 h2
  refine ⟨by rw [put_len, List.length_set]; exact h.len, (hS.cell (p := ⟨q, o, none⟩) hl8 hq).trans ((h8.cell (p := ⟨q, o, none⟩) hl hqy).trans h.c0), (hS.cell (p := ⟨q, o + 1, none⟩) hl8 hq).trans ((h8.cell (p := ⟨q, o + 1, none⟩) hl hqy).trans h.c1), ?_, own_save (own_save h.ord h8 (fun j hj => far (i := 1) rfl (by omega) j hj)) hS (fun j hj => out _ (by simp) j hj), fun j E u hE hu => ?_, ?_⟩
  · rw [e1, List.length_set, flatD_yes l v8 h.len hk hv]
    exact own_set (own_save h.row h8 (fun j hj => far (i := 0) rfl (by omega) j hj)) (by rw [flatD_length h.len]; omega) _
  · rw [e1] at hE
    by_cases ej : k = j
    · subst ej
      rw [List.getElem?_set_self hkl] at hE
      rw [List.getElem?_set_self hvl] at hu
      obtain rfl := Option.some.inj hE
      obtain rfl := Option.some.inj hu
      obtain ⟨a, b, c⟩ := h.deal k D v hk hv
      obtain ⟨m1, m2, m3⟩ := mem_all hv
      refine ⟨own_save (own_save a h8 (fun i hi => far (at_w hv) (by omega) i hi)) hS (out _ (by simp [m1])), own_save hr8 hS (fun i hi e => h8g (by rw [hi, e])), own_save (own_save c h8 (fun i hi => far (at_o hv) (by omega) i hi)) hS (out _ (by simp [m3]))⟩
    · rw [List.getElem?_set_ne ej] at hE hu
      obtain ⟨a, b, c⟩ := h.deal j E u hE hu
      obtain ⟨m1, m2, m3⟩ := mem_all hu
      exact ⟨own_save (own_save a h8 (fun i hi => far (at_w hu) (by omega) i hi)) hS (out _ (by simp [m1])), own_save (own_save b h8 (fun i hi => far (at_y hu) (by omega) i hi)) hS (out _ (by simp [m2])), own_save (own_save c h8 (fun i hi => far (at_o hu) (by omega) i hi)) hS (out _ (by simp [m3]))⟩
  · have e2 := (all_y v8 hv).1
    show ApartV (_ :: ov :: (V.set k { v with y := v8 }).flatMap DV.all)
    rw [e2]
    have := apart_set h.apart (at_y hv) (u' := v8) (fun j hj => (hw8 j hj).imp id (fun q u hu e => by have := hall u hu j e; omega))
    simpa using this

/-- The row of the shops where a deal is over is another one now. -/
theorem BokRaw.ov' {tD tW tI : TypeId} {w w8 : World} {q o g n cap k : Nat} {B : Bok} {ov v8 : Value} {V : List DV} {D : Dl} {v : DV} {l : List Int} (h : BokRaw tD tW tI w q o B (.slice (some ⟨g, 0, none⟩) n cap) ov V) (hl : q < w.heap.size) (hall : ∀ u ∈ (.slice (some ⟨g, 0, none⟩) n cap : Value) :: ov :: V.flatMap DV.all, ∀ j, u.ownBlock = some j → j < w.heap.size) (hk : B.L[k]? = some D) (hv : V[k]? = some v)
    (h8 : Save (fun b => v.o.ownBlock = some b) w w8) (hr8 : w8.ownsRow (q + 1) tI 1 v8 l.length (l.map (Value.int .i64))) (hw8 : ∀ j, v8.ownBlock = some j → v.o.ownBlock = some j ∨ w.heap.size ≤ j) :
    BokRaw tD tW tI (w8.setCell ⟨g, k * 4 + 3, none⟩ v8) q o (putD B (k : Int) { D with ov := l }) (.slice (some ⟨g, 0, none⟩) n cap) ov (V.set k { v with o := v8 }) := by
  have hn : B.L.length = n := by
    rcases h.row.2 with ⟨e1, e0⟩ | ⟨g', cap', cur, e1, _⟩
    · cases e1
    · simp only [Value.slice.injEq] at e1; omega
  subst hn
  obtain ⟨hB, _⟩ := own_row h.row
  have hkl := (List.getElem?_eq_some_iff.1 hk).1
  have hvl := (List.getElem?_eq_some_iff.1 hv).1
  have hS : Save (fun b => b = g) w8 (w8.setCell ⟨g, k * 4 + 3, none⟩ v8) := Save.setCell (O := fun b => b = g) (Save.refl _ _) (p := ⟨g, k * 4 + 3, none⟩) (fun _ => rfl) _
  have hq : ¬ q = g := by omega
  have out := h.other
  have hvy := (mem_all hv).2.2
  have hgl : g < w.heap.size := hall (.slice (some ⟨g, 0, none⟩) B.L.length cap) List.mem_cons_self g rfl
  have hqy : ¬ v.o.ownBlock = some q := fun e => by
    have hr := (h.deal k D v hk hv).2.2
    have := (hr.lt q e).1
    omega
  have hgy : ¬ v.o.ownBlock = some g := fun e => out v.o (by simp [hvy]) g e rfl
  have hl8 : q < w8.heap.size := Nat.lt_of_lt_of_le hl h8.size
  have h8g : v8.ownBlock ≠ some g := fun e => (hw8 g e).elim hgy (fun q => by omega)
  have e1 : (putD B (k : Int) { D with ov := l }).L = B.L.set k { D with ov := l } := by simp [putD]
  have far : ∀ {i : Nat} {u : Value}, ((.slice (some ⟨g, 0, none⟩) B.L.length cap : Value) :: ov :: V.flatMap DV.all)[i]? = some u → i ≠ k * 3 + 2 + 2 → ∀ j, u.ownBlock = some j → ¬ v.o.ownBlock = some j := fun {i u} hi hne j h1 h2 => apart_at h.apart hi (at_o hv) hne j h1 h2
  refine ⟨by rw [put_len, List.length_set]; exact h.len, (hS.cell (p := ⟨q, o, none⟩) hl8 hq).trans ((h8.cell (p := ⟨q, o, none⟩) hl hqy).trans h.c0), (hS.cell (p := ⟨q, o + 1, none⟩) hl8 hq).trans ((h8.cell (p := ⟨q, o + 1, none⟩) hl hqy).trans h.c1), ?_, own_save (own_save h.ord h8 (fun j hj => far (i := 1) rfl (by omega) j hj)) hS (fun j hj => out _ (by simp) j hj), fun j E u hE hu => ?_, ?_⟩
  · rw [e1, List.length_set, flatD_ov l v8 h.len hk hv]
    exact own_set (own_save h.row h8 (fun j hj => far (i := 0) rfl (by omega) j hj)) (by rw [flatD_length h.len]; omega) _
  · rw [e1] at hE
    by_cases ej : k = j
    · subst ej
      rw [List.getElem?_set_self hkl] at hE
      rw [List.getElem?_set_self hvl] at hu
      obtain rfl := Option.some.inj hE
      obtain rfl := Option.some.inj hu
      obtain ⟨a, b, c⟩ := h.deal k D v hk hv
      obtain ⟨m1, m2, m3⟩ := mem_all hv
      refine ⟨own_save (own_save a h8 (fun i hi => far (at_w hv) (by omega) i hi)) hS (out _ (by simp [m1])), own_save (own_save b h8 (fun i hi => far (at_y hv) (by omega) i hi)) hS (out _ (by simp [m2])), own_save hr8 hS (fun i hi e => h8g (by rw [hi, e]))⟩
    · rw [List.getElem?_set_ne ej] at hE hu
      obtain ⟨a, b, c⟩ := h.deal j E u hE hu
      obtain ⟨m1, m2, m3⟩ := mem_all hu
      exact ⟨own_save (own_save a h8 (fun i hi => far (at_w hu) (by omega) i hi)) hS (out _ (by simp [m1])), own_save (own_save b h8 (fun i hi => far (at_y hu) (by omega) i hi)) hS (out _ (by simp [m2])), own_save (own_save c h8 (fun i hi => far (at_o hu) (by omega) i hi)) hS (out _ (by simp [m3]))⟩
  · have e2 := (all_o v8 hv).1
    show ApartV (_ :: ov :: (V.set k { v with o := v8 }).flatMap DV.all)
    rw [e2]
    have := apart_set h.apart (at_o hv) (u' := v8) (fun j hj => (hw8 j hj).imp id (fun q u hu e => by have := hall u hu j e; omega))
    simpa using this

/-- The order in which deals were done is another row now. -/
theorem BokRaw.ordr {tD tW tI : TypeId} {w w8 : World} {q o : Nat} {B : Bok} {rv ov v8 : Value} {V : List DV} {l : List Int} (h : BokRaw tD tW tI w q o B rv ov V) (hl : q < w.heap.size) (hall : ∀ u ∈ rv :: ov :: V.flatMap DV.all, ∀ j, u.ownBlock = some j → j < w.heap.size)
    (h8 : Save (fun b => ov.ownBlock = some b) w w8) (hr8 : w8.ownsRow (q + 1) tI 1 v8 l.length (l.map (Value.int .i64))) (hw8 : ∀ j, v8.ownBlock = some j → ov.ownBlock = some j ∨ w.heap.size ≤ j) :
    BokRaw tD tW tI (w8.setCell ⟨q, o + 1, none⟩ v8) q o { B with ord := l } rv v8 V := by
  have hqo : ¬ ov.ownBlock = some q := fun e => by
    have := (h.ord.lt q e).1
    omega
  have far : ∀ {i : Nat} {u : Value}, (rv :: ov :: V.flatMap DV.all)[i]? = some u → i ≠ 1 → ∀ j, u.ownBlock = some j → ¬ ov.ownBlock = some j := fun {i u} hi hne j h1 h2 => apart_at h.apart hi (show (rv :: ov :: V.flatMap DV.all)[1]? = some ov from rfl) hne j h1 h2
  have bq : ∀ {e s : Nat} {u : Value} {m : Nat} {xs : List Value}, w8.ownsRow (q + 1) e s u m xs → (w8.setCell ⟨q, o + 1, none⟩ v8).ownsRow (q + 1) e s u m xs := fun hr => ownsRow_setCell_below hr (Nat.lt_succ_self q) _
  refine ⟨h.len, (cell_set_off (by omega)).trans ((h8.cell (p := ⟨q, o, none⟩) hl hqo).trans h.c0), cell_set_same ((h8.cell (p := ⟨q, o + 1, none⟩) hl hqo).trans h.c1), bq (own_save h.row h8 (fun j hj => far (i := 0) rfl (by omega) j hj)), bq hr8, fun j E u hE hu => ?_, ?_⟩
  · obtain ⟨a, b, c⟩ := h.deal j E u hE hu
    exact ⟨bq (own_save a h8 (fun i hi => far (at_w hu) (by omega) i hi)), bq (own_save b h8 (fun i hi => far (at_y hu) (by omega) i hi)), bq (own_save c h8 (fun i hi => far (at_o hu) (by omega) i hi))⟩
  · exact apart_set h.apart (show (rv :: ov :: V.flatMap DV.all)[1]? = some ov from rfl) (u' := v8) (fun j hj => (hw8 j hj).imp id (fun q u hu e => by have := hall u hu j e; omega))
/-- A deal more: a new row of wants, and the row of deals is another one now. -/
theorem BokRaw.begin {tD tW tI : TypeId} {w w7 w8 : World} {q o : Nat} {B : Bok} {rv ov v7 v8 : Value} {V : List DV} {l : List (Int × Int)} (h : BokRaw tD tW tI w q o B rv ov V) (hl : q < w.heap.size) (hall : ∀ u ∈ rv :: ov :: V.flatMap DV.all, ∀ j, u.ownBlock = some j → j < w.heap.size)
    (h7 : Below w.heap.size w w7) (hr7 : w7.ownsRow (q + 1) tW 2 v7 l.length (flat l)) (hw7 : ∀ j, v7.ownBlock = some j → w.heap.size ≤ j ∧ j < w7.heap.size)
    (h8 : Save (fun b => rv.ownBlock = some b) w7 w8) (hr8 : w8.ownsRow (q + 1) tD 4 v8 (B.L.length + 1) (flatD B.L V ++ [v7, .int .i64 0, .slice none 0 0, .slice none 0 0])) (hw8 : ∀ j, v8.ownBlock = some j → rv.ownBlock = some j ∨ w7.heap.size ≤ j) :
    BokRaw tD tW tI (w8.setCell ⟨q, o, none⟩ v8) q o { B with L := B.L ++ [⟨l, 0, [], []⟩] } v8 ov (V ++ [⟨v7, .slice none 0 0, .slice none 0 0⟩]) := by
  have hq7 : q < w7.heap.size := Nat.lt_of_lt_of_le hl h7.size
  have hqr : ¬ rv.ownBlock = some q := fun e => by
    have := (h.row.lt q e).1
    omega
  have hc : ∀ j, (w8.cell? ⟨q, j, none⟩) = w.cell? ⟨q, j, none⟩ := fun j => (h8.cell (p := ⟨q, j, none⟩) hq7 hqr).trans (h7.cell (p := ⟨q, j, none⟩) hl)
  have far : ∀ {i : Nat} {u : Value}, (rv :: ov :: V.flatMap DV.all)[i]? = some u → i ≠ 0 → ∀ j, u.ownBlock = some j → ¬ rv.ownBlock = some j := fun {i u} hi hne j h1 h2 => apart_at h.apart hi (show (rv :: ov :: V.flatMap DV.all)[0]? = some rv from rfl) hne j h1 h2
  have bq : ∀ {e s : Nat} {u : Value} {m : Nat} {xs : List Value}, w8.ownsRow (q + 1) e s u m xs → (w8.setCell ⟨q, o, none⟩ v8).ownsRow (q + 1) e s u m xs := fun hr => ownsRow_setCell_below hr (Nat.lt_succ_self q) _
  have up : ∀ {e s : Nat} {u : Value} {m : Nat} {xs : List Value}, w.ownsRow (q + 1) e s u m xs → (∀ j, u.ownBlock = some j → ¬ rv.ownBlock = some j) → (w8.setCell ⟨q, o, none⟩ v8).ownsRow (q + 1) e s u m xs := fun hr hf => bq (own_save (own_next hr h7) h8 hf)
  have nn : ∀ k, ¬ (Value.slice none 0 0).ownBlock = some k := fun k e => by simp [Value.ownBlock] at e
  refine ⟨by simpa using h.len, cell_set_same ((hc o).trans h.c0), (cell_set_off (by omega)).trans ((hc (o + 1)).trans h.c1), ?_, up h.ord (fun j hj => far (i := 1) rfl (by omega) j hj), fun j E u hE hu => ?_, ?_⟩
  · show World.ownsRow _ _ _ _ _ (B.L ++ [_]).length (flatD (B.L ++ [⟨l, 0, [], []⟩]) (V ++ [⟨v7, .slice none 0 0, .slice none 0 0⟩]))
    rw [flatD_snoc _ _ h.len, List.length_append]
    exact bq hr8
  · have hE' : (B.L ++ [(⟨l, 0, [], []⟩ : Dl)])[j]? = some E := hE
    by_cases hj : j < B.L.length
    · rw [List.getElem?_append_left hj] at hE'
      rw [List.getElem?_append_left (by rw [h.len]; exact hj)] at hu
      obtain ⟨a, b, c⟩ := h.deal j E u hE' hu
      exact ⟨up a (fun i hi => far (at_w hu) (by omega) i hi), up b (fun i hi => far (at_y hu) (by omega) i hi), up c (fun i hi => far (at_o hu) (by omega) i hi)⟩
    · have hj' := (List.getElem?_eq_some_iff.1 hE').1
      simp at hj'
      have ej : j = B.L.length := by omega
      subst ej
      simp at hE'
      rw [← h.len] at hu
      simp at hu
      subst hE'
      subst hu
      refine ⟨bq (own_save hr7 h8 (fun j hj e => ?_)), World.ownsRow_nil _ _ _ _, World.ownsRow_nil _ _ _ _⟩
      have h1 := hw7 j hj
      have h2 := hall rv (by simp) j e
      omega
  · have hfl : (V ++ [(⟨v7, .slice none 0 0, .slice none 0 0⟩ : DV)]).flatMap DV.all = V.flatMap DV.all ++ [v7, .slice none 0 0, .slice none 0 0] := by simp [DV.all]
    rw [hfl]
    have h1 : ApartV ((rv :: ov :: V.flatMap DV.all) ++ [v7, .slice none 0 0, .slice none 0 0]) := by
      refine apart_more h.apart ?_ ?_
      · refine List.pairwise_cons.2 ⟨fun u hu k _ e => ?_, List.pairwise_cons.2 ⟨fun u _ k e _ => nn k e, List.pairwise_singleton _ _⟩⟩
        simp at hu
        rw [hu] at e
        exact nn k e
      · intro u hu k hk x hx e
        simp at hu
        rcases hu with rfl | rfl
        · have h1 := hw7 k hk
          have h2 := hall x hx k e
          omega
        · exact nn k hk
    have h2 := apart_set (l := (rv :: ov :: V.flatMap DV.all) ++ [v7, .slice none 0 0, .slice none 0 0]) (i := 0) (u := rv) (u' := v8) h1 rfl (fun j hj => (hw8 j hj).imp id (fun q x hx e => by
      rcases List.mem_append.1 hx with z | z
      · have := hall x z j e
        have := h7.size
        omega
      · simp at z
        rcases z with rfl | rfl
        · have := hw7 j e; omega
        · exact nn j e))
    simpa using h2

/-- All other cells of the block q are as they were. -/
def Rest2 (q o : Nat) (w w' : World) : Prop := ∀ j, j ≠ o → j ≠ o + 1 → w'.cell? ⟨q, j, none⟩ = w.cell? ⟨q, j, none⟩
/-- What a step leaves: the book is B', all but O is as it was, all other cells of q are. -/
def BokTo (tD tW tI : TypeId) (O : Nat → Prop) (w w' : World) (q o : Nat) (B' : Bok) : Prop := ∃ O', BokIn tD tW tI O' w' q o B' ∧ Save O w w' ∧ Moved O O' w ∧ Rest2 q o w w'
theorem BokTo.stay {tD tW tI : TypeId} {O : Nat → Prop} {w w' : World} {q o : Nat} {B : Bok} (h : BokIn tD tW tI O w q o B) (hb : Below w.heap.size w w') : BokTo tD tW tI O w w' q o B :=
  ⟨O, h.next hb, .of_below hb, .refl _ _, fun j _ _ => hb.cell (p := ⟨q, j, none⟩) h.lt⟩
theorem BokTo.behind {tD tW tI : TypeId} {O : Nat → Prop} {w w1 w' : World} {q o : Nat} {B B' : Bok} (h : BokIn tD tW tI O w q o B) (hb : Below w.heap.size w w1) (hs : BokTo tD tW tI O w1 w' q o B') : BokTo tD tW tI O w w' q o B' := by
  obtain ⟨O', h1, h2, h3, h4⟩ := hs
  exact ⟨O', h1, (Save.of_below hb).trans h2 (fun _ _ hj => hj), fun k hk => (h3 k hk).imp id (fun q => Nat.le_trans hb.size q), fun j a b => (h4 j a b).trans (hb.cell (p := ⟨q, j, none⟩) h.lt)⟩
/-- The rows are as a step has them: the book behind it. -/
theorem bok_to {tD tW tI : TypeId} {O : Nat → Prop} {w w9 : World} {q o : Nat} {B' : Bok} {rv ov : Value} {V : List DV} (hO : ∀ k, O k → k < w.heap.size) (hm : O q) (hS : Save O w w9) (hR : BokRaw tD tW tI w9 q o B' rv ov V) (hf : ∀ k, w9.frozen? ⟨q, k, none⟩ = false) (hrow : ∀ u ∈ rv :: ov :: V.flatMap DV.all, ∀ k, u.ownBlock = some k → (O k ∨ w.heap.size ≤ k) ∧ k < w9.heap.size) (h2 : Rest2 q o w w9) : BokTo tD tW tI O w w9 q o B' := by
  refine ⟨fun k => O k ∨ ∃ u ∈ rv :: ov :: V.flatMap DV.all, u.ownBlock = some k, ⟨fun k hk => ?_, .inl hm, hf, rv, ov, V, hR, fun u hu k hk => .inr ⟨u, hu, hk⟩⟩, hS, fun k hk => ?_, h2⟩
  · rcases hk with hk | ⟨u, hu, hk⟩
    · exact Nat.lt_of_lt_of_le (hO k hk) hS.size
    · exact (hrow u hu k hk).2
  · rcases hk with hk | ⟨u, hu, hk⟩
    · exact .inl hk
    · exact (hrow u hu k hk).1

end Go.Proofs.Ytbgnajcmhmpjlab
