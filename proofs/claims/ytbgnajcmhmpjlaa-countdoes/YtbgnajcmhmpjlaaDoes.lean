/- The walk of CountDoes: it answers true, whatever counter, number and answer it is given. -/
import Derived.Test.YtbgnajcmhmpjlaaFacts
import Derived.Deep.RegionHeld3
import Derived.Test.YtbgnajcmhmpjlaaQuiet
namespace Go.Proofs.Ytbgnajcmhmpjlaa
open Go.RowKit

def HeldIs (v o i n a b c k : Int) : Prop := ∀ w : World, Calls Try.prog 17 #[.agg #[.int .i64 v, .int .i64 o, .int .i64 i], .int .i64 n] w fun e w' => e = .returned (.tuple #[.agg #[.int .i64 a, .int .i64 b, .int .i64 c], .int .i64 k]) ∧ Below w.heap.size w w'
def EndedIs (v o i n : Int) (d : Bool) (a b c k : Int) : Prop := ∀ w : World, Calls Try.prog 19 #[.agg #[.int .i64 v, .int .i64 o, .int .i64 i], .int .i64 n, .bool d] w fun e w' => e = .returned (.tuple #[.agg #[.int .i64 a, .int .i64 b, .int .i64 c], .int .i64 k]) ∧ Below w.heap.size w w'

theorem five_keep {v o i a b c a' b' c' : Int} {n0 n1 n2 n3 n4 : Nat} {w W w1 : World} (h : W.cell? ⟨n0, 0, none⟩ = some (.int .i64 v) ∧ W.cell? ⟨n0, 1, none⟩ = some (.int .i64 o) ∧ W.cell? ⟨n0, 2, none⟩ = some (.int .i64 i) ∧ W.cell? ⟨n1, 0, none⟩ = some (.int .i64 a) ∧ W.cell? ⟨n1, 1, none⟩ = some (.int .i64 b) ∧ W.cell? ⟨n1, 2, none⟩ = some (.int .i64 c) ∧ W.cell? ⟨n2, 0, none⟩ = some (.int .i64 a) ∧ W.cell? ⟨n2, 1, none⟩ = some (.int .i64 b) ∧ W.cell? ⟨n2, 2, none⟩ = some (.int .i64 c) ∧ W.cell? ⟨n3, 0, none⟩ = some (.int .i64 a') ∧ W.cell? ⟨n3, 1, none⟩ = some (.int .i64 b') ∧ W.cell? ⟨n3, 2, none⟩ = some (.int .i64 c') ∧ W.cell? ⟨n4, 0, none⟩ = some (.int .i64 a') ∧ W.cell? ⟨n4, 1, none⟩ = some (.int .i64 b') ∧ W.cell? ⟨n4, 2, none⟩ = some (.int .i64 c') ∧ Below w.heap.size w W ∧ n0 < W.heap.size ∧ n1 < W.heap.size ∧ n2 < W.heap.size ∧ n3 < W.heap.size ∧ n4 < W.heap.size ∧ w.heap.size ≤ W.heap.size) (hb : Below W.heap.size W w1) :
    w1.cell? ⟨n0, 0, none⟩ = some (.int .i64 v) ∧ w1.cell? ⟨n0, 1, none⟩ = some (.int .i64 o) ∧ w1.cell? ⟨n0, 2, none⟩ = some (.int .i64 i) ∧ w1.cell? ⟨n1, 0, none⟩ = some (.int .i64 a) ∧ w1.cell? ⟨n1, 1, none⟩ = some (.int .i64 b) ∧ w1.cell? ⟨n1, 2, none⟩ = some (.int .i64 c) ∧ w1.cell? ⟨n2, 0, none⟩ = some (.int .i64 a) ∧ w1.cell? ⟨n2, 1, none⟩ = some (.int .i64 b) ∧ w1.cell? ⟨n2, 2, none⟩ = some (.int .i64 c) ∧ w1.cell? ⟨n3, 0, none⟩ = some (.int .i64 a') ∧ w1.cell? ⟨n3, 1, none⟩ = some (.int .i64 b') ∧ w1.cell? ⟨n3, 2, none⟩ = some (.int .i64 c') ∧ w1.cell? ⟨n4, 0, none⟩ = some (.int .i64 a') ∧ w1.cell? ⟨n4, 1, none⟩ = some (.int .i64 b') ∧ w1.cell? ⟨n4, 2, none⟩ = some (.int .i64 c') ∧ Below w.heap.size w w1 ∧ n0 < w1.heap.size ∧ n1 < w1.heap.size ∧ n2 < w1.heap.size ∧ n3 < w1.heap.size ∧ n4 < w1.heap.size ∧ w.heap.size ≤ w1.heap.size := by
  obtain ⟨a0, a1, a2, b0, b1, b2, c0, c1, c2, d0, d1, d2, e0, e1, e2, hw, l0, l1, l2, l3, l4, l5⟩ := h
  have hz := hb.size
  obtain ⟨a0, a1, a2⟩ := box3 n0 hb l0 a0 a1 a2
  obtain ⟨b0, b1, b2⟩ := box3 n1 hb l1 b0 b1 b2
  obtain ⟨c0, c1, c2⟩ := box3 n2 hb l2 c0 c1 c2
  obtain ⟨d0, d1, d2⟩ := box3 n3 hb l3 d0 d1 d2
  obtain ⟨e0, e1, e2⟩ := box3 n4 hb l4 e0 e1 e2
  exact ⟨a0, a1, a2, b0, b1, b2, c0, c1, c2, d0, d1, d2, e0, e1, e2, hw.trans (hb.mono l5), by omega, by omega, by omega, by omega, by omega, by omega⟩

theorem five_below {v o i a b c a' b' c' : Int} {n0 n1 n2 n3 n4 : Nat} {w W : World} (h : W.cell? ⟨n0, 0, none⟩ = some (.int .i64 v) ∧ W.cell? ⟨n0, 1, none⟩ = some (.int .i64 o) ∧ W.cell? ⟨n0, 2, none⟩ = some (.int .i64 i) ∧ W.cell? ⟨n1, 0, none⟩ = some (.int .i64 a) ∧ W.cell? ⟨n1, 1, none⟩ = some (.int .i64 b) ∧ W.cell? ⟨n1, 2, none⟩ = some (.int .i64 c) ∧ W.cell? ⟨n2, 0, none⟩ = some (.int .i64 a) ∧ W.cell? ⟨n2, 1, none⟩ = some (.int .i64 b) ∧ W.cell? ⟨n2, 2, none⟩ = some (.int .i64 c) ∧ W.cell? ⟨n3, 0, none⟩ = some (.int .i64 a') ∧ W.cell? ⟨n3, 1, none⟩ = some (.int .i64 b') ∧ W.cell? ⟨n3, 2, none⟩ = some (.int .i64 c') ∧ W.cell? ⟨n4, 0, none⟩ = some (.int .i64 a') ∧ W.cell? ⟨n4, 1, none⟩ = some (.int .i64 b') ∧ W.cell? ⟨n4, 2, none⟩ = some (.int .i64 c') ∧ Below w.heap.size w W ∧ n0 < W.heap.size ∧ n1 < W.heap.size ∧ n2 < W.heap.size ∧ n3 < W.heap.size ∧ n4 < W.heap.size ∧ w.heap.size ≤ W.heap.size) : Below w.heap.size w W := h.2.2.2.2.2.2.2.2.2.2.2.2.2.2.2.1

set_option maxHeartbeats 2000000 in
theorem does_walk (v o i n : Int) (d : Bool) (a b c k a' b' c' k' : Int) (w : World)
    (H1 : HoldIs v o i n a b c k) (H2 : HeldIs v o i n a b c k) (H3 : EndIs v o i n d a' b' c' k') (H4 : EndedIs v o i n d a' b' c' k') :
    Calls Try.prog 3 #[.agg #[.int .i64 v, .int .i64 o, .int .i64 i], .int .i64 n, .bool d] w fun e w' => e = .returned (.bool true) ∧ Below w.heap.size w w' := by
  go_enter Try.func3, Try.ntmps3
  go_wp2_with fail
  refine (begun_any _).mono ?_
  rintro e w1 ⟨rfl, hb1⟩
  have hw1 : Below w.heap.size w w1 := after (by go_grown) hb1 (by simp)
  have hz1 : w.heap.size < w1.heap.size := by have := hb1.size; simp at this; omega
  obtain ⟨q0, q1, q2⟩ := box3 w.heap.size (x := .int .i64 v) (y := .int .i64 o) (z := .int .i64 i) hb1 (by simp) (by simp [go_sem]) (by simp [go_sem]) (by simp [go_sem])
  clear hb1
  go_wp2_with fail
  refine (H1 _).mono ?_
  rintro e w2 ⟨rfl, hb2⟩
  have hz2 : w.heap.size < w2.heap.size := by have := hb2.size; omega
  have hw2 : Below w.heap.size w w2 := after hw1 hb2 (by omega)
  obtain ⟨q0, q1, q2⟩ := box3 w.heap.size hb2 (by omega) q0 q1 q2
  clear hb2
  go_wp2_with fail
  refine (H2 _).mono ?_
  rintro e w3 ⟨rfl, hb3⟩
  have hb23 : Below w2.heap.size w2 w3 := after (by go_grown) hb3 (by simp)
  have hz3 : w2.heap.size < w3.heap.size := by have := hb3.size; simp at this; omega
  have hw3 : Below w.heap.size w w3 := after hw2 hb23 (by omega)
  obtain ⟨q0, q1, q2⟩ := box3 w.heap.size hb23 (by omega) q0 q1 q2
  obtain ⟨r0, r1, r2⟩ := box3 w2.heap.size (x := .int .i64 a) (y := .int .i64 b) (z := .int .i64 c) hb3 (by simp) (by simp [go_sem]) (by simp [go_sem]) (by simp [go_sem])
  have l2 : w.heap.size < w3.heap.size := by omega
  clear hb3 hb23
  go_wp2_with fail
  refine (H3 _).mono ?_
  rintro e w4 ⟨rfl, hb4⟩
  have hz4 : w3.heap.size < w4.heap.size := by have := hb4.size; simp at this; omega
  have hb34 : Below w3.heap.size w3 w4 := after (by go_grown) hb4 (by simp)
  have hw4 : Below w.heap.size w w4 := after hw3 hb34 (by omega)
  obtain ⟨q0, q1, q2⟩ := box3 w.heap.size hb34 (by omega) q0 q1 q2
  obtain ⟨r0, r1, r2⟩ := box3 w2.heap.size hb34 (by omega) r0 r1 r2
  obtain ⟨s0, s1, s2⟩ := box3 w3.heap.size (x := .int .i64 a) (y := .int .i64 b) (z := .int .i64 c) hb4 (by simp) (by simp [go_sem]) (by simp [go_sem]) (by simp [go_sem])
  have l3 : w.heap.size < w4.heap.size := by omega
  clear hb4 hb34
  go_wp2_with fail
  refine (H4 _).mono ?_
  rintro e w5 ⟨rfl, hb5⟩
  have hz5 : w4.heap.size < w5.heap.size := by have := hb5.size; simp at this; omega
  have hb45 : Below w4.heap.size w4 w5 := after (by go_grown) hb5 (by simp)
  have hw5 : Below w.heap.size w w5 := after hw4 hb45 (by omega)
  obtain ⟨q0, q1, q2⟩ := box3 w.heap.size hb45 (by omega) q0 q1 q2
  obtain ⟨r0, r1, r2⟩ := box3 w2.heap.size hb45 (by omega) r0 r1 r2
  obtain ⟨s0, s1, s2⟩ := box3 w3.heap.size hb45 (by omega) s0 s1 s2
  obtain ⟨t0, t1, t2⟩ := box3 w4.heap.size (x := .int .i64 a') (y := .int .i64 b') (z := .int .i64 c') hb5 (by simp) (by simp [go_sem]) (by simp [go_sem]) (by simp [go_sem])
  have l4 : w.heap.size < w5.heap.size := by omega
  have l5 : w2.heap.size < w5.heap.size := by omega
  have l6 : w3.heap.size < w5.heap.size := by omega
  clear hb5 hb45 hw1 hw2 hw3 hw4 H1 H2 H3 H4
  go_wp2_with fail
  have h6 : Below w5.heap.size w5 (w5.alloc (Obj.cells #[Value.int IntKind.i64 a', Value.int IntKind.i64 b', Value.int IntKind.i64 c'] 23)) := by go_grown
  have hF : (w5.alloc (Obj.cells #[Value.int IntKind.i64 a', Value.int IntKind.i64 b', Value.int IntKind.i64 c'] 23)).cell? ⟨w.heap.size, 0, none⟩ = some (.int .i64 v) ∧ (w5.alloc (Obj.cells #[Value.int IntKind.i64 a', Value.int IntKind.i64 b', Value.int IntKind.i64 c'] 23)).cell? ⟨w.heap.size, 1, none⟩ = some (.int .i64 o) ∧ (w5.alloc (Obj.cells #[Value.int IntKind.i64 a', Value.int IntKind.i64 b', Value.int IntKind.i64 c'] 23)).cell? ⟨w.heap.size, 2, none⟩ = some (.int .i64 i) ∧ (w5.alloc (Obj.cells #[Value.int IntKind.i64 a', Value.int IntKind.i64 b', Value.int IntKind.i64 c'] 23)).cell? ⟨w2.heap.size, 0, none⟩ = some (.int .i64 a) ∧ (w5.alloc (Obj.cells #[Value.int IntKind.i64 a', Value.int IntKind.i64 b', Value.int IntKind.i64 c'] 23)).cell? ⟨w2.heap.size, 1, none⟩ = some (.int .i64 b) ∧ (w5.alloc (Obj.cells #[Value.int IntKind.i64 a', Value.int IntKind.i64 b', Value.int IntKind.i64 c'] 23)).cell? ⟨w2.heap.size, 2, none⟩ = some (.int .i64 c) ∧ (w5.alloc (Obj.cells #[Value.int IntKind.i64 a', Value.int IntKind.i64 b', Value.int IntKind.i64 c'] 23)).cell? ⟨w3.heap.size, 0, none⟩ = some (.int .i64 a) ∧ (w5.alloc (Obj.cells #[Value.int IntKind.i64 a', Value.int IntKind.i64 b', Value.int IntKind.i64 c'] 23)).cell? ⟨w3.heap.size, 1, none⟩ = some (.int .i64 b) ∧ (w5.alloc (Obj.cells #[Value.int IntKind.i64 a', Value.int IntKind.i64 b', Value.int IntKind.i64 c'] 23)).cell? ⟨w3.heap.size, 2, none⟩ = some (.int .i64 c) ∧ (w5.alloc (Obj.cells #[Value.int IntKind.i64 a', Value.int IntKind.i64 b', Value.int IntKind.i64 c'] 23)).cell? ⟨w4.heap.size, 0, none⟩ = some (.int .i64 a') ∧ (w5.alloc (Obj.cells #[Value.int IntKind.i64 a', Value.int IntKind.i64 b', Value.int IntKind.i64 c'] 23)).cell? ⟨w4.heap.size, 1, none⟩ = some (.int .i64 b') ∧ (w5.alloc (Obj.cells #[Value.int IntKind.i64 a', Value.int IntKind.i64 b', Value.int IntKind.i64 c'] 23)).cell? ⟨w4.heap.size, 2, none⟩ = some (.int .i64 c') ∧ (w5.alloc (Obj.cells #[Value.int IntKind.i64 a', Value.int IntKind.i64 b', Value.int IntKind.i64 c'] 23)).cell? ⟨w5.heap.size, 0, none⟩ = some (.int .i64 a') ∧ (w5.alloc (Obj.cells #[Value.int IntKind.i64 a', Value.int IntKind.i64 b', Value.int IntKind.i64 c'] 23)).cell? ⟨w5.heap.size, 1, none⟩ = some (.int .i64 b') ∧ (w5.alloc (Obj.cells #[Value.int IntKind.i64 a', Value.int IntKind.i64 b', Value.int IntKind.i64 c'] 23)).cell? ⟨w5.heap.size, 2, none⟩ = some (.int .i64 c') ∧ Below w.heap.size w (w5.alloc (Obj.cells #[Value.int IntKind.i64 a', Value.int IntKind.i64 b', Value.int IntKind.i64 c'] 23)) ∧ w.heap.size < (w5.alloc (Obj.cells #[Value.int IntKind.i64 a', Value.int IntKind.i64 b', Value.int IntKind.i64 c'] 23)).heap.size ∧ w2.heap.size < (w5.alloc (Obj.cells #[Value.int IntKind.i64 a', Value.int IntKind.i64 b', Value.int IntKind.i64 c'] 23)).heap.size ∧ w3.heap.size < (w5.alloc (Obj.cells #[Value.int IntKind.i64 a', Value.int IntKind.i64 b', Value.int IntKind.i64 c'] 23)).heap.size ∧ w4.heap.size < (w5.alloc (Obj.cells #[Value.int IntKind.i64 a', Value.int IntKind.i64 b', Value.int IntKind.i64 c'] 23)).heap.size ∧ w5.heap.size < (w5.alloc (Obj.cells #[Value.int IntKind.i64 a', Value.int IntKind.i64 b', Value.int IntKind.i64 c'] 23)).heap.size ∧ w.heap.size ≤ (w5.alloc (Obj.cells #[Value.int IntKind.i64 a', Value.int IntKind.i64 b', Value.int IntKind.i64 c'] 23)).heap.size := by
    obtain ⟨q0, q1, q2⟩ := box3 w.heap.size h6 (by omega) q0 q1 q2
    obtain ⟨r0, r1, r2⟩ := box3 w2.heap.size h6 (by omega) r0 r1 r2
    obtain ⟨s0, s1, s2⟩ := box3 w3.heap.size h6 (by omega) s0 s1 s2
    obtain ⟨t0, t1, t2⟩ := box3 w4.heap.size h6 (by omega) t0 t1 t2
    exact ⟨q0, q1, q2, r0, r1, r2, s0, s1, s2, t0, t1, t2, by simp [go_sem], by simp [go_sem], by simp [go_sem], after hw5 h6 (by omega), by simp; omega, by simp; omega, by simp; omega, by simp; omega, by simp, by simp; omega⟩
  clear h6 q0 q1 q2 r0 r1 r2 s0 s1 s2 t0 t1 t2 hw5
  have HF : Hid _ := hF
  clear hF
  go_region_held3 (fun w' => w'.cell? ⟨w.heap.size, 0, none⟩ = some (.int .i64 v) ∧ w'.cell? ⟨w.heap.size, 1, none⟩ = some (.int .i64 o) ∧ w'.cell? ⟨w.heap.size, 2, none⟩ = some (.int .i64 i) ∧ w'.cell? ⟨w2.heap.size, 0, none⟩ = some (.int .i64 a) ∧ w'.cell? ⟨w2.heap.size, 1, none⟩ = some (.int .i64 b) ∧ w'.cell? ⟨w2.heap.size, 2, none⟩ = some (.int .i64 c) ∧ w'.cell? ⟨w3.heap.size, 0, none⟩ = some (.int .i64 a) ∧ w'.cell? ⟨w3.heap.size, 1, none⟩ = some (.int .i64 b) ∧ w'.cell? ⟨w3.heap.size, 2, none⟩ = some (.int .i64 c) ∧ w'.cell? ⟨w4.heap.size, 0, none⟩ = some (.int .i64 a') ∧ w'.cell? ⟨w4.heap.size, 1, none⟩ = some (.int .i64 b') ∧ w'.cell? ⟨w4.heap.size, 2, none⟩ = some (.int .i64 c') ∧ w'.cell? ⟨w5.heap.size, 0, none⟩ = some (.int .i64 a') ∧ w'.cell? ⟨w5.heap.size, 1, none⟩ = some (.int .i64 b') ∧ w'.cell? ⟨w5.heap.size, 2, none⟩ = some (.int .i64 c') ∧ Below w.heap.size w w' ∧ w.heap.size < w'.heap.size ∧ w2.heap.size < w'.heap.size ∧ w3.heap.size < w'.heap.size ∧ w4.heap.size < w'.heap.size ∧ w5.heap.size < w'.heap.size ∧ w.heap.size ≤ w'.heap.size) (first | exact five_keep (by assumption) hb6 | exact five_keep HF.out (Below.refl _ _).drew)
    (first
      | (go_at_call 20; refine (check_any _ _ _ _).mono ?_; rintro e w6 ⟨rfl, hb6⟩)
      | (go_at_call 21; refine (countFault_any _ _ _ _).mono ?_; rintro e w6 ⟨rfl, hb6⟩)
      | (go_at_call 22; refine (delta_any _ _).mono ?_; rintro e w6 ⟨rfl, hw6⟩; have hb6 := Below.refl w6.heap.size w6; rw [hw6] at hb6)
      | (go_at_call 23; refine (deltaFault_any _ _).mono ?_; rintro e w6 ⟨rfl, hw6⟩; subst hw6; have hb6 := Below.refl w6.heap.size w6))
  go_wp2_with fail
  by_cases hx0 : chk v o i = 0
  · obtain ⟨m1, m2, m3, m4, m5, m6⟩ := chk_ok hx0
    have hx : (chk v o i != 0) = false := bne_self _ _ hx0
    clear hx0
    have u1 : IntKind.i64.wrap (v - o) = v - o := by go_unwrap
    have u2 : IntKind.i64.wrap (v + i) = v + i := by go_unwrap
    go_region_held3 (fun w' => w'.cell? ⟨w.heap.size, 0, none⟩ = some (.int .i64 v) ∧ w'.cell? ⟨w.heap.size, 1, none⟩ = some (.int .i64 o) ∧ w'.cell? ⟨w.heap.size, 2, none⟩ = some (.int .i64 i) ∧ w'.cell? ⟨w2.heap.size, 0, none⟩ = some (.int .i64 a) ∧ w'.cell? ⟨w2.heap.size, 1, none⟩ = some (.int .i64 b) ∧ w'.cell? ⟨w2.heap.size, 2, none⟩ = some (.int .i64 c) ∧ w'.cell? ⟨w3.heap.size, 0, none⟩ = some (.int .i64 a) ∧ w'.cell? ⟨w3.heap.size, 1, none⟩ = some (.int .i64 b) ∧ w'.cell? ⟨w3.heap.size, 2, none⟩ = some (.int .i64 c) ∧ w'.cell? ⟨w4.heap.size, 0, none⟩ = some (.int .i64 a') ∧ w'.cell? ⟨w4.heap.size, 1, none⟩ = some (.int .i64 b') ∧ w'.cell? ⟨w4.heap.size, 2, none⟩ = some (.int .i64 c') ∧ w'.cell? ⟨w5.heap.size, 0, none⟩ = some (.int .i64 a') ∧ w'.cell? ⟨w5.heap.size, 1, none⟩ = some (.int .i64 b') ∧ w'.cell? ⟨w5.heap.size, 2, none⟩ = some (.int .i64 c') ∧ Below w.heap.size w w' ∧ w.heap.size < w'.heap.size ∧ w2.heap.size < w'.heap.size ∧ w3.heap.size < w'.heap.size ∧ w4.heap.size < w'.heap.size ∧ w5.heap.size < w'.heap.size ∧ w.heap.size ≤ w'.heap.size) (first | exact five_keep (by assumption) hb7 | exact five_keep (by assumption) (Below.refl _ _).drew)
      (first
        | (go_at_call 21; refine (countFault_any _ _ _ _).mono ?_; rintro e w7 ⟨rfl, hb7⟩)
        | (go_at_call 24; refine (low_any _ _ _ _ m1 (by omega) m3 (by omega)).mono ?_; rintro e w7 ⟨rfl, hb7⟩)
        | (go_at_call 25; refine (high_any _ _ _ _ m1 (by omega) m5 (by omega)).mono ?_; rintro e w7 ⟨rfl, hb7⟩))
    go_wp2
    go_ret
    exact ⟨rfl, five_below (by assumption)⟩
  · have hx : (chk v o i != 0) = true := bne_of hx0
    clear hx0
    refine region_class (C := (fun w' => w'.cell? ⟨w.heap.size, 0, none⟩ = some (.int .i64 v) ∧ w'.cell? ⟨w.heap.size, 1, none⟩ = some (.int .i64 o) ∧ w'.cell? ⟨w.heap.size, 2, none⟩ = some (.int .i64 i) ∧ w'.cell? ⟨w2.heap.size, 0, none⟩ = some (.int .i64 a) ∧ w'.cell? ⟨w2.heap.size, 1, none⟩ = some (.int .i64 b) ∧ w'.cell? ⟨w2.heap.size, 2, none⟩ = some (.int .i64 c) ∧ w'.cell? ⟨w3.heap.size, 0, none⟩ = some (.int .i64 a) ∧ w'.cell? ⟨w3.heap.size, 1, none⟩ = some (.int .i64 b) ∧ w'.cell? ⟨w3.heap.size, 2, none⟩ = some (.int .i64 c) ∧ w'.cell? ⟨w4.heap.size, 0, none⟩ = some (.int .i64 a') ∧ w'.cell? ⟨w4.heap.size, 1, none⟩ = some (.int .i64 b') ∧ w'.cell? ⟨w4.heap.size, 2, none⟩ = some (.int .i64 c') ∧ w'.cell? ⟨w5.heap.size, 0, none⟩ = some (.int .i64 a') ∧ w'.cell? ⟨w5.heap.size, 1, none⟩ = some (.int .i64 b') ∧ w'.cell? ⟨w5.heap.size, 2, none⟩ = some (.int .i64 c') ∧ Below w.heap.size w w' ∧ w.heap.size < w'.heap.size ∧ w2.heap.size < w'.heap.size ∧ w3.heap.size < w'.heap.size ∧ w4.heap.size < w'.heap.size ∧ w5.heap.size < w'.heap.size ∧ w.heap.size ≤ w'.heap.size)) (by kernel_rfl) (by kernel_rfl) (five_keep (by assumption) (Below.refl _ _).drew) ?_
    repeat (first
      | go_big_quiet_skip
      | (go_big_quiet_want
         refine q_val (v := ?_) (fun w' hS => ?_) ?_
         rotate_left
         focus
           go_simp
           all_goals (with_reducible rfl)
         go_big_quiet_on
         (try simp only [Act.put, List.setIfInBounds_toArray, List.set_cons_zero, List.set_cons_succ]))
      | (go_big_quiet_want
         refine q_call (v := ?_) (f := ?_) (args := ?_) (fun w' hS => ?_) (fun w' hS => ?_) ?_
         rotate_left 3
         focus
           go_simp
           constructor <;> with_reducible rfl
         focus
           go_at_call 21
           refine (countFault_any _ _ _ _).mono ?_
           rintro e w7 ⟨rfl, hb7⟩
           refine ⟨?_, five_keep hS hb7⟩
           with_reducible rfl
         go_big_quiet_on
         (try simp only [Act.put, List.setIfInBounds_toArray, List.set_cons_zero, List.set_cons_succ])))
    refine wpQuiet_nil ?_
    intro w8 hS8
    go_wp2
    go_ret
    exact ⟨rfl, five_below hS8⟩

theorem does_any (v o i n : Int) (d : Bool) (w : World) :
    Calls Try.prog 3 #[.agg #[.int .i64 v, .int .i64 o, .int .i64 i], .int .i64 n, .bool d] w fun e w' => e = .returned (.bool true) ∧ Below w.heap.size w w' :=
  does_walk v o i n d _ _ _ _ _ _ _ _ w (holdIs v o i n) (fun w => held_any v o i n w) (endIs v o i n d) (fun w => ended_any v o i n d w)

end Go.Proofs.Ytbgnajcmhmpjlaa
