/- The contract of plan.Check. -/
import Derived.Test.YtbgnajcmhmpjlabPW1
import Derived.Deep.LoopGhost
import Derived.Deep.DeepCutAuto
namespace Go.Proofs.Ytbgnajcmhmpjlab
open Go.RowKit

/-- Check's memory at a loop's head: its answer's two cells, and which counters were wanted. -/
structure CSt (B : Nat) (w : World) (s : Int → Bool) (wr : World) : Prop where
  c0 : wr.cell? ⟨B, 0, none⟩ = some (.int .i64 0)
  c1 : wr.cell? ⟨B, 1, none⟩ = some (.int .i64 0)
  f0 : ∀ k, wr.frozen? ⟨B, k, none⟩ = false
  row : ∀ j : Nat, j < 6 → wr.cell? ⟨B + 1, j, none⟩ = some (.bool (s j))
  f1 : ∀ k, wr.frozen? ⟨B + 1, k, none⟩ = false
  below : Below B w wr
  lt : B + 1 < wr.heap.size

theorem CSt.next {B : Nat} {w wr wx : World} {s : Int → Bool} (h : CSt B w s wr) (hb : Below wr.heap.size wr wx) : CSt B w s wx := by
  have hlt := h.lt
  refine ⟨((bcell hb).1 _ _ (by omega)).trans h.c0, ((bcell hb).1 _ _ (by omega)).trans h.c1, loose B hb (by omega) h.f0, fun j hj => ((bcell hb).1 _ _ h.lt).trans (h.row j hj), loose (B + 1) hb h.lt h.f1, after h.below hb (by omega), ?_⟩
  have := hb.size
  omega

theorem CSt.set {B : Nat} {w wr : World} {s : Int → Bool} (h : CSt B w s wr) (n : Nat) (hn : n < 6) : CSt B w (fun j => s j || (n : Int) == j) (wr.setCell ⟨B + 1, n, none⟩ (.bool true)) := by
  have ho : ∀ o, (wr.setCell ⟨B + 1, n, none⟩ (.bool true)).cell? ⟨B, o, none⟩ = wr.cell? ⟨B, o, none⟩ := fun o => World.cell?_setCell_other _ _ _ _ (by intro e; simp only [Addr.mk.injEq] at e; omega)
  refine ⟨(ho 0).trans h.c0, (ho 1).trans h.c1, by simpa [go_sem] using h.f0, ?_, by simpa [go_sem] using h.f1, h.below.setCell (by simp) _, by simpa using h.lt⟩
  intro j hj
  by_cases e : j = n
  · subst e
    rw [World.cell?_setCell_same _ _ _ (h.row j hj)]
    simp
  · rw [World.cell?_setCell_other _ _ _ _ (by intro e'; simp only [Addr.mk.injEq] at e'; omega), h.row j hj]
    have : ((n : Int) == (j : Int)) = false := by simp; omega
    rw [this, Bool.or_false]

theorem CSt.answer {B : Nat} {w wr : World} {s : Int → Bool} (h : CSt B w s wr) (x y : Value) : Below B w ((wr.setCell ⟨B, 0, none⟩ x).setCell ⟨B, 1, none⟩ y) := (h.below.setCell (Nat.le_refl _) _).setCell (Nat.le_refl _) _

set_option maxHeartbeats 2000000 in
theorem pcheck_any (la : Option Addr) (ll lc : Nat) (l : List (Int × Int)) (w : World) (hl : WantsAt w la l) (hll : l.length = ll) :
    Calls Try.prog 94 #[.slice la ll lc] w fun e w' => e = .returned (.agg #[.int .i64 (chkW l).1, .int .i64 (chkW l).2]) ∧ Below w.heap.size w w' := by
  by_cases h0 : ll = 0
  · have e1 : chkW l = (2, -1) := by unfold chkW; rw [if_pos (by omega)]
    rw [e1]
    have k0 : ((ll : Int) == 0) = true := by simp [h0]
    clear hl e1 hll h0
    go_enter Try.func94, Try.ntmps94
    go_wp2_with fail
    exact bodyPost_ret (v := .agg #[.int .i64 _, .int .i64 _]) (by simp [results, Try.results94, go_sem]) rfl ⟨rfl, by go_grown⟩
  have k0 : ((ll : Int) == 0) = false := by simpa using h0
  by_cases h1 : 4 < ll
  · have e1 : chkW l = (3, -1) := by unfold chkW; rw [if_neg (by omega), if_pos (by omega)]
    rw [e1]
    have k1 : (4 : Int) < (ll : Int) := by omega
    clear hl e1 hll h0
    go_enter Try.func94, Try.ntmps94
    go_wp2_with fail
    exact bodyPost_ret (v := .agg #[.int .i64 _, .int .i64 _]) (by simp [results, Try.results94, go_sem]) rfl ⟨rfl, by go_grown⟩
  have e1 : chkW l = scanW (l.take 0) (l.drop 0) := by unfold chkW; rw [if_neg (by omega), if_neg (by omega)]; simp
  rw [e1]
  have k1 : (ll : Int) ≤ 4 := by omega
  clear e1 h0
  go_enter Try.func94, Try.ntmps94
  go_wp2_with fail
  go_loopg [19] ll (fun g i wr => ∃ k : Nat, k ≤ ll ∧ g = ll - k ∧ i = .int .i64 k ∧ Hid (scanW (l.take 0) (l.drop 0) = scanW (l.take k) (l.drop k)) ∧ CSt w.heap.size w (fun j => (l.take k).any (fun y => y.1 == j)) wr)
  case atStart =>
    refine ⟨0, Nat.zero_le _, rfl, rfl, rfl, ?_⟩
    refine ⟨by simp [go_sem], by simp [go_sem], by simp [go_sem], ?_, by simp [go_sem], by go_grown, by simp⟩
    intro j hj
    have : j = 0 ∨ j = 1 ∨ j = 2 ∨ j = 3 ∨ j = 4 ∨ j = 5 := by omega
    rcases this with rfl | rfl | rfl | rfl | rfl | rfl <;> simp [go_sem]
  case round =>
    obtain ⟨k, hk, rfl, rfl, HE, hS⟩ := hrel
    by_cases hlt : k < ll
    · obtain ⟨⟨c, d⟩, hkl⟩ : ∃ x, l[k]? = some x := ⟨_, List.getElem?_eq_getElem (by omega)⟩
      obtain ⟨bl, ol, rfl, hbl, hcl, hdl⟩ := hl k c d hkl
      have j0 : (0 : Int) ≤ (k : Int) := by omega
      have j1 : (k : Int) < (ll : Int) := by omega
      have hcl' : wr.cell? ⟨bl, ol + k * 2, none⟩ = some (.int .i64 c) := (hS.below.cell (p := ⟨bl, ol + k * 2, none⟩) hbl).trans hcl
      have hdl' : wr.cell? ⟨bl, ol + k * 2 + 1, none⟩ = some (.int .i64 d) := (hS.below.cell (p := ⟨bl, ol + k * 2 + 1, none⟩) hbl).trans hdl
      clear hcl hdl hl
      go_wp2_with fail
      refine (want_any _ _ _).mono ?_
      rintro e w1 ⟨rfl, hb1⟩
      have hS1 : CSt w.heap.size w (fun j => (l.take k).any (fun y => y.1 == j)) w1 := (hS.next ((Below.refl _ _).alloc (Nat.le_refl _) _)).next hb1
      have p0 : w1.cell? ⟨wr.heap.size, 0, none⟩ = some (.int .i64 c) := ((bcell hb1).1 _ _ (by simp)).trans (by simp [go_sem])
      have p1 : w1.cell? ⟨wr.heap.size, 1, none⟩ = some (.int .i64 d) := ((bcell hb1).1 _ _ (by simp)).trans (by simp [go_sem])
      have hz1 : wr.heap.size < w1.heap.size := by have := hb1.size; simp at this; omega
      clear hb1 hS hcl' hdl'
      have r0 := hS1.c0
      have r1 := hS1.c1
      have rf := hS1.f0
      have hlt1 := hS1.lt
      by_cases hw : wnt c d = 0
      · have hw' : (wnt c d != 0) = false := by simp [hw]
        obtain ⟨q0, q1, q2⟩ := wnt_ok hw
        obtain ⟨n, rfl⟩ := Int.eq_ofNat_of_zero_le q0
        have hn : n < 6 := by omega
        have rn := hS1.row n hn
        have fn := hS1.f1
        have HW : Hid _ := hw
        clear hw q2
        by_cases ht : (l.take k).any (fun y => y.1 == (n : Int)) = true
        · have HE2 : Hid _ := HE.out.trans (scan_twice hkl HW.out ht)
          simp only [ht] at rn
          clear ht HE
          go_wp2_with fail
          exact bodyPost_ret (v := .agg #[.int .i64 4, .int .i64 k]) (by simp [results, Try.results94, go_sem, r0, r1]) rfl ⟨by rw [HE2.out], hS1.answer _ _⟩
        · have ht' : (l.take k).any (fun y => y.1 == (n : Int)) = false := Bool.eq_false_iff.2 ht
          have HE2 : Hid _ := HE.out.trans (scan_next hkl HW.out ht')
          simp only [ht'] at rn
          clear ht ht'
          go_wp2_with fail
          go_roundg (ll - (k + 1))
          case measure => omega
          case rel =>
            refine ⟨k + 1, by omega, rfl, by simp, HE2, ?_⟩
            have q := hS1.set n hn
            refine ⟨q.c0, q.c1, q.f0, fun j hj => ?_, q.f1, q.below, q.lt⟩
            rw [any_next hkl]
            exact q.row j hj
      · have HE2 : Hid _ := HE.out.trans (scan_bad hkl hw)
        have hw' : (wnt c d != 0) = true := by simpa using hw
        clear hw HE
        go_wp2_with fail
        exact bodyPost_ret (v := .agg #[.int .i64 (wnt c d), .int .i64 k]) (by simp [results, Try.results94, go_sem, r0, r1]) rfl ⟨by rw [HE2.out], hS1.answer _ _⟩
    · have hkk : k = ll := by omega
      subst hkk
      have r0 := hS.c0
      have r1 := hS.c1
      have rf := hS.f0
      have hlt1 := hS.lt
      have hb := hS.below
      go_wp2_with fail
      exact bodyPost_ret (v := .agg #[.int .i64 0, .int .i64 0]) (by simp [results, Try.results94, go_sem, r0, r1]) rfl ⟨by rw [HE.out, List.drop_of_length_le (l := l) (by omega), scanW], hS.answer _ _⟩

end Go.Proofs.Ytbgnajcmhmpjlab
