/- The contract of the booth's Counts. -/
import Derived.Test.YtbgnajcmhmpjlabBBox
import Derived.Test.YtbgnajcmhmpjlabSGood
namespace Go.Proofs.Ytbgnajcmhmpjlab
open Go.RowKit

/-- The memory of Counts at a loop's head. -/
structure KSt (B : Nat) (w : World) (c : Nat → Int) (wr : World) : Prop where
  zer : ∀ j : Nat, j < 6 → wr.cell? ⟨B, j, none⟩ = some (.int .i64 0)
  f0 : ∀ k, wr.frozen? ⟨B, k, none⟩ = false
  row : ∀ j : Nat, j < 6 → wr.cell? ⟨B + 1, j, none⟩ = some (.int .i64 (c j))
  f1 : ∀ k, wr.frozen? ⟨B + 1, k, none⟩ = false
  below : Below B w wr
  lt : B + 1 < wr.heap.size
theorem KSt.next {B : Nat} {w wr wx : World} {c : Nat → Int} (h : KSt B w c wr) (hb : Below wr.heap.size wr wx) : KSt B w c wx := by
  have hlt := h.lt
  have hsz := hb.size
  exact ⟨fun j hj => ((bcell hb).1 _ _ (by omega)).trans (h.zer j hj), loose B hb (by omega) h.f0, fun j hj => ((bcell hb).1 _ _ (by omega)).trans (h.row j hj), loose (B + 1) hb (by omega) h.f1, after h.below hb (by omega), by omega⟩
theorem KSt.set {B : Nat} {w wr : World} {c : Nat → Int} (h : KSt B w c wr) (n : Nat) (v : Int) : KSt B w (upd c n v) (wr.setCell ⟨B + 1, n, none⟩ (.int .i64 v)) := by
  refine ⟨fun j hj => (cell_set_block (by omega)).trans (h.zer j hj), by simpa [go_sem] using h.f0, ?_, by simpa [go_sem] using h.f1, h.below.setCell (p := ⟨B + 1, n, none⟩) (Nat.le_succ _) _, by simpa using h.lt⟩
  intro j hj
  unfold upd
  by_cases e : j = n
  · subst e
    rw [cell_set_same (h.row j hj), if_pos rfl]
  · rw [cell_set_off e, h.row j hj, if_neg e]
theorem KSt.congr {B : Nat} {w wr : World} {c c' : Nat → Int} (h : KSt B w c wr) (he : ∀ j, j < 6 → c j = c' j) : KSt B w c' wr := ⟨h.zer, h.f0, fun j hj => by rw [← he j hj]; exact h.row j hj, h.f1, h.below, h.lt⟩
theorem KSt.begin (w : World) (t : Nat) : KSt w.heap.size w noW ((w.alloc (.cells #[.int .i64 0, .int .i64 0, .int .i64 0, .int .i64 0, .int .i64 0, .int .i64 0] t)).alloc (.cells #[.int .i64 0, .int .i64 0, .int .i64 0, .int .i64 0, .int .i64 0, .int .i64 0] t)) := by
  refine ⟨?_, by simp [go_sem], ?_, by simp [go_sem], by go_grown, by simp⟩
  · intro j hj
    rcases six_cases hj with rfl | rfl | rfl | rfl | rfl | rfl <;> simp [go_sem]
  · intro j hj
    rcases six_cases hj with rfl | rfl | rfl | rfl | rfl | rfl <;> simp [go_sem, noW]

/-- The numbers when k counters are whole. -/
def bas (A : Bk) (k : Nat) : Nat → Int := fun j => if j < k * 3 then cnt6 A j else 0
/-- The numbers in the counter k, when i holds were looked at. -/
def cK (A : Bk) (k i : Nat) : Nat → Int := upd3 (bas A k) k (A.val k) (outs (A.hs.take i) (A.no * 2 + k)) (inns (A.hs.take i) (A.no * 2 + k))
theorem cK_whole (A : Bk) (k : Nat) (hk : k < 2) : ∀ j, j < 6 → cK A k A.hs.length j = bas A (k + 1) j := by
  intro j hj
  obtain ⟨e0, e1, e2⟩ := cnt6_at A k hk
  unfold cK upd3 upd bas
  rw [List.take_of_length_le (Nat.le_refl _)]
  by_cases h2 : j = k * 3 + 2
  · subst h2; rw [if_pos rfl, if_pos (by omega), e2]; rfl
  · rw [if_neg h2]
    by_cases h1 : j = k * 3 + 1
    · subst h1; rw [if_pos rfl, if_pos (by omega), e1]; rfl
    · rw [if_neg h1]
      by_cases h0 : j = k * 3
      · subst h0; rw [if_pos rfl, if_pos (by omega), e0]
      · rw [if_neg h0]
        by_cases hh : j < k * 3
        · rw [if_pos hh, if_pos (by omega)]
        · rw [if_neg hh, if_neg (by omega)]
theorem cK_first (A : Bk) (k : Nat) : ∀ j, j < 6 → upd (bas A k) (k * 3) (A.val k) j = cK A k 0 j := by
  intro j _
  unfold cK upd3 upd bas
  simp only [List.take_zero, outs, inns]
  by_cases h2 : j = k * 3 + 2
  · subst h2; rw [if_neg (by omega), if_neg (by omega), if_pos rfl]
  · rw [if_neg h2]
    by_cases h1 : j = k * 3 + 1
    · subst h1; rw [if_neg (by omega), if_neg (by omega), if_pos rfl]
    · rw [if_neg h1]
theorem cK_at (A : Bk) (k i : Nat) : cK A k i (k * 3 + 1) = outs (A.hs.take i) (A.no * 2 + k) ∧ cK A k i (k * 3 + 2) = inns (A.hs.take i) (A.no * 2 + k) := by
  unfold cK upd3 upd
  exact ⟨by rw [if_neg (by omega), if_pos rfl], by rw [if_pos rfl]⟩
theorem cK_same {A : Bk} {k i : Nat} (h1 : outs (A.hs.take (i + 1)) (A.no * 2 + k) = outs (A.hs.take i) (A.no * 2 + k)) (h2 : inns (A.hs.take (i + 1)) (A.no * 2 + k) = inns (A.hs.take i) (A.no * 2 + k)) : cK A k (i + 1) = cK A k i := by
  unfold cK; rw [h1, h2]
theorem cK_out {A : Bk} {k i : Nat} (h2 : inns (A.hs.take (i + 1)) (A.no * 2 + k) = inns (A.hs.take i) (A.no * 2 + k)) : ∀ j, j < 6 → upd (cK A k i) (k * 3 + 1) (outs (A.hs.take (i + 1)) (A.no * 2 + k)) j = cK A k (i + 1) j := by
  intro j _
  unfold cK upd3 upd
  rw [h2]
  by_cases e1 : j = k * 3 + 1
  · subst e1; rw [if_pos rfl, if_neg (by omega), if_pos rfl]
  · rw [if_neg e1, if_neg e1, if_neg e1]
theorem cK_inn {A : Bk} {k i : Nat} (h1 : outs (A.hs.take (i + 1)) (A.no * 2 + k) = outs (A.hs.take i) (A.no * 2 + k)) : ∀ j, j < 6 → upd (cK A k i) (k * 3 + 2) (inns (A.hs.take (i + 1)) (A.no * 2 + k)) j = cK A k (i + 1) j := by
  intro j _
  unfold cK upd3 upd
  rw [h1]
  by_cases e1 : j = k * 3 + 2
  · subst e1; rw [if_pos rfl, if_pos rfl]
  · rw [if_neg e1, if_neg e1, if_neg e1]

set_option maxHeartbeats 4000000 in
set_option maxRecDepth 100000 in
theorem bcounts_any (O : Nat → Prop) (A : Bk) (q : Nat) (w : World) (h : BoothIn O w q A) (hG : Good A) (hlen : A.hs.length < 2 ^ 40) :
    Calls Try.prog 19 #[.pointer (some ⟨q, 0, none⟩)] w fun e w' => e = .returned (cntV (cnt6 A)) ∧ Below w.heap.size w w' := by
  obtain ⟨hv, ov, dv, hR, ho, _⟩ := h.raw
  obtain ⟨ga, cap, rfl, hH, _⟩ := holds_of_own ho
  have HR : Hid (∀ W : World, Below w.heap.size w W → W.cell? ⟨q, 0, none⟩ = some (.int .i64 A.no) ∧ W.cell? ⟨q, 3, none⟩ = some (.slice ga A.hs.length cap) ∧ ∀ k, k < 2 → W.cell? ⟨q, 1 + k, none⟩ = some (.int .i64 (A.val k))) := fun W hW => by
    have hl := hR.lt
    have e : ∀ o, W.cell? ⟨q, o, none⟩ = w.cell? ⟨q, o, none⟩ := fun o => hW.cell (p := ⟨q, o, none⟩) hl
    refine ⟨(e _).trans hR.c0, (e _).trans hR.c3, fun k hk => ?_⟩
    have : k = 0 ∨ k = 1 := by omega
    rcases this with rfl | rfl
    · exact (e _).trans hR.c1
    · exact (e _).trans hR.c2
  have hql := hR.lt
  have HG : Hid (Good A) := hG
  have hno : 0 ≤ A.no ∧ A.no < 3 := ⟨hG.no0, hG.no3⟩
  obtain ⟨n0, n3⟩ := hno
  clear h hR ho hG
  go_enter Try.func19, Try.ntmps19
  go_wp2_with fail
  have hS0 := KSt.begin w 36
  generalize ((w.alloc (.cells #[.int .i64 0, .int .i64 0, .int .i64 0, .int .i64 0, .int .i64 0, .int .i64 0] 36)).alloc (.cells #[.int .i64 0, .int .i64 0, .int .i64 0, .int .i64 0, .int .i64 0, .int .i64 0] 36)) = W0 at hS0 ⊢
  go_loopg [4] 2 (fun g s4 wr => ∃ k : Nat, k ≤ 2 ∧ g = 2 - k ∧ s4 = .int .i64 k ∧ KSt w.heap.size w (bas A k) wr)
  case atStart => exact ⟨0, by omega, rfl, rfl, hS0.congr (fun j _ => by simp [bas, noW])⟩
  case round =>
    obtain ⟨k, hk, rfl, rfl, hS⟩ := hrel
    clear hS0
    have hlt1 := hS.lt
    by_cases hk2 : k < 2
    · have i0 : (0 : Int) ≤ (k : Int) := by omega
      have i1 : (k : Int) < 2 := by omega
      obtain ⟨q0, q3, qk⟩ := HR.out wr hS.below
      have q1 := qk k hk2
      have r0 := hS.row (k * 3) (by omega)
      have g1 := hS.f1
      have hqn : q ≠ w.heap.size + 1 := by omega
      clear qk
      go_upto_region 6 with fail
      have hS1 := (hS.set (k * 3) (A.val k)).congr (cK_first A k)
      generalize (wr.setCell ⟨w.heap.size + 1, k * 3, none⟩ (.int .i64 (A.val k))) = W1 at hS1 ⊢
      clear hS q0 q3 q1 r0 g1 hlt1
      go_wp2_with fail
      go_loopg [5, 6] A.hs.length (fun g s5 _ wy => ∃ i : Nat, i ≤ A.hs.length ∧ g = A.hs.length - i ∧ s5 = .int .i64 i ∧ KSt w.heap.size w (cK A k i) wy)
      case atStart => exact ⟨0, Nat.zero_le _, rfl, rfl, hS1⟩
      case round =>
        obtain ⟨i, hi, rfl, rfl, hS2⟩ := hrel
        clear hS1
        obtain ⟨q0, q3, _⟩ := HR.out wr hS2.below
        have hlt2 := hS2.lt
        have hz2 := hS2.below.size
        by_cases hil : i < A.hs.length
        · obtain ⟨⟨a, c, d⟩, hix⟩ : ∃ x, A.hs[i]? = some x := ⟨_, List.getElem?_eq_getElem hil⟩
          obtain ⟨bl, ol, rfl, hbl, h0, h1, h2⟩ := hH i a c d hix
          have p0 : wr.cell? ⟨bl, ol + i * 3, none⟩ = some (.int .i64 a) := (hS2.below.cell (p := ⟨bl, _, none⟩) hbl).trans h0
          have p1 : wr.cell? ⟨bl, ol + i * 3 + 1, none⟩ = some (.int .i64 c) := (hS2.below.cell (p := ⟨bl, _, none⟩) hbl).trans h1
          have p2 : wr.cell? ⟨bl, ol + i * 3 + 2, none⟩ = some (.int .i64 d) := (hS2.below.cell (p := ⟨bl, _, none⟩) hbl).trans h2
          have j0 : (0 : Int) ≤ (i : Int) := by omega
          have j1 : (i : Int) < (A.hs.length : Int) := by omega
          have j2 : (A.hs.length : Int) < 2 ^ 40 := by omega
          have e1 := outs_snoc hix (A.no * 2 + k)
          have e2 := inns_snoc hix (A.no * 2 + k)
          obtain ⟨_, _, _, hw0, _⟩ := HG.out.each _ (List.mem_of_getElem? hix)
          obtain ⟨_, _, hd0⟩ := wnt_ok hw0
          obtain ⟨_, d1, d2⟩ := dlt_ok hd0
          obtain ⟨_, _, t1, t2, t3, t4⟩ := chk_ok (HG.out.cnt k hk2)
          have t5 := outs_take_le A.hs i (A.no * 2 + k)
          have t6 := inns_take_le A.hs i (A.no * 2 + k)
          have t7 := outs_nonneg (A.hs.take i) (A.no * 2 + k)
          have t8 := inns_nonneg (A.hs.take i) (A.no * 2 + k)
          have t9 : outs (A.hs.take i) (A.no * 2 + k) ≤ 100 := by unfold Bk.out at t2; have := (chk_ok (HG.out.cnt k hk2)).2.1; omega
          have t10 : inns (A.hs.take i) (A.no * 2 + k) ≤ 100 := by unfold Bk.inn at t4; have := (chk_ok (HG.out.cnt k hk2)).1; omega
          have hS3 := hS2.next ((Below.refl _ _).alloc (Nat.le_refl _) (.cells #[.int .i64 a, .int .i64 c, .int .i64 d] 92))
          have hX3 := BoxAt.new wr [.int .i64 a, .int .i64 c, .int .i64 d] 92
          clear h0 h1 h2 hw0 hd0 t1 t2 t3 t4 t5 t6 hH
          go_upto_region 10 with fail
          change BoxAt (wr.alloc (.cells #[.int .i64 a, .int .i64 c, .int .i64 d] 92)) _ _ at hX3
          generalize (wr.alloc (.cells #[.int .i64 a, .int .i64 c, .int .i64 d] 92)) = W3 at hS3 hX3 ⊢
          have hlx : w.heap.size + 1 < wr.heap.size := hlt2
          have hbx : wr.heap.size ≠ w.heap.size + 1 := by omega
          generalize wr.heap.size = bx at hX3 hbx hlx ⊢
          clear hS2 p0 p1 p2 q0 q3 hlt2 hz2
          obtain ⟨q0, q3, _⟩ := HR.out W3 hS3.below
          have x1 := hX3.2 1 _ rfl
          have x2 := hX3.2 2 _ rfl
          have hx3 := hX3.1
          by_cases he : c = A.no * 2 + (k : Int)
          · have he' : (c == A.no * 2 + (k : Int)) = true := by simpa using he
            by_cases hd : d < 0
            · have r1 := hS3.row (k * 3 + 1) (by omega)
              rw [(cK_at A k i).1] at r1
              have E1 : Hid (outs (A.hs.take (i + 1)) (A.no * 2 + k) = outs (A.hs.take i) (A.no * 2 + k) - d) := by show _ = _; rw [e1]; simp only [outOf, if_pos he, if_pos hd]; omega
              have E2 : Hid (inns (A.hs.take (i + 1)) (A.no * 2 + k) = inns (A.hs.take i) (A.no * 2 + k)) := by show _ = _; rw [e2]; simp only [innOf, if_pos he, if_pos hd]; omega
              have g1 := hS3.f1
              have hlt3 := hS3.lt
              generalize outs (A.hs.take i) (A.no * 2 + k) = oo at r1 t7 t9 E1
              clear he e1 e2 t8 t10
              go_quiet (fail)
              go_wp2_with fail
              go_region
              all_goals
                go_wp2_with fail
                go_roundg (A.hs.length - (i + 1))
                case measure => omega
                case rel =>
                  refine ⟨i + 1, by omega, rfl, by simp, ?_⟩
                  have hS4 := (((hS3.next (bdrewN (Below.refl _ _) nq)).set (k * 3 + 1) (oo - d)).next ((Below.refl _ _).drew))
                  rw [← E1.out] at hS4
                  have := hS4.congr (cK_out E2.out)
                  rw [E1.out] at *
                  exact this
            · have hd' : 0 ≤ d := by omega
              have r1 := hS3.row (k * 3 + 2) (by omega)
              rw [(cK_at A k i).2] at r1
              have E1 : Hid (inns (A.hs.take (i + 1)) (A.no * 2 + k) = inns (A.hs.take i) (A.no * 2 + k) + d) := by show _ = _; rw [e2]; simp only [innOf, if_pos he, if_neg hd]
              have E2 : Hid (outs (A.hs.take (i + 1)) (A.no * 2 + k) = outs (A.hs.take i) (A.no * 2 + k)) := by show _ = _; rw [e1]; simp only [outOf, if_pos he, if_neg hd]; omega
              have g1 := hS3.f1
              have hlt3 := hS3.lt
              have hdd : decide (d < 0) = false := decide_eq_false hd
              generalize inns (A.hs.take i) (A.no * 2 + k) = oo at r1 t8 t10 E1
              clear he e1 e2 t7 t9 hd hd'
              go_quiet (fail)
              go_wp2_with fail
              go_region
              all_goals
                go_wp2_with fail
                go_roundg (A.hs.length - (i + 1))
                case measure => omega
                case rel =>
                  refine ⟨i + 1, by omega, rfl, by simp, ?_⟩
                  have hS4 := (((hS3.next (bdrewN (Below.refl _ _) nq)).set (k * 3 + 2) (oo + d)).next ((Below.refl _ _).drew))
                  rw [← E1.out] at hS4
                  have := hS4.congr (cK_inn E2.out)
                  rw [E1.out] at *
                  exact this
          · have he' : (c == A.no * 2 + (k : Int)) = false := by simpa using he
            have E1 : Hid (cK A k (i + 1) = cK A k i) := cK_same (by rw [e1]; simp only [outOf, if_neg he]; omega) (by rw [e2]; simp only [innOf, if_neg he]; omega)
            clear he e1 e2 t7 t8 t9 t10
            go_quiet (fail)
            go_wp2_with fail
            go_roundg (A.hs.length - (i + 1))
            case measure => omega
            case rel => exact ⟨i + 1, by omega, rfl, by simp, by rw [E1.out]; exact hS3.next (bdrewN (Below.refl _ _) _)⟩
        · have hii : i = A.hs.length := by omega
          subst hii
          go_wp2_with fail
          go_roundg (2 - (k + 1))
          case measure => omega
          case rel => exact ⟨k + 1, by omega, rfl, by simp, hS2.congr (cK_whole A k hk2)⟩
    · have hkk : k = 2 := by omega
      subst hkk
      have a0 := hS.row 0 (by omega)
      have a1 := hS.row 1 (by omega)
      have a2 := hS.row 2 (by omega)
      have a3 := hS.row 3 (by omega)
      have a4 := hS.row 4 (by omega)
      have a5 := hS.row 5 (by omega)
      have z0 := hS.zer 0 (by omega)
      have z1 := hS.zer 1 (by omega)
      have z2 := hS.zer 2 (by omega)
      have z3 := hS.zer 3 (by omega)
      have z4 := hS.zer 4 (by omega)
      have z5 := hS.zer 5 (by omega)
      have f0 := hS.f0
      have hb := hS.below
      simp only [bas, Nat.reduceMul, Nat.reduceLT, if_true] at a0 a1 a2 a3 a4 a5
      clear hS
      go_wp2_with fail
      exact bodyPost_ret (v := cntV (cnt6 A)) (by simp [results, Try.results19, go_sem, z0, z1, z2, z3, z4, z5, cntV]) rfl ⟨rfl, by go_grown⟩

end Go.Proofs.Ytbgnajcmhmpjlab
