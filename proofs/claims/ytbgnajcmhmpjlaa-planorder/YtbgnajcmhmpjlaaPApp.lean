/- The contract of plan.Apply. -/
import Derived.Test.YtbgnajcmhmpjlaaPChk
import Derived.Test.YtbgnajcmhmpjlaaPSt
namespace Go.Proofs.Ytbgnajcmhmpjlaa
open Go.RowKit

set_option maxHeartbeats 4000000 in
theorem apply_any (ws : Nat → Int) (la : Option Addr) (ll lc : Nat) (l : List (Int × Int)) (w : World) (hl : WantsAt w la l) (hll : l.length = ll) :
    Calls Try.prog 29 #[.agg #[.int .i64 (ws 0), .int .i64 (ws 1), .int .i64 (ws 2), .int .i64 (ws 3), .int .i64 (ws 4), .int .i64 (ws 5)], .slice la ll lc] w fun e w' => e = .returned (.tuple #[.agg #[.int .i64 ((appW ws l).1 0), .int .i64 ((appW ws l).1 1), .int .i64 ((appW ws l).1 2), .int .i64 ((appW ws l).1 3), .int .i64 ((appW ws l).1 4), .int .i64 ((appW ws l).1 5)], .agg #[.int .i64 (appW ws l).2.1, .int .i64 (appW ws l).2.2]]) ∧ Below w.heap.size w w' := by
  by_cases hf : (chkW l).1 = 0
  · have e1 : appW ws l = runW ws 0 (l.drop 0) := by unfold appW; rw [if_pos hf]; rfl
    rw [e1]
    have hx : ((chkW l).1 != 0) = false := by simp [hf]
    have hF : Fit l := fit_iff.1 hf
    have k1 : (ll : Int) ≤ 4 := by have := hF.few; omega
    clear hf e1
    go_enter Try.func29, Try.ntmps29
    go_wp2_with fail
    have hS0 := PSt.begin ws w 39 44
    refine (pcheck_any _ _ _ _ _ (hl.below hS0.below (Nat.le_refl _)) hll).mono ?_
    rintro e w1 ⟨rfl, hb1⟩
    have hS1 := hS0.next hb1
    clear hb1 hS0
    go_wp2_with fail
    go_loopg [20] ll (fun g i wr => ∃ (k : Nat) (vs : Nat → Int), k ≤ ll ∧ g = ll - k ∧ i = .int .i64 k ∧ Hid (runW ws 0 (l.drop 0) = runW vs k (l.drop k)) ∧ PSt w.heap.size w vs wr)
    case atStart => exact ⟨0, ws, Nat.zero_le _, rfl, rfl, rfl, hS1.next (by go_grown)⟩
    case round =>
      obtain ⟨k, vs, hk, rfl, rfl, HE, hS⟩ := hrel
      have hlt2 := hS.lt
      have hlt1 : w.heap.size + 1 < wr.heap.size := by omega
      have hlt0 : w.heap.size < wr.heap.size := by omega
      by_cases hlt : k < ll
      · obtain ⟨⟨c, d⟩, hkl⟩ : ∃ x, l[k]? = some x := ⟨_, List.getElem?_eq_getElem (by omega)⟩
        obtain ⟨bl, ol, rfl, hbl, hcl, hdl⟩ := hl k c d hkl
        obtain ⟨t0, t1, t2, t3, t4⟩ := hF.at hkl
        obtain ⟨n, rfl⟩ := Int.eq_ofNat_of_zero_le t0
        have hn : n < 6 := by omega
        have j0 : (0 : Int) ≤ (k : Int) := by omega
        have j1 : (k : Int) < (ll : Int) := by omega
        have hcl' : wr.cell? ⟨bl, ol + k * 2, none⟩ = some (.int .i64 n) := (hS.below.cell (p := ⟨bl, ol + k * 2, none⟩) hbl).trans hcl
        have hdl' : wr.cell? ⟨bl, ol + k * 2 + 1, none⟩ = some (.int .i64 d) := (hS.below.cell (p := ⟨bl, ol + k * 2 + 1, none⟩) hbl).trans hdl
        have rn := hS.row n hn
        have g0 := hS.f0
        clear hcl hdl hl t2
        go_wp2_with fail
        go_quiet ((go_at_call 52; exact Calls.quiet_of_same (more_any _ _ _ t3 t4)))
        by_cases hw : morC (vs n) d = 0
        · have hw' : (morC (vs n) d != 0) = false := by simp [hw]
          have HE2 : Hid _ := HE.out.trans (run_next hkl hw)
          clear hw
          go_wp2_with fail
          go_roundg (ll - (k + 1))
          case measure => omega
          case rel => exact ⟨k + 1, _, by omega, rfl, by simp, HE2, ((hS.next ((Below.refl _ _).alloc (Nat.le_refl _) _)).next (bdrewN (Below.refl _ _) _)).set n hn _⟩
        · have hw' : (morC (vs n) d != 0) = true := by simpa using hw
          have HE2 : Hid _ := HE.out.trans (run_bad hkl hw)
          have hS2 := (hS.next ((Below.refl _ _).alloc (Nat.le_refl _) (.cells #[.int .i64 n, .int .i64 d] 42))).next (bdrewN (Below.refl _ _) nq)
          clear hw hS hlt0 hlt1 hlt2 hcl' hdl' rn g0
          generalize (wr.alloc (.cells #[.int .i64 n, .int .i64 d] 42)).drewN nq = W0 at hS2 ⊢
          have z0 := hS2.zer 0 (by omega)
          have z1 := hS2.zer 1 (by omega)
          have z2 := hS2.zer 2 (by omega)
          have z3 := hS2.zer 3 (by omega)
          have z4 := hS2.zer 4 (by omega)
          have z5 := hS2.zer 5 (by omega)
          have q0 := hS2.c0
          have q1 := hS2.c1
          have g1 := hS2.f1
          have g2 := hS2.f2
          have hb := hS2.below
          go_wp2_with fail
          exact bodyPost_ret (v := .tuple #[.agg #[.int .i64 0, .int .i64 0, .int .i64 0, .int .i64 0, .int .i64 0, .int .i64 0], .agg #[.int .i64 (morC (vs n) d), .int .i64 k]]) (by simp [results, Try.results29, go_sem, z0, z1, z2, z3, z4, z5, q0, q1]) rfl ⟨by rw [HE2.out]; rfl, by go_grown⟩
      · have hkk : k = ll := by omega
        subst hkk
        have hE2 : Hid (runW ws 0 (l.drop 0) = (vs, 0, 0)) := by
          show _ = _
          rw [HE.out, List.drop_of_length_le (l := l) (by omega), runW]
        clear HE
        have z0 := hS.zer 0 (by omega)
        have z1 := hS.zer 1 (by omega)
        have z2 := hS.zer 2 (by omega)
        have z3 := hS.zer 3 (by omega)
        have z4 := hS.zer 4 (by omega)
        have z5 := hS.zer 5 (by omega)
        have q0 := hS.c0
        have q1 := hS.c1
        have g1 := hS.f1
        have g2 := hS.f2
        have hb := hS.below
        have a0 := hS.row 0 (by omega)
        have a1 := hS.row 1 (by omega)
        have a2 := hS.row 2 (by omega)
        have a3 := hS.row 3 (by omega)
        have a4 := hS.row 4 (by omega)
        have a5 := hS.row 5 (by omega)
        go_wp2_with fail
        exact bodyPost_ret (v := .tuple #[.agg #[.int .i64 (vs 0), .int .i64 (vs 1), .int .i64 (vs 2), .int .i64 (vs 3), .int .i64 (vs 4), .int .i64 (vs 5)], .agg #[.int .i64 0, .int .i64 0]]) (by simp [results, Try.results29, go_sem, z0, z1, z2, z3, z4, z5, q0, q1]) rfl ⟨by rw [hE2.out], by go_grown⟩
  · have hx : ((chkW l).1 != 0) = true := by simpa using hf
    have e1 : appW ws l = (noW, (chkW l).1, (chkW l).2) := by unfold appW; rw [if_neg hf]
    rw [e1]
    clear hf e1
    go_enter Try.func29, Try.ntmps29
    go_wp2_with fail
    have hS0 := PSt.begin ws w 39 44
    refine (pcheck_any _ _ _ _ _ (hl.below hS0.below (Nat.le_refl _)) hll).mono ?_
    rintro e w1 ⟨rfl, hb1⟩
    have hS1 := hS0.next hb1
    clear hb1 hS0
    have hlt := hS1.lt
    have r0 : (w1.alloc (.cells #[.int .i64 (chkW l).1, .int .i64 (chkW l).2] 44)).cell? ⟨w1.heap.size, 0, none⟩ = some (.int .i64 (chkW l).1) := by simp [go_sem]
    have r1 : (w1.alloc (.cells #[.int .i64 (chkW l).1, .int .i64 (chkW l).2] 44)).cell? ⟨w1.heap.size, 1, none⟩ = some (.int .i64 (chkW l).2) := by simp [go_sem]
    have hS2 := hS1.next ((Below.refl _ _).alloc (Nat.le_refl _) (.cells #[.int .i64 (chkW l).1, .int .i64 (chkW l).2] 44))
    clear hS1
    go_wp2_with fail
    generalize w1.alloc (.cells #[.int .i64 (chkW l).1, .int .i64 (chkW l).2] 44) = W0 at r0 r1 hS2 ⊢
    generalize w1.heap.size = bf at r0 r1 hlt ⊢
    have z0 := hS2.zer 0 (by omega)
    have z1 := hS2.zer 1 (by omega)
    have z2 := hS2.zer 2 (by omega)
    have z3 := hS2.zer 3 (by omega)
    have z4 := hS2.zer 4 (by omega)
    have z5 := hS2.zer 5 (by omega)
    have q0 := hS2.c0
    have q1 := hS2.c1
    have g1 := hS2.f1
    have g2 := hS2.f2
    have hb := hS2.below
    have hlt1 : w.heap.size + 1 < bf := by omega
    go_region
    all_goals
      go_wp2_with fail
      exact bodyPost_ret (v := .tuple #[.agg #[.int .i64 0, .int .i64 0, .int .i64 0, .int .i64 0, .int .i64 0, .int .i64 0], .agg #[.int .i64 (chkW l).1, .int .i64 (chkW l).2]]) (by simp [results, Try.results29, go_sem, z0, z1, z2, z3, z4, z5, q0, q1]) rfl ⟨rfl, by go_grown⟩

end Go.Proofs.Ytbgnajcmhmpjlaa
