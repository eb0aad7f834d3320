/- The contract of Applied. -/
import Derived.Test.YtbgnajcmhmpjlaaPWf
import Derived.Test.YtbgnajcmhmpjlaaPSt
namespace Go.Proofs.Ytbgnajcmhmpjlaa
open Go.RowKit

set_option maxHeartbeats 4000000 in
theorem applied_any (ws : Nat → Int) (la : Option Addr) (ll lc : Nat) (l : List (Int × Int)) (w : World) (hl : WantsAt w la l) (hll : l.length = ll) :
    Calls Try.prog 30 #[.agg #[.int .i64 (ws 0), .int .i64 (ws 1), .int .i64 (ws 2), .int .i64 (ws 3), .int .i64 (ws 4), .int .i64 (ws 5)], .slice la ll lc] w fun e w' => e = .returned (.tuple #[.agg #[.int .i64 ((appW ws l).1 0), .int .i64 ((appW ws l).1 1), .int .i64 ((appW ws l).1 2), .int .i64 ((appW ws l).1 3), .int .i64 ((appW ws l).1 4), .int .i64 ((appW ws l).1 5)], .agg #[.int .i64 (appW ws l).2.1, .int .i64 (appW ws l).2.2]]) ∧ Below w.heap.size w w' := by
  by_cases hf : (chkW l).1 = 0
  · have e1 : appW ws l = runW ws 0 (l.drop 0) := by unfold appW; rw [if_pos hf]; rfl
    rw [e1]
    have hx : ((chkW l).1 != 0) = false := by simp [hf]
    have hF : Fit l := fit_iff.1 hf
    have k1 : (ll : Int) ≤ 4 := by have := hF.few; omega
    clear hf e1
    go_enter Try.func30, Try.ntmps30
    go_wp2_with fail
    have hS0 := PSt.begin ws w 39 44
    refine (wantsFault_any _ _ _ _ _ (hl.below hS0.below (Nat.le_refl _)) hll).mono ?_
    rintro e w1 ⟨rfl, hb1⟩
    have hS1 := hS0.next hb1
    clear hb1 hS0
    go_wp2_with fail
    go_loopg [7] ll (fun g i wr => ∃ (k : Nat) (vs : Nat → Int), k ≤ ll ∧ g = ll - k ∧ i = .int .i64 k ∧ Hid (runW ws 0 (l.drop 0) = runW vs k (l.drop k)) ∧ PSt w.heap.size w vs wr)
    case atStart => exact ⟨0, ws, Nat.zero_le _, rfl, rfl, rfl, hS1.next (by go_grown)⟩
    case round =>
      obtain ⟨k, vs, hk, rfl, rfl, HE, hS⟩ := hrel
      have hlt2 := hS.lt
      have hlt1 : w.heap.size + 1 < wr.heap.size := by omega
      have hlt0 : w.heap.size < wr.heap.size := by omega
      by_cases hlt : k < ll
      · obtain ⟨⟨c, d⟩, hkl⟩ : ∃ x, l[k]? = some x := ⟨_, List.getElem?_eq_getElem (by omega)⟩
        obtain ⟨bl, ol, rfl, hbl, hcl, hdl⟩ := hl k c d hkl
        obtain ⟨t0, t1, t2, t3, t4⟩ := hF.at hkl
        obtain ⟨n, rfl⟩ := Int.eq_ofNat_of_zero_le t0
        have hn : n < 6 := by omega
        have j0 : (0 : Int) ≤ (k : Int) := by omega
        have j1 : (k : Int) < (ll : Int) := by omega
        have hcl' : wr.cell? ⟨bl, ol + k * 2, none⟩ = some (.int .i64 n) := (hS.below.cell (p := ⟨bl, ol + k * 2, none⟩) hbl).trans hcl
        have hdl' : wr.cell? ⟨bl, ol + k * 2 + 1, none⟩ = some (.int .i64 d) := (hS.below.cell (p := ⟨bl, ol + k * 2 + 1, none⟩) hbl).trans hdl
        have rn := hS.row n hn
        have g0 := hS.f0
        clear hcl hdl hl t2
        have z6 : vs n ≤ 100 ∨ 100 < vs n := by omega
        by_cases b1 : vs n < 0
        · have HE2 : Hid _ := HE.out.trans (run_bad hkl (ws := vs) (by unfold morC; rw [if_pos b1]; decide))
          have e2 : Hid (morC (vs n) d = 1) := by show _ = _; unfold morC; rw [if_pos b1]
          go_wp2_with fail
          refine (fF_any _ _ _).mono ?_
          rintro e w2 ⟨rfl, hb2⟩
          have hS2 := hS.next hb2
          clear hb2 hS hlt0 hlt1 hlt2 hcl' hdl' rn g0
          have z0 := hS2.zer 0 (by omega)
          have z1 := hS2.zer 1 (by omega)
          have z2 := hS2.zer 2 (by omega)
          have z3 := hS2.zer 3 (by omega)
          have z4 := hS2.zer 4 (by omega)
          have z5 := hS2.zer 5 (by omega)
          have q0 := hS2.c0
          have q1 := hS2.c1
          have g1 := hS2.f1
          have g2 := hS2.f2
          have hb := hS2.below
          go_wp2_with fail
          exact bodyPost_ret (v := .tuple #[.agg #[.int .i64 0, .int .i64 0, .int .i64 0, .int .i64 0, .int .i64 0, .int .i64 0], .agg #[.int .i64 1, .int .i64 k]]) (by simp [results, Try.results30, go_sem, z0, z1, z2, z3, z4, z5, q0, q1]) rfl ⟨by rw [HE2.out, e2.out]; rfl, by go_grown⟩
        by_cases b2 : 100 < vs n
        · have HE2 : Hid _ := HE.out.trans (run_bad hkl (ws := vs) (by unfold morC; rw [if_neg b1, if_pos b2]; decide))
          have e2 : Hid (morC (vs n) d = 1) := by show _ = _; unfold morC; rw [if_neg b1, if_pos b2]
          go_wp2_with fail
          refine (fF_any _ _ _).mono ?_
          rintro e w2 ⟨rfl, hb2⟩
          have hS2 := hS.next hb2
          clear hb2 hS hlt0 hlt1 hlt2 hcl' hdl' rn g0
          have z0 := hS2.zer 0 (by omega)
          have z1 := hS2.zer 1 (by omega)
          have z2 := hS2.zer 2 (by omega)
          have z3 := hS2.zer 3 (by omega)
          have z4 := hS2.zer 4 (by omega)
          have z5 := hS2.zer 5 (by omega)
          have q0 := hS2.c0
          have q1 := hS2.c1
          have g1 := hS2.f1
          have g2 := hS2.f2
          have hb := hS2.below
          go_wp2_with fail
          exact bodyPost_ret (v := .tuple #[.agg #[.int .i64 0, .int .i64 0, .int .i64 0, .int .i64 0, .int .i64 0, .int .i64 0], .agg #[.int .i64 1, .int .i64 k]]) (by simp [results, Try.results30, go_sem, z0, z1, z2, z3, z4, z5, q0, q1]) rfl ⟨by rw [HE2.out, e2.out]; rfl, by go_grown⟩
        have b3 : 0 ≤ vs n := by omega
        have b4 : vs n ≤ 100 := by omega
        have e5 : Hid (morC (vs n) d = if vs n + d < 0 then 5 else if 100 < vs n + d then 6 else 0) := by show _ = _; unfold morC; rw [if_neg b1, if_neg b2]
        have e6 : Hid (morV (vs n) d = if vs n + d < 0 then 0 else if 100 < vs n + d then 0 else vs n + d) := by show _ = _; unfold morV; rw [if_neg b1, if_neg b2]
        have hu : IntKind.i64.wrap (vs n + d) = vs n + d := by go_unwrap
        clear z6 b1 b2
        have bne : Hid (bl < w.heap.size) := hbl
        go_wp2_with fail
        go_region
        have hS2 := (hS.set n hn (vs n + d)).next (Below.refl _ _).drew
        clear hS hlt0 hlt1 hlt2 hcl' hdl' rn g0 hu
        generalize (wr.setCell ⟨w.heap.size, n, none⟩ (.int .i64 (vs n + d))).drew = W0 at hS2 ⊢
        have rn2 : W0.cell? ⟨w.heap.size, n, none⟩ = some (.int .i64 (vs n + d)) := by have := hS2.row n hn; rwa [upd, if_pos rfl] at this
        by_cases b5 : vs n + d < 0
        · have e2 : Hid (morC (vs n) d = 5) := by show _ = _; rw [e5.out, if_pos b5]
          have HE2 : Hid _ := HE.out.trans (run_bad hkl (ws := vs) (by rw [e2.out]; decide))
          go_wp2_with fail
          refine (fF_any _ _ _).mono ?_
          rintro e w2 ⟨rfl, hb2⟩
          have hS3 := hS2.next hb2
          clear hb2 hS2 rn2
          have z0 := hS3.zer 0 (by omega)
          have z1 := hS3.zer 1 (by omega)
          have z2 := hS3.zer 2 (by omega)
          have z3 := hS3.zer 3 (by omega)
          have z4 := hS3.zer 4 (by omega)
          have z5 := hS3.zer 5 (by omega)
          have q0 := hS3.c0
          have q1 := hS3.c1
          have g1 := hS3.f1
          have g2 := hS3.f2
          have hb := hS3.below
          go_wp2_with fail
          exact bodyPost_ret (v := .tuple #[.agg #[.int .i64 0, .int .i64 0, .int .i64 0, .int .i64 0, .int .i64 0, .int .i64 0], .agg #[.int .i64 5, .int .i64 k]]) (by simp [results, Try.results30, go_sem, z0, z1, z2, z3, z4, z5, q0, q1]) rfl ⟨by rw [HE2.out, e2.out]; rfl, by go_grown⟩
        by_cases b6 : 100 < vs n + d
        · have e2 : Hid (morC (vs n) d = 6) := by show _ = _; rw [e5.out, if_neg b5, if_pos b6]
          have HE2 : Hid _ := HE.out.trans (run_bad hkl (ws := vs) (by rw [e2.out]; decide))
          go_wp2_with fail
          refine (fF_any _ _ _).mono ?_
          rintro e w2 ⟨rfl, hb2⟩
          have hS3 := hS2.next hb2
          clear hb2 hS2 rn2
          have z0 := hS3.zer 0 (by omega)
          have z1 := hS3.zer 1 (by omega)
          have z2 := hS3.zer 2 (by omega)
          have z3 := hS3.zer 3 (by omega)
          have z4 := hS3.zer 4 (by omega)
          have z5 := hS3.zer 5 (by omega)
          have q0 := hS3.c0
          have q1 := hS3.c1
          have g1 := hS3.f1
          have g2 := hS3.f2
          have hb := hS3.below
          go_wp2_with fail
          exact bodyPost_ret (v := .tuple #[.agg #[.int .i64 0, .int .i64 0, .int .i64 0, .int .i64 0, .int .i64 0, .int .i64 0], .agg #[.int .i64 6, .int .i64 k]]) (by simp [results, Try.results30, go_sem, z0, z1, z2, z3, z4, z5, q0, q1]) rfl ⟨by rw [HE2.out, e2.out]; rfl, by go_grown⟩
        have e2 : Hid (morC (vs n) d = 0) := by show _ = _; rw [e5.out, if_neg b5, if_neg b6]
        have e3 : Hid (morV (vs n) d = vs n + d) := by show _ = _; rw [e6.out, if_neg b5, if_neg b6]
        have HE2 : Hid _ := HE.out.trans (run_next hkl (ws := vs) e2.out)
        have b7 : 0 ≤ vs n + d := by omega
        have b8 : vs n + d ≤ 100 := by omega
        clear b5 b6
        go_wp2_with fail
        go_roundg (ll - (k + 1))
        case measure => omega
        case rel => exact ⟨k + 1, upd vs n (vs n + d), by omega, rfl, by simp, by have q := HE2.out; rw [e3.out] at q; exact q, hS2⟩
      · have hkk : k = ll := by omega
        subst hkk
        have hE2 : Hid (runW ws 0 (l.drop 0) = (vs, 0, 0)) := by
          show _ = _
          rw [HE.out, List.drop_of_length_le (l := l) (by omega), runW]
        clear HE
        have z0 := hS.zer 0 (by omega)
        have z1 := hS.zer 1 (by omega)
        have z2 := hS.zer 2 (by omega)
        have z3 := hS.zer 3 (by omega)
        have z4 := hS.zer 4 (by omega)
        have z5 := hS.zer 5 (by omega)
        have q0 := hS.c0
        have q1 := hS.c1
        have g1 := hS.f1
        have g2 := hS.f2
        have hb := hS.below
        have a0 := hS.row 0 (by omega)
        have a1 := hS.row 1 (by omega)
        have a2 := hS.row 2 (by omega)
        have a3 := hS.row 3 (by omega)
        have a4 := hS.row 4 (by omega)
        have a5 := hS.row 5 (by omega)
        go_wp2_with fail
        exact bodyPost_ret (v := .tuple #[.agg #[.int .i64 (vs 0), .int .i64 (vs 1), .int .i64 (vs 2), .int .i64 (vs 3), .int .i64 (vs 4), .int .i64 (vs 5)], .agg #[.int .i64 0, .int .i64 0]]) (by simp [results, Try.results30, go_sem, z0, z1, z2, z3, z4, z5, q0, q1]) rfl ⟨by rw [hE2.out], by go_grown⟩
  · have hx : ((chkW l).1 != 0) = true := by simpa using hf
    have e1 : appW ws l = (noW, (chkW l).1, (chkW l).2) := by unfold appW; rw [if_neg hf]
    rw [e1]
    clear hf e1
    go_enter Try.func30, Try.ntmps30
    go_wp2_with fail
    have hS0 := PSt.begin ws w 39 44
    refine (wantsFault_any _ _ _ _ _ (hl.below hS0.below (Nat.le_refl _)) hll).mono ?_
    rintro e w1 ⟨rfl, hb1⟩
    have hS1 := hS0.next hb1
    clear hb1 hS0
    have hlt := hS1.lt
    have r0 : (w1.alloc (.cells #[.int .i64 (chkW l).1, .int .i64 (chkW l).2] 44)).cell? ⟨w1.heap.size, 0, none⟩ = some (.int .i64 (chkW l).1) := by simp [go_sem]
    have r1 : (w1.alloc (.cells #[.int .i64 (chkW l).1, .int .i64 (chkW l).2] 44)).cell? ⟨w1.heap.size, 1, none⟩ = some (.int .i64 (chkW l).2) := by simp [go_sem]
    have hS2 := hS1.next ((Below.refl _ _).alloc (Nat.le_refl _) (.cells #[.int .i64 (chkW l).1, .int .i64 (chkW l).2] 44))
    clear hS1
    go_wp2_with fail
    generalize w1.alloc (.cells #[.int .i64 (chkW l).1, .int .i64 (chkW l).2] 44) = W0 at r0 r1 hS2 ⊢
    generalize w1.heap.size = bf at r0 r1 hlt ⊢
    have z0 := hS2.zer 0 (by omega)
    have z1 := hS2.zer 1 (by omega)
    have z2 := hS2.zer 2 (by omega)
    have z3 := hS2.zer 3 (by omega)
    have z4 := hS2.zer 4 (by omega)
    have z5 := hS2.zer 5 (by omega)
    have q0 := hS2.c0
    have q1 := hS2.c1
    have g1 := hS2.f1
    have g2 := hS2.f2
    have hb := hS2.below
    have hlt1 : w.heap.size + 1 < bf := by omega
    go_region
    all_goals
      go_wp2_with fail
      exact bodyPost_ret (v := .tuple #[.agg #[.int .i64 0, .int .i64 0, .int .i64 0, .int .i64 0, .int .i64 0, .int .i64 0], .agg #[.int .i64 (chkW l).1, .int .i64 (chkW l).2]]) (by simp [results, Try.results30, go_sem, z0, z1, z2, z3, z4, z5, q0, q1]) rfl ⟨rfl, by go_grown⟩

end Go.Proofs.Ytbgnajcmhmpjlaa
