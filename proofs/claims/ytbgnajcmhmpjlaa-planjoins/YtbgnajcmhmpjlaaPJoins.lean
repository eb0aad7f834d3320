/- The walk of PlanJoins: it answers true, whatever wants, world and number it is given. -/
import Derived.Test.YtbgnajcmhmpjlaaPBegun
import Derived.Test.YtbgnajcmhmpjlaaPMath2
import Derived.Deep.RegionHeld3
namespace Go.Proofs.Ytbgnajcmhmpjlaa
open Go.RowKit

theorem box_six {w : World} {b : Nat} {x0 x1 x2 x3 x4 x5 : Value} (hlt : b < w.heap.size) (h0 : w.cell? ⟨b, 0, none⟩ = some x0) (h1 : w.cell? ⟨b, 1, none⟩ = some x1) (h2 : w.cell? ⟨b, 2, none⟩ = some x2) (h3 : w.cell? ⟨b, 3, none⟩ = some x3) (h4 : w.cell? ⟨b, 4, none⟩ = some x4) (h5 : w.cell? ⟨b, 5, none⟩ = some x5) : BoxAt w b [x0, x1, x2, x3, x4, x5] := by
  refine ⟨hlt, fun j v hj => ?_⟩
  match j, hj with
  | 0, hj => simp at hj; subst hj; exact h0
  | 1, hj => simp at hj; subst hj; exact h1
  | 2, hj => simp at hj; subst hj; exact h2
  | 3, hj => simp at hj; subst hj; exact h3
  | 4, hj => simp at hj; subst hj; exact h4
  | 5, hj => simp at hj; subst hj; exact h5
  | j + 6, hj => simp at hj
theorem box_two {w : World} {b : Nat} {x0 x1 : Value} (hlt : b < w.heap.size) (h0 : w.cell? ⟨b, 0, none⟩ = some x0) (h1 : w.cell? ⟨b, 1, none⟩ = some x1) : BoxAt w b [x0, x1] := by
  refine ⟨hlt, fun j v hj => ?_⟩
  match j, hj with
  | 0, hj => simp at hj; subst hj; exact h0
  | 1, hj => simp at hj; subst hj; exact h1
  | j + 2, hj => simp at hj
theorem WantsAt.take {w : World} {la : Option Addr} {l : List (Int × Int)} (h : WantsAt w la l) (k : Nat) : WantsAt w la (l.take k) := by
  intro j c d hj
  have hl := (List.getElem?_eq_some_iff.1 hj).1
  rw [List.getElem?_take_of_lt (by simp at hl; omega)] at hj
  exact h j c d hj
theorem WantsAt.drop {w : World} {b off : Nat} {l : List (Int × Int)} (h : WantsAt w (some ⟨b, off, none⟩) l) (k : Nat) : WantsAt w (some ⟨b, off + k * 2, none⟩) (l.drop k) := by
  intro j c d hj
  rw [List.getElem?_drop] at hj
  obtain ⟨b', off', e, hb, h0, h1⟩ := h (k + j) c d hj
  obtain ⟨rfl, rfl⟩ : b = b' ∧ off = off' := by simpa using e
  refine ⟨b, off + k * 2, rfl, hb, ?_, ?_⟩
  · rw [show off + k * 2 + j * 2 = off + (k + j) * 2 by omega]; exact h0
  · rw [show off + k * 2 + j * 2 + 1 = off + (k + j) * 2 + 1 by omega]; exact h1

set_option maxRecDepth 100000 in
set_option maxHeartbeats 4000000 in
theorem pjoins_walk (ws : Nat → Int) (n : Int) (la : Option Addr) (ll lc : Nat) (l : List (Int × Int)) (w : World) (hl : WantsAt w la l) (hll : l.length = ll) (hcap : ll ≤ lc) :
    Calls Try.prog 10 #[.slice la ll lc, .agg #[.int .i64 (ws 0), .int .i64 (ws 1), .int .i64 (ws 2), .int .i64 (ws 3), .int .i64 (ws 4), .int .i64 (ws 5)], .int .i64 n] w fun e w' => e = .returned (.bool true) ∧ Below w.heap.size w w' := by
  by_cases h2 : ll < 2
  · have k1 : (ll : Int) < 2 := by omega
    clear hl hll h2
    go_enter Try.func10, Try.ntmps10
    go_wp2_with fail
    refine (pbegun_any _).mono ?_
    rintro e w1 ⟨rfl, hb1⟩
    go_wp2_with fail
    go_ret
    exact ⟨rfl, after (by go_grown) hb1 (by simp)⟩
  have k2 : decide ((ll : Int) < 2) = false := by simp; omega
  by_cases h50 : 50 < ll
  · have k1 : decide ((50 : Int) < (ll : Int)) = true := by simp; omega
    clear hl hll h2 h50
    go_enter Try.func10, Try.ntmps10
    go_wp2_with fail
    refine (pbegun_any _).mono ?_
    rintro e w1 ⟨rfl, hb1⟩
    go_wp2_with fail
    go_ret
    exact ⟨rfl, after (by go_grown) hb1 (by simp)⟩
  have k5 : decide ((50 : Int) < (ll : Int)) = false := by simp; omega
  have hfl := fld2
  by_cases hf : (chkW l).1 = 0
  · have hF : Fit l := fit_iff.1 hf
    have hx : ((chkW l).1 != 0) = false := by simp [hf]
    have k4 : (ll : Int) ≤ 4 := by have := hF.few; omega
    have k3 : (2 : Int) ≤ (ll : Int) := by omega
    clear hf
    go_enter Try.func10, Try.ntmps10
    go_wp2_with fail
    refine (pbegun_any _).mono ?_
    rintro e w1 ⟨rfl, hb1⟩
    have hX1 := (BoxAt.new w [.int .i64 (ws 0), .int .i64 (ws 1), .int .i64 (ws 2), .int .i64 (ws 3), .int .i64 (ws 4), .int .i64 (ws 5)] 39).next hb1
    have hw1 : Below w.heap.size w w1 := after (by go_grown) hb1 (by simp)
    clear hb1
    go_wp2_with fail
    refine (pcheck_any _ _ _ l _ (hl.below hw1 (Nat.le_refl _)) hll).mono ?_
    rintro e w2 ⟨rfl, hb2⟩
    have hX2 := hX1.next hb2
    have hw2 := after hw1 hb2 hw1.size
    clear hb2 hX1 hw1
    go_upto_region 5 with fail
    go_cut [7] (fun s wx => w2 = wx ∧ ∃ r : Nat, 0 < r ∧ r < ll ∧ s = .int .i64 (r : Int))
    case first =>
      go_wp2_with fail
      go_meet
      case rel =>
        obtain ⟨r, hr, er⟩ := cut_ok n (ll - 1) (by omega) (by omega)
        have e1 : ((ll - 1 : Nat) : Int) = (ll : Int) - 1 := by omega
        rw [e1] at er
        refine ⟨rfl, r + 1, by omega, by omega, ?_⟩
        rw [er, IntWalk.wrap64_in _ (by omega)]
        congr 1
        omega
    case rest =>
      obtain ⟨rfl, r, hr0, hr1, rfl⟩ := hcut
      have HA : Hid (∀ W : World, Below w.heap.size w W → _) := fun W h => apply_any ws la ll lc l W (hl.below h (Nat.le_refl _)) hll
      obtain ⟨⟨cA, dA⟩, hkA⟩ : ∃ x, l[0]? = some x := ⟨_, List.getElem?_eq_getElem (by omega)⟩
      obtain ⟨bl, ol, rfl, hbl, -, -⟩ := hl 0 cA dA hkA
      have HB : Hid (∀ W : World, Below w.heap.size w W → _) := fun W h => apply_any ws _ r lc (l.take r) W ((hl.below h (Nat.le_refl _)).take r) (by simp; omega)
      have HC : Hid (∀ (vs : Nat → Int) (W : World), Below w.heap.size w W → _) := fun vs W h => apply_any vs _ (ll - r) (lc - r) (l.drop r) W ((hl.below h (Nat.le_refl _)).drop r) (by simp; omega)
      clear hkA cA dA
      have j0 : (0 : Int) < (r : Int) := by omega
      have c0 : (r : Int) ≤ (lc : Int) := by omega
      have c1 : (ll : Int) ≤ (lc : Int) := by omega
      have j1 : (r : Int) < (ll : Int) := by omega
      have x0 := hX2.2 0 _ rfl
      have x1 := hX2.2 1 _ rfl
      have x2 := hX2.2 2 _ rfl
      have x3 := hX2.2 3 _ rfl
      have x4 := hX2.2 4 _ rfl
      have x5 := hX2.2 5 _ rfl
      obtain ⟨ra, hra⟩ : ∃ ra, ra = appW ws l := ⟨_, rfl⟩
      obtain ⟨rb, hrb⟩ : ∃ rb, rb = appW ws (l.take r) := ⟨_, rfl⟩
      obtain ⟨rc, hrc⟩ : ∃ rc, rc = appW rb.1 (l.drop r) := ⟨_, rfl⟩
      rw [← hra] at HA
      rw [← hrb] at HB
      have HRA : Hid _ := hra
      have HRB : Hid _ := hrb
      have HRC : Hid _ := hrc
      clear hra hrb hrc
      go_wp2_with fail
      refine (HA.out _ hw2).mono ?_
      rintro e w3 ⟨rfl, hb3⟩
      have hX3 := hX2.next hb3
      have hw3 := after hw2 hb3 hw2.size
      clear hb3 hX2 hw2 x0 x1 x2 x3 x4 x5 HA
      go_wp2_with fail
      obtain ⟨hY, hG, q1⟩ := pair_new w3 [.int .i64 (ra.1 0), .int .i64 (ra.1 1), .int .i64 (ra.1 2), .int .i64 (ra.1 3), .int .i64 (ra.1 4), .int .i64 (ra.1 5)] [.int .i64 ra.2.1, .int .i64 ra.2.2] 39 44
      have hX4 := hX3.next q1
      have hw4 := after hw3 q1 hw3.size
      clear q1 hX3 hw3
      generalize (w3.alloc (.cells #[.int .i64 (ra.1 0), .int .i64 (ra.1 1), .int .i64 (ra.1 2), .int .i64 (ra.1 3), .int .i64 (ra.1 4), .int .i64 (ra.1 5)] 39)).alloc (.cells #[.int .i64 ra.2.1, .int .i64 ra.2.2] 44) = W4 at hY hG hX4 hw4 ⊢
      generalize w3.heap.size = b3 at hY hG ⊢
      have x0 := hX4.2 0 _ rfl
      have x1 := hX4.2 1 _ rfl
      have x2 := hX4.2 2 _ rfl
      have x3 := hX4.2 3 _ rfl
      have x4 := hX4.2 4 _ rfl
      have x5 := hX4.2 5 _ rfl
      have hx4 := hX4.1
      have q1 : (0 : Int) ≤ (r : Int) := by omega
      go_upto_region 7 with fail
      go_cut [10, 11] (fun p q wx => ∃ nb nf, p = .pointer (some ⟨nb, 0, none⟩) ∧ q = .pointer (some ⟨nf, 0, none⟩) ∧ BoxAt wx nb [.int .i64 (rb.1 0), .int .i64 (rb.1 1), .int .i64 (rb.1 2), .int .i64 (rb.1 3), .int .i64 (rb.1 4), .int .i64 (rb.1 5)] ∧ BoxAt wx nf [.int .i64 rb.2.1, .int .i64 rb.2.2] ∧ Below W4.heap.size W4 wx)
      case first =>
        have HK : Hid (∀ w', Below W4.heap.size W4 w' → w'.cell? ⟨w.heap.size, 0, none⟩ = some (.int .i64 (ws 0)) ∧ w'.cell? ⟨w.heap.size, 1, none⟩ = some (.int .i64 (ws 1)) ∧ w'.cell? ⟨w.heap.size, 2, none⟩ = some (.int .i64 (ws 2)) ∧ w'.cell? ⟨w.heap.size, 3, none⟩ = some (.int .i64 (ws 3)) ∧ w'.cell? ⟨w.heap.size, 4, none⟩ = some (.int .i64 (ws 4)) ∧ w'.cell? ⟨w.heap.size, 5, none⟩ = some (.int .i64 (ws 5)) ∧ Below W4.heap.size W4 w') := fun w' hb =>
          ⟨((bcell hb).1 _ _ hx4).trans x0, ((bcell hb).1 _ _ hx4).trans x1, ((bcell hb).1 _ _ hx4).trans x2, ((bcell hb).1 _ _ hx4).trans x3, ((bcell hb).1 _ _ hx4).trans x4, ((bcell hb).1 _ _ hx4).trans x5, hb⟩
        have HW4 : Hid _ := hw4
        clear hw4 hX4 hY hG
        go_region_held3 (fun w' => w'.cell? ⟨w.heap.size, 0, none⟩ = some (.int .i64 (ws 0)) ∧ w'.cell? ⟨w.heap.size, 1, none⟩ = some (.int .i64 (ws 1)) ∧ w'.cell? ⟨w.heap.size, 2, none⟩ = some (.int .i64 (ws 2)) ∧ w'.cell? ⟨w.heap.size, 3, none⟩ = some (.int .i64 (ws 3)) ∧ w'.cell? ⟨w.heap.size, 4, none⟩ = some (.int .i64 (ws 4)) ∧ w'.cell? ⟨w.heap.size, 5, none⟩ = some (.int .i64 (ws 5)) ∧ Below W4.heap.size W4 w')
          (first | exact HK.out _ (by go_grown))
          (first | (go_at_call 29; refine (HB.out _ (after HW4.out (by go_grown) HW4.out.size)).mono ?_; rintro e w9 ⟨rfl, hb9⟩; have hw9 : Below W4.heap.size W4 w9 := after (by go_grown) hb9 (by simp <;> omega); have hz9 : W4.heap.size ≤ w9.heap.size := hw9.size; have hy9 := hb9.size; simp [Nat.add_one_le_iff] at hy9; obtain ⟨hc9, hf9⟩ := bcell hb9))
        all_goals
          clear HK
          have t1 : W4.heap.size < W4.heap.size + 1 + 1 := by omega
          go_wp2_with fail
          go_meet
          case rel =>
            refine ⟨_, _, rfl, rfl, ?_, ?_, ?_⟩
            · refine box_six ?_ ?_ ?_ ?_ ?_ ?_ ?_
              · have := hb9.size
                simp at this ⊢
                try omega
              all_goals simp [go_sem, hc9, t1, hy9]
            · refine box_two ?_ ?_ ?_
              · have := hb9.size
                simp at this ⊢
                try omega
              all_goals simp [go_sem, hc9, t1, hy9]
            · go_grown
      case rest =>
        obtain ⟨nb, nf, rfl, rfl, hYb, hGb, hb5⟩ := hcut
        have hYa := hY.next hb5
        have hGa := hG.next hb5
        have hw5 := after hw4 hb5 hw4.size
        clear hb5 hY hG hX4 hw4 x0 x1 x2 x3 x4 x5 hx4 HB
        have f0 := hGa.2 0 _ rfl
        have f1 := hGa.2 1 _ rfl
        have g0 := hGb.2 0 _ rfl
        have g1 := hGb.2 1 _ rfl
        by_cases hg : rb.2.1 = 0
        · obtain ⟨e1, e2, e3⟩ := join_good (ws := ws) hF hr0 (by omega) (by rw [← HRB.out]; exact hg)
          rw [← HRA.out, ← HRB.out, ← HRC.out] at e1 e2
          rw [← HRA.out, ← HRB.out, ← HRC.out] at e3
          have hat : 0 ≤ rc.2.2 ∧ rc.2.2 ≤ (l.drop r).length := by rw [HRC.out]; exact app_at (hF.drop (by omega))
          have hg' : (rb.2.1 != 0) = false := by simp [hg]
          have y0 := hYb.2 0 _ rfl
          have y1 := hYb.2 1 _ rfl
          have y2 := hYb.2 2 _ rfl
          have y3 := hYb.2 3 _ rfl
          have y4 := hYb.2 4 _ rfl
          have y5 := hYb.2 5 _ rfl
          have hy4 := hYb.1
          have HC' : Hid (∀ W : World, Below w.heap.size w W → _) := fun W h => HC.out rb.1 W h
          rw [← HRC.out] at HC'
          have HE1 : Hid _ := e1
          have HE2 : Hid _ := e2
          have HE3 : Hid _ := e3
          have HAT : Hid _ := hat
          have m1 : ¬ (lc : Int) ≤ (r : Int) := by omega
          have m2 : ¬ lc = r := by omega
          have m4 : r ≤ ll := by omega
          clear e1 e2 e3 hat hg HRA HRB HRC HC
          generalize hW5 : wc = W5 at hYa hGa hYb hGb hw5 f0 f1 g0 g1 y0 y1 y2 y3 y4 y5 hy4 ⊢
          clear hW5
          go_upto_region 10 with fail
          go_cut [12, 13] (fun p q wx => ∃ nb nf, p = .pointer (some ⟨nb, 0, none⟩) ∧ q = .pointer (some ⟨nf, 0, none⟩) ∧ BoxAt wx nb [.int .i64 (rc.1 0), .int .i64 (rc.1 1), .int .i64 (rc.1 2), .int .i64 (rc.1 3), .int .i64 (rc.1 4), .int .i64 (rc.1 5)] ∧ BoxAt wx nf [.int .i64 rc.2.1, .int .i64 rc.2.2] ∧ Below W5.heap.size W5 wx)
          case first =>
            have HK : Hid (∀ w', Below W5.heap.size W5 w' → w'.cell? ⟨nb, 0, none⟩ = some (.int .i64 (rb.1 0)) ∧ w'.cell? ⟨nb, 1, none⟩ = some (.int .i64 (rb.1 1)) ∧ w'.cell? ⟨nb, 2, none⟩ = some (.int .i64 (rb.1 2)) ∧ w'.cell? ⟨nb, 3, none⟩ = some (.int .i64 (rb.1 3)) ∧ w'.cell? ⟨nb, 4, none⟩ = some (.int .i64 (rb.1 4)) ∧ w'.cell? ⟨nb, 5, none⟩ = some (.int .i64 (rb.1 5)) ∧ Below W5.heap.size W5 w') := fun w' hb =>
              ⟨((bcell hb).1 _ _ hy4).trans y0, ((bcell hb).1 _ _ hy4).trans y1, ((bcell hb).1 _ _ hy4).trans y2, ((bcell hb).1 _ _ hy4).trans y3, ((bcell hb).1 _ _ hy4).trans y4, ((bcell hb).1 _ _ hy4).trans y5, hb⟩
            have HW5 : Hid _ := hw5
            clear hw5 hYa hGa hYb hGb f0 f1 g0 g1
            go_region_held3 (fun w' => w'.cell? ⟨nb, 0, none⟩ = some (.int .i64 (rb.1 0)) ∧ w'.cell? ⟨nb, 1, none⟩ = some (.int .i64 (rb.1 1)) ∧ w'.cell? ⟨nb, 2, none⟩ = some (.int .i64 (rb.1 2)) ∧ w'.cell? ⟨nb, 3, none⟩ = some (.int .i64 (rb.1 3)) ∧ w'.cell? ⟨nb, 4, none⟩ = some (.int .i64 (rb.1 4)) ∧ w'.cell? ⟨nb, 5, none⟩ = some (.int .i64 (rb.1 5)) ∧ Below W5.heap.size W5 w')
              (first | exact HK.out _ (by go_grown))
              (first | (go_at_call 29; refine (HC'.out _ (after HW5.out (by go_grown) HW5.out.size)).mono ?_; rintro e w9 ⟨rfl, hb9⟩; have hw9 : Below W5.heap.size W5 w9 := after (by go_grown) hb9 (by simp <;> omega); have hz9 : W5.heap.size ≤ w9.heap.size := hw9.size; have hy9 := hb9.size; simp [Nat.add_one_le_iff] at hy9; obtain ⟨hc9, hf9⟩ := bcell hb9))
            all_goals
              clear HK
              have t1 : W5.heap.size < W5.heap.size + 1 + 1 := by omega
              go_wp2_with fail
              go_meet
              case rel =>
                refine ⟨_, _, rfl, rfl, ?_, ?_, ?_⟩
                · refine box_six ?_ ?_ ?_ ?_ ?_ ?_ ?_
                  · have := hb9.size
                    simp at this ⊢
                    try omega
                  all_goals simp [go_sem, hc9, t1, hy9]
                · refine box_two ?_ ?_ ?_
                  · have := hb9.size
                    simp at this ⊢
                    try omega
                  all_goals simp [go_sem, hc9, t1, hy9]
                · go_grown
          case rest =>
            obtain ⟨nz, nh, rfl, rfl, hZ, hH, hb6⟩ := hcut
            have hYa6 := hYa.next hb6
            have hGa6 := hGa.next hb6
            have hw6 := after hw5 hb6 hw5.size
            clear hYa hGa hYb hGb f0 f1 g0 g1 y0 y1 y2 y3 y4 y5 hw5 HC'
            have f0 := hGa6.2 0 _ rfl
            have f1 := hGa6.2 1 _ rfl
            have g0 := hH.2 0 _ rfl
            have g1 := hH.2 1 _ rfl
            by_cases hh : rc.2.1 = 0
            · have hh' : (rc.2.1 != 0) = false := by simp [hh]
              have e2 : ra.2.1 = 0 := HE2.out.trans hh
              have e2' : (ra.2.1 == 0) = true := by simp [e2]
              rw [HE1.out] at hYa6
              have x0 := hYa6.2 0 _ rfl
              have x1 := hYa6.2 1 _ rfl
              have x2 := hYa6.2 2 _ rfl
              have x3 := hYa6.2 3 _ rfl
              have x4 := hYa6.2 4 _ rfl
              have x5 := hYa6.2 5 _ rfl
              have z0 := hZ.2 0 _ rfl
              have z1 := hZ.2 1 _ rfl
              have z2 := hZ.2 2 _ rfl
              have z3 := hZ.2 3 _ rfl
              have z4 := hZ.2 4 _ rfl
              have z5 := hZ.2 5 _ rfl
              have hq := eq6
              clear hh e2 hb6
              go_wp2_with fail
              go_ret
              exact ⟨rfl, hw6⟩
            · have hh' : (rc.2.1 != 0) = true := by simpa using hh
              rw [HE2.out] at f0
              rw [HE3.out hh] at f1
              obtain ⟨t0, t1⟩ := HAT.out
              have t2 : rc.2.2 ≤ 4 := by have := hF.few; simp at t1; omega
              have t3 : (r : Int) ≤ 4 := by omega
              clear t1 hh hb6
              go_wp2_with fail
              go_ret
              exact ⟨rfl, hw6⟩
        · have e1 := join_bad (ws := ws) hF hr0 (by rw [← HRB.out]; exact hg)
          rw [← HRA.out, ← HRB.out] at e1
          have hg' : (rb.2.1 != 0) = true := by simpa using hg
          rw [e1] at f0 f1
          clear hg e1
          go_wp2_with fail
          go_ret
          exact ⟨rfl, hw5⟩
  · have hx : ((chkW l).1 != 0) = true := by simpa using hf
    clear hf
    go_enter Try.func10, Try.ntmps10
    go_wp2_with fail
    refine (pbegun_any _).mono ?_
    rintro e w1 ⟨rfl, hb1⟩
    have hw1 : Below w.heap.size w w1 := after (by go_grown) hb1 (by simp)
    clear hb1
    go_wp2_with fail
    refine (pcheck_any _ _ _ l _ (hl.below hw1 (Nat.le_refl _)) hll).mono ?_
    rintro e w2 ⟨rfl, hb2⟩
    go_wp2_with fail
    go_ret
    exact ⟨rfl, after hw1 hb2 hw1.size⟩

end Go.Proofs.Ytbgnajcmhmpjlaa
