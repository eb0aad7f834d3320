/- The walk of PlanApart: it answers true, whatever wants and world it is given. -/
import Derived.Test.YtbgnajcmhmpjlaaPBegun
import Derived.Test.YtbgnajcmhmpjlaaPMath3
import Derived.Test.YtbgnajcmhmpjlaaPShops
import Derived.Deep.QuietTactic
import Derived.BigQuiet
namespace Go.Proofs.Ytbgnajcmhmpjlaa
open Go.RowKit

theorem box_at {w : World} {b : Nat} {f : Nat → Int} (h : BoxAt w b [.int .i64 (f 0), .int .i64 (f 1), .int .i64 (f 2), .int .i64 (f 3), .int .i64 (f 4), .int .i64 (f 5)]) {j : Nat} (hj : j < 6) : w.cell? ⟨b, j, none⟩ = some (.int .i64 (f j)) := by
  rcases six_cases hj with rfl | rfl | rfl | rfl | rfl | rfl
  · exact h.2 0 _ rfl
  · exact h.2 1 _ rfl
  · exact h.2 2 _ rfl
  · exact h.2 3 _ rfl
  · exact h.2 4 _ rfl
  · exact h.2 5 _ rfl

set_option maxRecDepth 100000 in
set_option maxHeartbeats 4000000 in
theorem papart_walk (ws : Nat → Int) (la : Option Addr) (ll lc : Nat) (l : List (Int × Int)) (w : World) (hl : WantsAt w la l) (hll : l.length = ll) (hws : ∀ j, j < 6 → -9223372036854775808 ≤ ws j ∧ ws j ≤ 9223372036854775807) :
    Calls Try.prog 9 #[.slice la ll lc, .agg #[.int .i64 (ws 0), .int .i64 (ws 1), .int .i64 (ws 2), .int .i64 (ws 3), .int .i64 (ws 4), .int .i64 (ws 5)]] w fun e w' => e = .returned (.bool true) ∧ Below w.heap.size w w' := by
  by_cases h50 : 50 < ll
  · have k1 : (50 : Int) < (ll : Int) := by omega
    clear hl hll h50 hws
    go_enter Try.func9, Try.ntmps9
    go_wp2_with fail
    refine (pbegun_any _).mono ?_
    rintro e w1 ⟨rfl, hb1⟩
    go_wp2_with fail
    go_ret
    exact ⟨rfl, after (by go_grown) hb1 (by simp)⟩
  have k2 : decide ((50 : Int) < (ll : Int)) = false := by simp; omega
  have HWS : Hid _ := hws
  clear hws
  go_enter Try.func9, Try.ntmps9
  go_wp2_with fail
  refine (pbegun_any _).mono ?_
  rintro e w1 ⟨rfl, hb1⟩
  have hX1 := (BoxAt.new w [.int .i64 (ws 0), .int .i64 (ws 1), .int .i64 (ws 2), .int .i64 (ws 3), .int .i64 (ws 4), .int .i64 (ws 5)] 39).next hb1
  have hw1 : Below w.heap.size w w1 := after (by go_grown) hb1 (by simp)
  clear hb1
  have x0 := hX1.2 0 _ rfl
  have x1 := hX1.2 1 _ rfl
  have x2 := hX1.2 2 _ rfl
  have x3 := hX1.2 3 _ rfl
  have x4 := hX1.2 4 _ rfl
  have x5 := hX1.2 5 _ rfl
  have HA : Hid (∀ W : World, Below w.heap.size w W → _) := fun W h => apply_any ws la ll lc l W (hl.below h (Nat.le_refl _)) hll
  obtain ⟨ra, hra⟩ : ∃ ra, ra = appW ws l := ⟨_, rfl⟩
  rw [← hra] at HA
  have HRA : Hid _ := hra
  clear hra
  go_wp2_with fail
  refine (HA.out _ hw1).mono ?_
  rintro e w2 ⟨rfl, hb2⟩
  have hX2 := hX1.next hb2
  have hw2 := after hw1 hb2 hw1.size
  clear hb2 hX1 hw1 x0 x1 x2 x3 x4 x5 HA
  go_upto_region 6 with fail
  obtain ⟨hY, hG, q1⟩ := pair_new w2 [.int .i64 (ra.1 0), .int .i64 (ra.1 1), .int .i64 (ra.1 2), .int .i64 (ra.1 3), .int .i64 (ra.1 4), .int .i64 (ra.1 5)] [.int .i64 ra.2.1, .int .i64 ra.2.2] 39 44
  have hX3 := hX2.next q1
  have hw3 := after hw2 q1 hw2.size
  clear q1 hX2 hw2
  generalize (w2.alloc (.cells #[.int .i64 (ra.1 0), .int .i64 (ra.1 1), .int .i64 (ra.1 2), .int .i64 (ra.1 3), .int .i64 (ra.1 4), .int .i64 (ra.1 5)] 39)).alloc (.cells #[.int .i64 ra.2.1, .int .i64 ra.2.2] 44) = W3 at hY hG hX3 hw3 ⊢
  generalize w2.heap.size = b2 at hY hG ⊢
  have f0 := hG.2 0 _ rfl
  by_cases h0 : ra.2.1 = 0
  · have h0' : (ra.2.1 != 0) = false := by simp [h0]
    have hcan : Can ws l := can_app (by rw [← HRA.out]; exact h0)
    have hF := hcan.fit
    have k1 : (ll : Int) ≤ 4 := by have := hF.few; omega
    have hx : ra.1 = plusW ws l := by rw [HRA.out, app_can hcan]
    have hYc : ∀ j, j < 6 → W3.cell? ⟨b2, j, none⟩ = some (.int .i64 (ws j + dOf l j)) := fun j hj => by have := box_at hY hj; rw [hx] at this; exact this
    have hXc : ∀ j, j < 6 → W3.cell? ⟨w.heap.size, j, none⟩ = some (.int .i64 (ws j)) := fun j hj => box_at hX3 hj
    have hyl := hY.1
    have hxl := hX3.1
    clear h0 hx HRA hY hG hX3
    have HYC : Hid _ := hYc
    have HXC : Hid _ := hXc
    have HCAN : Hid _ := hcan
    clear hYc hXc hcan
    go_wp2_with fail
    refine (shops_any _ _ _ l _ (hl.below hw3 (Nat.le_refl _)) hll (by omega)).mono ?_
    rintro e w4 ⟨⟨ga, cap, rfl, hN⟩, hb4⟩
    have HYC4 : Hid (∀ j, j < 6 → w4.cell? ⟨b2, j, none⟩ = some (.int .i64 (ws j + dOf l j))) := fun j hj => ((bcell hb4).1 _ _ hyl).trans (HYC.out j hj)
    have HXC4 : Hid (∀ j, j < 6 → w4.cell? ⟨w.heap.size, j, none⟩ = some (.int .i64 (ws j))) := fun j hj => ((bcell hb4).1 _ _ hxl).trans (HXC.out j hj)
    have hw4 := after hw3 hb4 hw3.size
    have hyl4 : b2 < w4.heap.size := by have := hb4.size; omega
    have hxl4 : w.heap.size < w4.heap.size := by have := hb4.size; omega
    clear hb4 HYC HXC hw3 f0 hyl hxl
    have hsl : (shopsL l).length ≤ 3 := shopsTo_length l 3
    have hlo : Hid (∀ x ∈ l, 0 ≤ x.1) := hF.nonneg
    have hhi : Hid (∀ x ∈ l, x.1 < 6) := fun x hx => (wnt_ok (hF.each x hx)).2.1
    go_wp2_with fail
    go_loopg [9] 6 (fun g i wr => ∃ k : Nat, k ≤ 6 ∧ g = 6 - k ∧ i = .int .i64 k ∧ SSt w4.heap.size w4 (hasTo l k) wr)
    case atStart =>
      refine ⟨0, Nat.zero_le _, rfl, rfl, ?_, by simp [go_sem], by go_grown, by simp⟩
      intro j hj
      have q : hasTo l ((0 : Nat) : Int) (j : Int) = false := hasTo_zero hlo.out j
      rw [q]
      have : j = 0 ∨ j = 1 ∨ j = 2 := by omega
      rcases this with rfl | rfl | rfl <;> simp [go_sem]
    case round =>
      obtain ⟨k, hk, rfl, rfl, hS⟩ := hrel
      by_cases hlt : k < 6
      · have j0 : (k : Int) < 6 := by omega
        have j1 : (0 : Int) ≤ (k : Int) := by omega
        go_wp2_with fail
        go_loopg [10, 11] ll (fun g dv i wr => ∃ m : Nat, m ≤ ll ∧ g = ll - m ∧ dv = .int .i64 (dOf (l.take m) k) ∧ i = .int .i64 m ∧ SSt w4.heap.size w4 (fun j => hasTo l k j || hasAt (l.take m) k j) wr)
        case atStart =>
          refine ⟨0, Nat.zero_le _, rfl, rfl, rfl, ?_⟩
          refine ⟨fun j hj => ?_, hS.f0, hS.below, hS.lt⟩
          rw [hasAt_zero, Bool.or_false]
          exact hS.row j hj
        case round =>
          clear hS
          obtain ⟨m, hm, rfl, rfl, rfl, hS⟩ := hrel
          have hslt := hS.lt
          obtain ⟨bd0, bd1⟩ := hF.small m k
          by_cases hlt2 : m < ll
          · obtain ⟨⟨c, d⟩, hml⟩ : ∃ x, l[m]? = some x := ⟨_, List.getElem?_eq_getElem (by omega)⟩
            obtain ⟨bl, ol, rfl, hbl, hcl, hdl⟩ := hl m c d hml
            obtain ⟨t0, t1, t2, t3, t4⟩ := hF.at hml
            have i0 : (0 : Int) ≤ (m : Int) := by omega
            have i1 : (m : Int) < (ll : Int) := by omega
            have hcl' : wr.cell? ⟨bl, ol + m * 2, none⟩ = some (.int .i64 c) := (hS.below.cell (p := ⟨bl, ol + m * 2, none⟩) (by show bl < _; omega)).trans ((hw4.cell (p := ⟨bl, ol + m * 2, none⟩) hbl).trans hcl)
            have hdl' : wr.cell? ⟨bl, ol + m * 2 + 1, none⟩ = some (.int .i64 d) := (hS.below.cell (p := ⟨bl, ol + m * 2 + 1, none⟩) (by show bl < _; omega)).trans ((hw4.cell (p := ⟨bl, ol + m * 2 + 1, none⟩) hbl).trans hdl)
            clear hcl hdl hl
            by_cases he : c = (k : Int)
            · have he' : (c == (k : Int)) = true := by simp [he]
              have HIN : Hid (shp (k : Int) ∈ shopsL l) := by
                show _ ∈ _
                rw [← he]
                exact shop_in (d := d) (List.mem_of_getElem? hml) t0 t1
              have HD : Hid (dOf (l.take (m + 1)) k = dOf (l.take m) k + d) := by
                show _ = _
                rw [dOf_next hml, if_pos he]
              obtain ⟨n, hn⟩ : ∃ n : Nat, shp (k : Int) = (n : Int) := ⟨(shp (k : Int)).toNat, by rw [shp_eq j1 j0]; omega⟩
              have hn3 : n < 3 := by have := shp_lt (k : Int); omega
              have HQ : Hid (∀ j : Nat, hasAt (l.take (m + 1)) (k : Int) (j : Int) = (hasAt (l.take m) (k : Int) (j : Int) || ((n : Int) == (j : Int)))) := by
                intro j
                rw [hasAt_next hml, he', he, hn, Bool.true_and]
              have HN : Hid _ := hn
              have rn := hS.row n hn3
              have g0 := hS.f0
              have n1 : (n : Int) < 3 := by omega
              clear he hn
              go_wp2_with fail
              refine (shop_any _ _).mono ?_
              rw [HN.out]
              rintro e w' ⟨rfl, rfl⟩
              go_wp2_with fail
              refine (in_any _ _ _ (shopsL l) _ _ (hN.below hS.below (Nat.le_refl _)) rfl (by omega)).mono ?_
              rw [decide_eq_true (show (n : Int) ∈ shopsL l by rw [← HN.out]; exact HIN.out)]
              rintro e w' ⟨rfl, rfl⟩
              go_wp2_with fail
              refine (shopOf_any _ _).mono ?_
              rw [HN.out]
              rintro e w' ⟨rfl, rfl⟩
              go_wp2_with fail
              go_roundg (ll - (m + 1))
              case measure => omega
              case rel =>
                have hS2 := hS.set n
                exact ⟨m + 1, by omega, rfl, by rw [HD.out], by simp, fun j hj => by rw [HQ.out, ← Bool.or_assoc]; exact hS2.row j hj, hS2.f0, hS2.below, hS2.lt⟩
            · have he' : (c == (k : Int)) = false := by simpa using he
              have HD : Hid (dOf (l.take (m + 1)) k = dOf (l.take m) k) := by
                show _ = _
                rw [dOf_next hml, if_neg he]; omega
              have HQ : Hid (∀ j : Nat, hasAt (l.take (m + 1)) (k : Int) (j : Int) = hasAt (l.take m) (k : Int) (j : Int)) := by
                intro j
                rw [hasAt_next hml, he', Bool.false_and, Bool.or_false]
              clear he
              go_wp2_with fail
              go_roundg (ll - (m + 1))
              case measure => omega
              case rel => exact ⟨m + 1, by omega, rfl, by rw [HD.out], by simp, fun j hj => by rw [HQ.out]; exact hS.row j hj, hS.f0, hS.below, hS.lt⟩
          · have hmm : m = ll := by omega
            subst hmm
            have yk : wr.cell? ⟨b2, k, none⟩ = some (.int .i64 (ws k + dOf l k)) := (hS.below.cell (p := ⟨b2, k, none⟩) hyl4).trans (HYC4.out k hlt)
            have xk : wr.cell? ⟨w.heap.size, k, none⟩ = some (.int .i64 (ws k)) := (hS.below.cell (p := ⟨w.heap.size, k, none⟩) hxl4).trans (HXC4.out k hlt)
            rw [List.take_of_length_le (l := l) (by omega)] at hS bd0 bd1 ⊢
            have HS2 : Hid (SSt w4.heap.size w4 (hasTo l ((k + 1 : Nat) : Int)) wr) := by
              refine ⟨fun j hj => ?_, hS.f0, hS.below, hS.lt⟩
              have e : hasTo l ((k + 1 : Nat) : Int) (j : Int) = (hasTo l (k : Int) (j : Int) || hasAt l (k : Int) (j : Int)) := hasTo_next l k j
              rw [e]
              exact hS.row j hj
            have hrange := HWS.out k hlt
            have hrg : dOf l k ≠ 0 → 0 ≤ ws k ∧ ws k ≤ 100 ∧ 0 ≤ ws k + dOf l k ∧ ws k + dOf l k ≤ 100 := HCAN.out.range
            clear hS hl
            generalize dOf l k = D at yk hrg bd0 bd1 ⊢
            generalize ws k = wk at yk xk hrange hrg ⊢
            have hwr : IntKind.i64.wrap (wk + D) = wk + D := by
              rw [IntKind.wrap_i64]
              by_cases hD : D = 0
              · omega
              · have := hrg hD; omega
            have hne : (wk + D != wk + D) = false := by simp
            by_cases hD : D = 0
            · have hD' : (D != 0) = false := by simp [hD]
              clear hD hrg
              go_wp2_with fail
              go_quiet (fail)
              go_wp2_with fail
              go_roundg (6 - (k + 1))
              case measure => omega
              case rel => exact ⟨k + 1, by omega, rfl, by simp, HS2.out.next (bdrewN (Below.refl _ _) _)⟩
            · have hD' : (D != 0) = true := by simpa using hD
              obtain ⟨r0, r1, r2, r3⟩ := hrg hD
              have d1 : decide (wk + D < 0) = false := by simp; omega
              have d2 : decide (100 < wk + D) = false := by simp; omega
              clear hD hrg
              go_wp2_with fail
              go_quiet (fail)
              go_wp2_with fail
              go_roundg (6 - (k + 1))
              case measure => omega
              case rel => exact ⟨k + 1, by omega, rfl, by simp, HS2.out.next (bdrewN (Below.refl _ _) _)⟩
      · have hk6 : k = 6 := by omega
        subst hk6
        have HS0 : Hid (SSt w4.heap.size w4 (stands l) wr) := by
          refine ⟨fun j hj => ?_, hS.f0, hS.below, hS.lt⟩
          have e : hasTo l ((6 : Nat) : Int) (j : Int) = stands l (j : Int) := hasTo_all hhi.out j
          rw [← e]
          exact hS.row j hj
        clear hS
        go_wp2_with fail
        go_loopg [12] (shopsL l).length (fun g i wr => ∃ k : Nat, k ≤ (shopsL l).length ∧ g = (shopsL l).length - k ∧ i = .int .i64 k ∧ SSt w4.heap.size w4 (stands l) wr)
        case atStart => exact ⟨0, Nat.zero_le _, rfl, rfl, HS0.out⟩
        case round =>
          obtain ⟨i, hi, rfl, rfl, hS⟩ := hrel
          clear HS0
          by_cases hlt3 : i < (shopsL l).length
          · have hi3 : i = 0 ∨ i = 1 ∨ i = 2 := by omega
            rcases hi3 with rfl | rfl | rfl
            · obtain ⟨a, ha⟩ : ∃ x, (shopsL l)[0]? = some x := ⟨_, List.getElem?_eq_getElem (by omega)⟩
              obtain ⟨n, rfl, hn3, hst⟩ := shopsL_mem.1 (List.mem_of_getElem? ha)
              obtain ⟨bg, og, rfl, hbg, hcg⟩ := hN 0 _ ha
              have p0 : wr.cell? ⟨bg, og, none⟩ = some (.int .i64 n) := (hS.below.cell (p := ⟨bg, og + 0, none⟩) hbg).trans hcg
              have rn : wr.cell? ⟨w4.heap.size, n, none⟩ = some (.bool true) := by have q := hS.row n hn3; rw [hst] at q; exact q
              have n0 : decide ((n : Int) < 0) = false := by simp
              have n1 : decide ((3 : Int) ≤ (n : Int)) = false := by simp; omega
              have n2 : (n : Int) < 3 := by omega
              have n3 : (0 : Int) ≤ (n : Int) := by omega
              have i1 : (0 : Int) < ((shopsL l).length : Int) := by omega
              clear hcg hst ha hN hl
              go_wp2_with fail
              go_quiet (fail)
              go_wp2_with fail
              go_roundg ((shopsL l).length - (0 + 1))
              case measure => omega
              case rel => exact ⟨0 + 1, by omega, rfl, by simp, hS.next (bdrewN (Below.refl _ _) _)⟩
            · obtain ⟨a, ha⟩ : ∃ x, (shopsL l)[1]? = some x := ⟨_, List.getElem?_eq_getElem (by omega)⟩
              obtain ⟨n, rfl, hn3, hst⟩ := shopsL_mem.1 (List.mem_of_getElem? ha)
              obtain ⟨bg, og, rfl, hbg, hcg⟩ := hN 1 _ ha
              have p1 : wr.cell? ⟨bg, og + 1, none⟩ = some (.int .i64 n) := (hS.below.cell (p := ⟨bg, og + 1, none⟩) hbg).trans hcg
              have rn : wr.cell? ⟨w4.heap.size, n, none⟩ = some (.bool true) := by have q := hS.row n hn3; rw [hst] at q; exact q
              have n0 : decide ((n : Int) < 0) = false := by simp
              have n1 : decide ((3 : Int) ≤ (n : Int)) = false := by simp; omega
              have n2 : (n : Int) < 3 := by omega
              have n3 : (0 : Int) ≤ (n : Int) := by omega
              have i1 : (1 : Int) < ((shopsL l).length : Int) := by omega
              obtain ⟨b, hb⟩ : ∃ x, (shopsL l)[0]? = some x := ⟨_, List.getElem?_eq_getElem (by omega)⟩
              have hlt' : b < (n : Int) := shopsL_behind hb ha
              obtain ⟨bg', og', e', hbg', hcg'⟩ := hN 0 _ hb
              obtain ⟨rfl, rfl⟩ : bg = bg' ∧ og = og' := by simpa using e'
              have p0 : wr.cell? ⟨bg, og, none⟩ = some (.int .i64 b) := (hS.below.cell (p := ⟨bg, og + 0, none⟩) hbg).trans hcg'
              have n4 : decide ((n : Int) ≤ b) = false := by simp; omega
              have i2 : (0 : Int) < ((shopsL l).length : Int) := by omega
              clear e' hcg' hb hlt' hbg'
              clear hcg hst ha hN hl
              go_wp2_with fail
              go_quiet (fail)
              go_wp2_with fail
              go_roundg ((shopsL l).length - (1 + 1))
              case measure => omega
              case rel => exact ⟨1 + 1, by omega, rfl, by simp, hS.next (bdrewN (Below.refl _ _) _)⟩
            · obtain ⟨a, ha⟩ : ∃ x, (shopsL l)[2]? = some x := ⟨_, List.getElem?_eq_getElem (by omega)⟩
              obtain ⟨n, rfl, hn3, hst⟩ := shopsL_mem.1 (List.mem_of_getElem? ha)
              obtain ⟨bg, og, rfl, hbg, hcg⟩ := hN 2 _ ha
              have p2 : wr.cell? ⟨bg, og + 2, none⟩ = some (.int .i64 n) := (hS.below.cell (p := ⟨bg, og + 2, none⟩) hbg).trans hcg
              have rn : wr.cell? ⟨w4.heap.size, n, none⟩ = some (.bool true) := by have q := hS.row n hn3; rw [hst] at q; exact q
              have n0 : decide ((n : Int) < 0) = false := by simp
              have n1 : decide ((3 : Int) ≤ (n : Int)) = false := by simp; omega
              have n2 : (n : Int) < 3 := by omega
              have n3 : (0 : Int) ≤ (n : Int) := by omega
              have i1 : (2 : Int) < ((shopsL l).length : Int) := by omega
              obtain ⟨b, hb⟩ : ∃ x, (shopsL l)[1]? = some x := ⟨_, List.getElem?_eq_getElem (by omega)⟩
              have hlt' : b < (n : Int) := shopsL_behind hb ha
              obtain ⟨bg', og', e', hbg', hcg'⟩ := hN 1 _ hb
              obtain ⟨rfl, rfl⟩ : bg = bg' ∧ og = og' := by simpa using e'
              have p1 : wr.cell? ⟨bg, og + 1, none⟩ = some (.int .i64 b) := (hS.below.cell (p := ⟨bg, og + 1, none⟩) hbg).trans hcg'
              have n4 : decide ((n : Int) ≤ b) = false := by simp; omega
              have i2 : (1 : Int) < ((shopsL l).length : Int) := by omega
              clear e' hcg' hb hlt' hbg'
              clear hcg hst ha hN hl
              go_wp2_with fail
              go_quiet (fail)
              go_wp2_with fail
              go_roundg ((shopsL l).length - (2 + 1))
              case measure => omega
              case rel => exact ⟨2 + 1, by omega, rfl, by simp, hS.next (bdrewN (Below.refl _ _) _)⟩
          · have i1 : ¬ (i : Int) < ((shopsL l).length : Int) := by omega
            have hwE := after hw4 hS.below hw4.size
            go_wp2_with fail
            go_ret
            exact ⟨rfl, hwE⟩
  · have h0' : (ra.2.1 != 0) = true := by simpa using h0
    clear h0
    go_wp2_with fail
    go_ret
    exact ⟨rfl, hw3⟩

end Go.Proofs.Ytbgnajcmhmpjlaa
