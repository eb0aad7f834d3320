/- The walk of PlanOrder: it answers true, whatever wants and world it is given. -/
import Derived.Test.YtbgnajcmhmpjlaaPTwo
import Derived.Test.YtbgnajcmhmpjlaaPMath2
import Derived.Deep.RegionHeld3
namespace Go.Proofs.Ytbgnajcmhmpjlaa
open Go.RowKit

/-- Two rows of one's own, apart from each other and from all that is older. -/
structure OSt (w : World) (ws : Nat → Int) (m b : List (Int × Int)) (mv bv : Value) (wr : World) : Prop where
  box : BoxAt wr w.heap.size [.int .i64 (ws 0), .int .i64 (ws 1), .int .i64 (ws 2), .int .i64 (ws 3), .int .i64 (ws 4), .int .i64 (ws 5)]
  mrow : wr.ownsRow (w.heap.size + 1) 42 2 mv m.length (flat m)
  brow : wr.ownsRow (w.heap.size + 1) 42 2 bv b.length (flat b)
  apart : ∀ k, mv.ownBlock = some k → bv.ownBlock ≠ some k
  below : Below w.heap.size w wr

theorem OSt.next {w : World} {ws : Nat → Int} {m b : List (Int × Int)} {mv bv : Value} {wr wx : World} (h : OSt w ws m b mv bv wr) (hb : Below wr.heap.size wr wx) : OSt w ws m b mv bv wx :=
  ⟨h.box.next hb, own_next h.mrow hb, own_next h.brow hb, h.apart, after h.below hb h.below.size⟩

theorem OSt.cell {w : World} {ws : Nat → Int} {m b : List (Int × Int)} {mv bv : Value} {wr : World} (h : OSt w ws m b mv bv wr) {bl o : Nat} {x : Value} (hb : bl < w.heap.size) (hc : w.cell? ⟨bl, o, none⟩ = some x) : wr.cell? ⟨bl, o, none⟩ = some x :=
  (h.below.cell (p := ⟨bl, o, none⟩) hb).trans hc

/-- Behind an append to the first row. -/
theorem OSt.pushM {w : World} {ws : Nat → Int} {m b : List (Int × Int)} {mv bv v : Value} {wr w1 : World} (h : OSt w ws m b mv bv wr) (c d : Int) (hr : w1.ownsRow (w.heap.size + 1) 42 2 v (m.length + 1) (flat m ++ [.int .i64 c, .int .i64 d])) (hg : wr.grownBy w1 mv.ownBlock)
    (hw : ∀ k, v.ownBlock = some k → mv.ownBlock = some k ∨ k = wr.heap.size) : OSt w ws (m ++ [(c, d)]) b v bv w1 := by
  have hbox := h.box
  have hne : mv.ownBlock ≠ some w.heap.size := fun e => by have := (h.mrow.lt _ e).1; omega
  refine ⟨⟨by have := hg.size; have := hbox.1; omega, fun j x hj => hg.cell (hbox.2 j x hj) (fun e => hne e.symm)⟩, by rw [flat_snoc]; simpa using hr, h.brow.kept hg ?_, ?_, own_below h.mrow hg h.below h.below.size (by omega)⟩
  · cases hb : bv.ownBlock with
    | none => exact .inl rfl
    | some g => exact .inr (fun e => h.apart g e.symm hb)
  · intro k hk hbk
    rcases hw k hk with e | e
    · exact h.apart k e hbk
    · have := (h.brow.lt k hbk).2
      omega
/-- Behind an append to the second row. -/
theorem OSt.pushB {w : World} {ws : Nat → Int} {m b : List (Int × Int)} {mv bv v : Value} {wr w1 : World} (h : OSt w ws m b mv bv wr) (c d : Int) (hr : w1.ownsRow (w.heap.size + 1) 42 2 v (b.length + 1) (flat b ++ [.int .i64 c, .int .i64 d])) (hg : wr.grownBy w1 bv.ownBlock)
    (hw : ∀ k, v.ownBlock = some k → bv.ownBlock = some k ∨ k = wr.heap.size) : OSt w ws m (b ++ [(c, d)]) mv v w1 := by
  have hbox := h.box
  have hne : bv.ownBlock ≠ some w.heap.size := fun e => by have := (h.brow.lt _ e).1; omega
  refine ⟨⟨by have := hg.size; have := hbox.1; omega, fun j x hj => hg.cell (hbox.2 j x hj) (fun e => hne e.symm)⟩, h.mrow.kept hg ?_, by rw [flat_snoc]; simpa using hr, ?_, own_below h.brow hg h.below h.below.size (by omega)⟩
  · cases hb : mv.ownBlock with
    | none => exact .inl rfl
    | some g => exact .inr (fun e => h.apart g hb e.symm)
  · intro k hk hbk
    rcases hw k hbk with e | e
    · exact h.apart k hk e
    · have := (h.mrow.lt k hk).2
      omega

theorem want_lies {W : World} {H : Nat} {x y : Value} (h0 : W.cell? ⟨H, 0, none⟩ = some x) (h1 : W.cell? ⟨H, 1, none⟩ = some y) : ∀ j u, [x, y][j]? = some u → W.cell? ((⟨H, 0, none⟩ : Addr).add j) = some u := by
  intro j u hj
  match j, hj with
  | 0, hj => simp at hj; subst hj; simpa [Addr.add] using h0
  | 1, hj => simp at hj; subst hj; simpa [Addr.add] using h1
  | j + 2, hj => simp at hj

theorem drop_pred {l : List (Int × Int)} {k : Nat} {c d : Int} (h : l[k]? = some (c, d)) : (l.drop k).reverse = (l.drop (k + 1)).reverse ++ [(c, d)] := by
  rw [drop_cons h, List.reverse_cons]
theorem bks_pred {l : List (Int × Int)} {k : Nat} {c d : Int} (h : l[k]? = some (c, d)) : bks (l.drop k) = bks (l.drop (k + 1)) ++ [(c, IntKind.i64.wrap (-d))] := by
  unfold bks
  rw [drop_cons h, List.map_cons, List.reverse_cons]
  rfl

set_option maxRecDepth 100000 in
set_option maxHeartbeats 4000000 in
theorem porder_walk (ws : Nat → Int) (la : Option Addr) (ll lc : Nat) (l : List (Int × Int)) (w : World) (hl : WantsAt w la l) (hll : l.length = ll) :
    Calls Try.prog 8 #[.slice la ll lc, .agg #[.int .i64 (ws 0), .int .i64 (ws 1), .int .i64 (ws 2), .int .i64 (ws 3), .int .i64 (ws 4), .int .i64 (ws 5)]] w fun e w' => e = .returned (.bool true) ∧ Below w.heap.size w w' := by
  obtain ⟨i0, hi, hz0, hz1, hz2⟩ := info_parts infoWant
  by_cases h50 : 50 < ll
  · have k1 : (50 : Int) < (ll : Int) := by omega
    clear hl hll h50
    go_enter Try.func8, Try.ntmps8
    go_wp2_with fail
    refine (pbegun_any _).mono ?_
    rintro e w1 ⟨rfl, hb1⟩
    go_wp2_with fail
    go_ret
    exact ⟨rfl, after (by go_grown) hb1 (by simp)⟩
  have k1 : (ll : Int) ≤ 50 := by omega
  have k2 : decide ((50 : Int) < (ll : Int)) = false := by simp; omega
  go_enter Try.func8, Try.ntmps8
  go_wp2_with fail
  refine (pbegun_any _).mono ?_
  rintro e w1 ⟨rfl, hb1⟩
  have hX1 := (BoxAt.new w [.int .i64 (ws 0), .int .i64 (ws 1), .int .i64 (ws 2), .int .i64 (ws 3), .int .i64 (ws 4), .int .i64 (ws 5)] 39).next hb1
  have hw1 : Below w.heap.size w w1 := after (by go_grown) hb1 (by simp)
  clear hb1
  go_wp2_with fail
  go_loopg [5, 6, 7] ll (fun g mv bv i wr => ∃ k : Nat, k ≤ ll ∧ g = k ∧ i = .int .i64 ((k : Int) - 1) ∧ OSt w ws (l.drop k).reverse (bks (l.drop k)) mv bv wr)
  case atStart =>
    refine ⟨ll, Nat.le_refl _, rfl, rfl, ?_⟩
    rw [List.drop_of_length_le (l := l) (by omega)]
    exact ⟨hX1, World.ownsRow_nil _ _ _ _, World.ownsRow_nil _ _ _ _, by simp [Value.ownBlock], hw1⟩
  case round =>
    obtain ⟨k, hk, hgk, rfl, hS⟩ := hrel
    clear hX1 hw1
    by_cases hpos : 0 < k
    · obtain ⟨k, rfl⟩ : ∃ j, k = j + 1 := ⟨k - 1, by omega⟩
      have e0 : ((k + 1 : Nat) : Int) - 1 = (k : Int) := by omega
      rw [e0]
      obtain ⟨⟨c, d⟩, hkl⟩ : ∃ x, l[k]? = some x := ⟨_, List.getElem?_eq_getElem (by omega)⟩
      obtain ⟨bl, ol, rfl, hbl, hcl, hdl⟩ := hl k c d hkl
      have j0 : (0 : Int) ≤ (k : Int) := by omega
      have j1 : (k : Int) < (ll : Int) := by omega
      have hcl' := hS.cell hbl hcl
      have hdl' := hS.cell hbl hdl
      have HS : Hid _ := hS
      have HL1 : Hid ((l.drop (k + 1)).reverse.length ≤ 50) := by show _ ≤ _; simp; omega
      have HL2 : Hid ((bks (l.drop (k + 1))).length ≤ 50) := by show _ ≤ _; simp [bks]; omega
      have hz := hS.below.size
      have hzb := hS.box.1
      have HR : Hid _ := drop_pred hkl
      have HR2 : Hid _ := bks_pred hkl
      clear hl e0 hS
      go_wp2_with (at_builtin; refine list_append_two rfl (.tmp 26) (.tmp 31) 37 rfl (w.heap.size + 1) 42 i0 (.agg #[.int .i64 0, .int .i64 0]) 2 16 Try.underlying37 hi hz0 hz1 hz2 rfl (by decide) _ _ _ rfl (HS.out.mrow.alloc _) ⟨wr.heap.size, 0, none⟩ 1 1 [.int .i64 c, .int .i64 d] rfl rfl (want_new _ (by simp)) want_cell (by have := HL1.out; unfold maxLen; omega) (by have := HL1.out; omega) (by simp; omega) (by decide) ?_; intro v7 w7 hown7 hgrow7 hwh7)
      have hS7 := (HS.out.next ((Below.refl _ _).alloc (Nat.le_refl _) (.cells #[.int .i64 c, .int .i64 d] 42))).pushM c d hown7 hgrow7 hwh7
      rw [← HR.out] at hS7
      have HS7 : Hid _ := hS7
      have p0 := hS7.cell hbl hcl
      have p1 := hS7.cell hbl hdl
      have hz7 := hS7.below.size
      have hzb7 := hS7.box.1
      clear hS7 hown7 hgrow7 hwh7 HS hcl' hdl' hcl hdl hz hzb HR
      have HK : Hid (∀ w', Below w7.heap.size w7 w' → w'.cell? ⟨bl, ol + k * 2, none⟩ = some (.int .i64 c) ∧ w'.cell? ⟨bl, ol + k * 2 + 1, none⟩ = some (.int .i64 d)) := fun w' hb => ⟨((bcell hb).1 _ _ (by omega)).trans p0, ((bcell hb).1 _ _ (by omega)).trans p1⟩
      have hbl7 : bl < w7.heap.size := by omega
      obtain ⟨nd, hnd⟩ : ∃ nd, IntKind.i64.wrap (-d) = nd := ⟨_, rfl⟩
      go_region_held3 (fun w' => w'.cell? ⟨bl, ol + k * 2, none⟩ = some (.int .i64 c) ∧ w'.cell? ⟨bl, ol + k * 2 + 1, none⟩ = some (.int .i64 d))
        (first | exact hk8 | exact HK.out _ (by go_grown))
        (first | (refine step_append_two (by rfl) (.tmp 33) (.tmp 46) 37 (by rfl) (w.heap.size + 1) 42 i0 (.agg #[.int .i64 0, .int .i64 0]) 2 16 Try.underlying37 hi hz0 hz1 hz2 rfl (by decide) u6 _ _ (by simp [Act.eval]) (own_next HS7.out.brow (by go_grown)) ⟨w7.heap.size, 0, none⟩ 1 1 [.int .i64 c, .int .i64 nd] (by simp [Act.eval]) rfl (want_lies (by simp [go_sem]) (by simp [go_sem])) want_cell (by have := HL2.out; unfold maxLen; omega) (by have := HL2.out; omega) (by simp; omega) (by decide) ?_; intro v8 w8 hown8 hgrow8 hwh8; have hk8 : w8.cell? ⟨bl, ol + k * 2, none⟩ = some (.int .i64 c) ∧ w8.cell? ⟨bl, ol + k * 2 + 1, none⟩ = some (.int .i64 d) := ⟨hgrow8.cell (by simp [go_sem, p0, hbl7]) (fun e => by have q : w.heap.size + 1 ≤ bl := (HS7.out.brow.lt _ e.symm).1; omega), hgrow8.cell (by simp [go_sem, p1, hbl7]) (fun e => by have q : w.heap.size + 1 ≤ bl := (HS7.out.brow.lt _ e.symm).1; omega)⟩))
      have hS8 := (HS7.out.next (by go_grown)).pushB c nd hown8 hgrow8 hwh8
      rw [← hnd, ← HR2.out] at hS8
      clear hown8 hgrow8 hwh8 hk8 HS7 HK hnd
      go_wp2_with fail
      go_roundg k
      case measure => omega
      case rel => exact ⟨k, by omega, rfl, rfl, hS8⟩
    · obtain rfl : k = 0 := by omega
      rw [List.drop_zero] at hS
      obtain ⟨ma, mc, rfl, hM, hml⟩ := wants_of_own hS.mrow
      obtain ⟨ba, bc, rfl, hBk, hbl⟩ := wants_of_own hS.brow
      have hX := hS.box
      have hw := hS.below
      clear hS
      have HA : Hid (∀ W : World, Below w.heap.size w W → _) := fun W h => apply_any ws la ll lc l W (hl.below h (Nat.le_refl _)) hll
      have HB : Hid (∀ W : World, Below wr.heap.size wr W → _) := fun W h => apply_any ws ma ll mc l.reverse W (hM.below h (Nat.le_refl _)) (by rw [List.length_reverse]; exact hll)
      have HC : Hid (∀ W : World, Below wr.heap.size wr W → _) := fun W h => apply_any (appW ws l).1 ba _ bc (bks l) W (hBk.below h (Nat.le_refl _)) hbl
      have HE1 : Hid _ := app_reverse ws l
      have HE2 : Hid _ := app_reverse_code ws l
      obtain ⟨ra, hra⟩ : ∃ ra, ra = appW ws l := ⟨_, rfl⟩
      obtain ⟨rb, hrb⟩ : ∃ rb, rb = appW ws l.reverse := ⟨_, rfl⟩
      obtain ⟨rd, hrd⟩ : ∃ rd, rd = appW (appW ws l).1 (bks l) := ⟨_, rfl⟩
      rw [← hrd] at HC
      rw [← hra] at HA HC HE1 HE2
      rw [← hrb] at HB HE1 HE2
      have HB' : Hid (∀ W : World, Below wr.heap.size wr W → _) := HB.out
      rw [HE1.out] at HB'
      have HRA : Hid _ := hra
      have HRD : Hid _ := hrd
      clear hra hrb hrd HB hM hBk hl
      have hq := eq6
      have x0 := hX.2 0 _ rfl
      have x1 := hX.2 1 _ rfl
      have x2 := hX.2 2 _ rfl
      have x3 := hX.2 3 _ rfl
      have x4 := hX.2 4 _ rfl
      have x5 := hX.2 5 _ rfl
      have hxl := hX.1
      go_wp2_with fail
      refine (HA.out _ hw).mono ?_
      rintro e w2 ⟨rfl, hb2⟩
      have hX2 := hX.next hb2
      have hw2 := after hw hb2 hw.size
      have hr2 := hb2
      clear hb2 hX hw x0 x1 x2 x3 x4 x5 HA hxl
      have x0 := hX2.2 0 _ rfl
      have x1 := hX2.2 1 _ rfl
      have x2 := hX2.2 2 _ rfl
      have x3 := hX2.2 3 _ rfl
      have x4 := hX2.2 4 _ rfl
      have x5 := hX2.2 5 _ rfl
      have hxl := hX2.1
      go_wp2_with fail
      obtain ⟨hY, hG, q1⟩ := pair_new w2 [.int .i64 (ra.1 0), .int .i64 (ra.1 1), .int .i64 (ra.1 2), .int .i64 (ra.1 3), .int .i64 (ra.1 4), .int .i64 (ra.1 5)] [.int .i64 ra.2.1, .int .i64 ra.2.2] 39 44
      have hX3 := hX2.next q1
      have hw3 := after hw2 q1 hw2.size
      have hr3 := after hr2 q1 hr2.size
      clear q1 hX2 hw2 hr2 x0 x1 x2 x3 x4 x5 hxl
      generalize (w2.alloc (.cells #[.int .i64 (ra.1 0), .int .i64 (ra.1 1), .int .i64 (ra.1 2), .int .i64 (ra.1 3), .int .i64 (ra.1 4), .int .i64 (ra.1 5)] 39)).alloc (.cells #[.int .i64 ra.2.1, .int .i64 ra.2.2] 44) = W3 at hY hG hX3 hw3 hr3 ⊢
      generalize w2.heap.size = b2 at hY hG ⊢
      have x0 := hX3.2 0 _ rfl
      have x1 := hX3.2 1 _ rfl
      have x2 := hX3.2 2 _ rfl
      have x3 := hX3.2 3 _ rfl
      have x4 := hX3.2 4 _ rfl
      have x5 := hX3.2 5 _ rfl
      have hxl := hX3.1
      refine (HB'.out _ hr3).mono ?_
      rintro e w4 ⟨rfl, hb4⟩
      have hX4 := hX3.next hb4
      have hY4 := hY.next hb4
      have hG4 := hG.next hb4
      have hw4 := after hw3 hb4 hw3.size
      have hr4 := after hr3 hb4 hr3.size
      clear hb4 hX3 hw3 hr3 x0 x1 x2 x3 x4 x5 hxl hY hG HB'
      go_upto_region 13 with fail
      obtain ⟨hYb, hGb, q1⟩ := pair_new w4 [.int .i64 (ra.1 0), .int .i64 (ra.1 1), .int .i64 (ra.1 2), .int .i64 (ra.1 3), .int .i64 (ra.1 4), .int .i64 (ra.1 5)] [.int .i64 rb.2.1, .int .i64 rb.2.2] 39 44
      have hX5 := hX4.next q1
      have hY5 := hY4.next q1
      have hG5 := hG4.next q1
      have hw5 := after hw4 q1 hw4.size
      have hr5 := after hr4 q1 hr4.size
      clear q1 hX4 hw4 hr4 hY4 hG4
      generalize (w4.alloc (.cells #[.int .i64 (ra.1 0), .int .i64 (ra.1 1), .int .i64 (ra.1 2), .int .i64 (ra.1 3), .int .i64 (ra.1 4), .int .i64 (ra.1 5)] 39)).alloc (.cells #[.int .i64 rb.2.1, .int .i64 rb.2.2] 44) = W5 at hYb hGb hX5 hY5 hG5 hw5 hr5 ⊢
      generalize w4.heap.size = b4 at hYb hGb ⊢
      have f0 := hG5.2 0 _ rfl
      have f1 := hG5.2 1 _ rfl
      have g0 := hGb.2 0 _ rfl
      have g1 := hGb.2 1 _ rfl
      have y0 := hY5.2 0 _ rfl
      have y1 := hY5.2 1 _ rfl
      have y2 := hY5.2 2 _ rfl
      have y3 := hY5.2 3 _ rfl
      have y4 := hY5.2 4 _ rfl
      have y5 := hY5.2 5 _ rfl
      have z0 := hYb.2 0 _ rfl
      have z1 := hYb.2 1 _ rfl
      have z2 := hYb.2 2 _ rfl
      have z3 := hYb.2 3 _ rfl
      have z4 := hYb.2 4 _ rfl
      have z5 := hYb.2 5 _ rfl
      by_cases h0 : ra.2.1 = 0
      · have h1 : rb.2.1 = 0 := HE2.out.2 h0
        have h0' : (ra.2.1 == 0) = true := by simp [h0]
        have h1' : (rb.2.1 == 0) = true := by simp [h1]
        have h0'' : (ra.2.1 != 0) = false := by simp [h0]
        have hcan : Can ws l := can_app (by rw [← HRA.out]; exact h0)
        have hrd : rd = (ws, 0, 0) := by rw [HRD.out, app_can hcan]; exact hcan.undo
        subst hrd
        clear h0 h1 HRA HRD HE1 HE2 hcan
        go_wp2_with fail
        refine (HC.out _ hr5).mono ?_
        rintro e w6 ⟨rfl, hb6⟩
        have hX6 := hX5.next hb6
        have hw6 := after hw5 hb6 hw5.size
        clear hb6 hX5 hY5 hG5 hw5 hr5 hYb hGb f0 f1 g0 g1 y0 y1 y2 y3 y4 y5 z0 z1 z2 z3 z4 z5 HC
        have hxl := hX6.1
        have x0 := hX6.2 0 _ rfl
        have x1 := hX6.2 1 _ rfl
        have x2 := hX6.2 2 _ rfl
        have x3 := hX6.2 3 _ rfl
        have x4 := hX6.2 4 _ rfl
        have x5 := hX6.2 5 _ rfl
        go_wp2_with fail
        go_ret
        refine ⟨rfl, ?_⟩
        have := hw6.size
        go_grown
      · have h1 : ¬ rb.2.1 = 0 := fun e => h0 (HE2.out.1 e)
        have h0' : (ra.2.1 == 0) = false := by simpa using h0
        have h1' : (rb.2.1 == 0) = false := by simpa using h1
        have h0'' : (ra.2.1 != 0) = true := by simpa using h0
        have hno : ra.1 = noW := by rw [HRA.out]; exact app_noW (by rw [← HRA.out]; exact h0)
        clear h0 h1 HRA HRD HE1 HE2 HC
        rw [hno] at y0 y1 y2 y3 y4 y5 z0 z1 z2 z3 z4 z5
        change W5.cell? _ = some (.int .i64 0) at y0 y1 y2 y3 y4 y5 z0 z1 z2 z3 z4 z5
        clear hno
        go_wp2_with fail
        go_ret
        exact ⟨rfl, hw5⟩

end Go.Proofs.Ytbgnajcmhmpjlaa
