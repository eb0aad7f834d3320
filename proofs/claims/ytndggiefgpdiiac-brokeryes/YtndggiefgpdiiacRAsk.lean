/- The contracts of a deal's asks and ends. -/
import Derived.Test.YtndggiefgpdiiacRIdx
import Derived.Test.YtndggiefgpdiiacMSame
import Derived.Deep.RegionHeld3
namespace Go.Proofs.Ytndggiefgpdiiac
open Go.RowKit

theorem held_at (D : Dl) (v : Value) (k : Nat) (hk : k < 4) : (dcells (D, v))[2 + k]? = some (.bool (decide ((k : Int) ∈ D.yes))) := by
  have : k = 0 ∨ k = 1 ∨ k = 2 ∨ k = 3 := by omega
  rcases this with rfl | rfl | rfl | rfl <;> rfl
theorem over_at (D : Dl) (v : Value) (k : Nat) (hk : k < 3) : (dcells (D, v))[6 + k]? = some (.bool (decide ((k : Int) ∈ D.ov))) := by
  have : k = 0 ∨ k = 1 ∨ k = 2 := by omega
  rcases this with rfl | rfl | rfl <;> rfl

set_option maxHeartbeats 4000000 in
set_option maxRecDepth 100000 in
theorem rasks_any (D : Dl) (n : Int) (la : Option Addr) (lc : Nat) (w : World) (hl : WantsAt w la D.w) (hlen : D.w.length ≤ 4) :
    Calls Try.prog 20 #[.agg #[.slice la D.w.length lc, .int .i64 D.st, .bool (decide ((0 : Int) ∈ D.yes)), .bool (decide ((1 : Int) ∈ D.yes)), .bool (decide ((2 : Int) ∈ D.yes)), .bool (decide ((3 : Int) ∈ D.yes)), .bool (decide ((0 : Int) ∈ D.ov)), .bool (decide ((1 : Int) ∈ D.ov)), .bool (decide ((2 : Int) ∈ D.ov))], .int .i64 n] w fun e w' => (∃ v, e = .returned v ∧ w'.ownsRow w.heap.size 37 6 v (asksR n D.yes 0 D.w).length (flat6 (asksR n D.yes 0 D.w))) ∧ Below w.heap.size w w' := by
  obtain ⟨i0, hi, hz0, hz1, hz2⟩ := info_parts infoMail
  have HLen : Hid (D.w.length ≤ 4) := hlen
  go_enter Try.func20, Try.ntmps20
  go_upto_region 1 with fail
  have hX := BoxAt.new w (dcells (D, .slice la D.w.length lc)) 53
  have hb1 : Below w.heap.size w (w.alloc (.cells (dcells (D, .slice la D.w.length lc)).toArray 53)) := (Below.refl _ _).alloc (Nat.le_refl _) _
  change BoxAt (w.alloc (.cells #[.slice la D.w.length lc, .int .i64 D.st, .bool (decide ((0 : Int) ∈ D.yes)), .bool (decide ((1 : Int) ∈ D.yes)), .bool (decide ((2 : Int) ∈ D.yes)), .bool (decide ((3 : Int) ∈ D.yes)), .bool (decide ((0 : Int) ∈ D.ov)), .bool (decide ((1 : Int) ∈ D.ov)), .bool (decide ((2 : Int) ∈ D.ov))] 53)) _ _ at hX
  change Below _ _ (w.alloc (.cells #[.slice la D.w.length lc, .int .i64 D.st, .bool (decide ((0 : Int) ∈ D.yes)), .bool (decide ((1 : Int) ∈ D.yes)), .bool (decide ((2 : Int) ∈ D.yes)), .bool (decide ((3 : Int) ∈ D.yes)), .bool (decide ((0 : Int) ∈ D.ov)), .bool (decide ((1 : Int) ∈ D.ov)), .bool (decide ((2 : Int) ∈ D.ov))] 53)) at hb1
  generalize (w.alloc (.cells #[.slice la D.w.length lc, .int .i64 D.st, .bool (decide ((0 : Int) ∈ D.yes)), .bool (decide ((1 : Int) ∈ D.yes)), .bool (decide ((2 : Int) ∈ D.yes)), .bool (decide ((3 : Int) ∈ D.yes)), .bool (decide ((0 : Int) ∈ D.ov)), .bool (decide ((1 : Int) ∈ D.ov)), .bool (decide ((2 : Int) ∈ D.ov))] 53)) = w1 at hX hb1 ⊢
  generalize w.heap.size = B0 at hX ⊢
  have HL : Hid (WantsAt w1 la D.w) := hl.below hb1 (Nat.le_refl _)
  have HB1 : Hid _ := hb1
  have x0 := hX.2 0 _ rfl
  clear hl hb1
  go_wp2_with fail
  go_loopg [5, 6, 7, 11] D.w.length (fun g s5 _ _ s11 wr => ∃ (k : Nat) (v5 : Value), k ≤ D.w.length ∧ g = D.w.length - k ∧ v5 = s5 ∧ s11 = .int .i64 k ∧ wr.ownsRow w1.heap.size 37 6 v5 (asksTo n D.yes D.w k).length (flat6 (asksTo n D.yes D.w k)) ∧ Below w1.heap.size w1 wr)
  case atStart => exact ⟨0, _, Nat.zero_le _, rfl, rfl, rfl, by rw [asksTo_zero]; exact World.ownsRow_nil _ _ _ _, Below.refl _ _⟩
  case round =>
    obtain ⟨k, v5, hk, rfl, rfl, rfl, hown, hS⟩ := hrel
    clear x0
    by_cases hlt : k < D.w.length
    · obtain ⟨⟨c, d⟩, hkl⟩ : ∃ x, D.w[k]? = some x := ⟨_, List.getElem?_eq_getElem hlt⟩
      obtain ⟨bl, ol, rfl, hbl, h0, h1⟩ := HL.out k c d hkl
      have j0 : (0 : Int) ≤ (k : Int) := by omega
      have j1 : (k : Int) < (D.w.length : Int) := by omega
      have j2 : (k : Int) < 4 := by omega
      have p0 : wr.cell? ⟨bl, ol + k * 2, none⟩ = some (.int .i64 c) := (hS.cell (p := ⟨bl, _, none⟩) hbl).trans h0
      have p1 : wr.cell? ⟨bl, ol + k * 2 + 1, none⟩ = some (.int .i64 d) := (hS.cell (p := ⟨bl, _, none⟩) hbl).trans h1
      have HOw : Hid (wr.ownsRow w1.heap.size 37 6 v5 (asksTo n D.yes D.w k).length (flat6 (asksTo n D.yes D.w k))) := hown
      have HKL : Hid (k < D.w.length) := hlt
      have HKX : Hid (D.w[k]? = some (c, d)) := hkl
      clear hown hk hlt hkl h0 h1 hlen
      go_upto_region 5 with fail
      have hb2 : Below wr.heap.size wr (wr.alloc (.cells #[.int .i64 c, .int .i64 d] 35)) := (Below.refl _ _).alloc (Nat.le_refl _) _
      have hY := BoxAt.new wr [.int .i64 c, .int .i64 d] 35
      change BoxAt (wr.alloc (.cells #[.int .i64 c, .int .i64 d] 35)) _ _ at hY
      have HOw2 : Hid ((wr.alloc (.cells #[.int .i64 c, .int .i64 d] 35)).ownsRow w1.heap.size 37 6 v5 (asksTo n D.yes D.w k).length (flat6 (asksTo n D.yes D.w k))) := own_next HOw.out hb2
      have hS2 : Below w1.heap.size w1 (wr.alloc (.cells #[.int .i64 c, .int .i64 d] 35)) := after hS hb2 hS.size
      have HNB : Hid (v5.ownBlock ≠ some wr.heap.size) := fun e => by have := (HOw.out.lt _ e).2; omega
      generalize (wr.alloc (.cells #[.int .i64 c, .int .i64 d] 35)) = w2 at hY HOw2 hS2 ⊢
      generalize wr.heap.size = B2 at hY HNB ⊢
      have q0 : w2.cell? ⟨B0, 2 + k, none⟩ = some (.bool (decide ((k : Int) ∈ D.yes))) := (hX.next hS2).2 _ _ (held_at D _ k (by have := HKL.out; have := HLen.out; omega))
      clear hb2 p0 p1 hS HOw
      by_cases hy : (k : Int) ∈ D.yes
      · rw [decide_eq_true hy] at q0
        have HE : Hid _ := asksTo_hit (n := n) HKX.out hy
        clear hy
        go_wp2_with fail
        go_roundg (D.w.length - (k + 1))
        case measure => have := HKL.out; omega
        case rel => exact ⟨k + 1, v5, HKL.out, rfl, rfl, by simp, by rw [HE.out]; exact HOw2.out, hS2⟩
      · rw [decide_eq_false hy] at q0
        have HE : Hid _ := asksTo_miss (n := n) HKX.out hy
        have y0 := hY.2 0 _ rfl
        have y1 := hY.2 1 _ rfl
        have hy2 := hY.1
        have HLn : Hid ((asksTo n D.yes D.w k).length ≤ 4) := by have := asksTo_len n D.yes D.w k; have := HKL.out; have := HLen.out; show _ ≤ _; omega
        have HSz : Hid (w1.heap.size ≤ w2.heap.size) := hS2.size
        clear hy
        go_upto_region 6 with fail
        have HK : Hid (∀ w', Below w2.heap.size w2 w' → w'.cell? ⟨B2, 0, none⟩ = some (.int .i64 c) ∧ w'.cell? ⟨B2, 1, none⟩ = some (.int .i64 d)) := fun w' hb => ⟨((bcell hb).1 _ _ hy2).trans y0, ((bcell hb).1 _ _ hy2).trans y1⟩
        go_region_held3 (fun w' => w'.cell? ⟨B2, 0, none⟩ = some (.int .i64 c) ∧ w'.cell? ⟨B2, 1, none⟩ = some (.int .i64 d))
          (first | exact HK9 | exact HK.out _ (by go_grown))
          (first | (refine step_append_two (by rfl) (.tmp 21) (.tmp 28) 41 (by rfl) w1.heap.size 37 i0 (.agg #[.int .i64 0, .int .i64 0, .int .i64 0, .int .i64 0, .int .i64 0, .bool false]) 6 48 Try.underlying41 hi hz0 hz1 hz2 rfl (by decide) v5 _ _ (by rfl) (own_next HOw2.out (by go_grown)) ⟨w2.heap.size, 0, none⟩ 1 1 [.int .i64 1, .int .i64 n, .int .i64 (shp c), .int .i64 c, .int .i64 d, .bool false] (by rfl) rfl (mail_lies (by simp [go_sem]) (by simp [go_sem]) (by simp [go_sem]) (by simp [go_sem]) (by simp [go_sem]) (by simp [go_sem])) mail_cell (by have := HLn.out; unfold maxLen; omega) (by have := HLn.out; omega) (by have := HSz.out; simp; omega) (by decide) ?_; intro v8 w8 hown8 hgrow8 _; have HO8 : Hid (w8.ownsRow w1.heap.size 37 6 v8 ((asksTo n D.yes D.w k).length + 1) (flat6 (asksTo n D.yes D.w k) ++ [.int .i64 1, .int .i64 n, .int .i64 (shp c), .int .i64 c, .int .i64 d, .bool false])) := hown8; clear hown8; have HK9 : w8.cell? ⟨B2, 0, none⟩ = some (.int .i64 c) ∧ w8.cell? ⟨B2, 1, none⟩ = some (.int .i64 d) := ⟨hgrow8.cell (by simp [go_sem, y0, hy2]) (fun e => HNB.out e.symm), hgrow8.cell (by simp [go_sem, y1, hy2]) (fun e => HNB.out e.symm)⟩; have HG8 : Hid (Below w1.heap.size w1 w8) := own_below (own_next HOw2.out (by go_grown)) hgrow8 (after hS2 (by go_grown) hS2.size) (by have := HSz.out; simp; omega) (Nat.le_refl _); clear hgrow8) | (go_at_call 9; refine (shop_any _ _).mono ?_; rintro e w9 ⟨rfl, rfl⟩))
        all_goals
          go_wp2_with fail
          go_roundg (D.w.length - (k + 1))
          case measure => have := HKL.out; omega
          case rel =>
            refine ⟨k + 1, v8, HKL.out, rfl, rfl, by simp, ?_, HG8.out⟩
            have e1 : (asksTo n D.yes D.w (k + 1)).length = (asksTo n D.yes D.w k).length + 1 := by rw [HE.out]; simp
            have e2 : flat6 (asksTo n D.yes D.w (k + 1)) = flat6 (asksTo n D.yes D.w k) ++ [.int .i64 1, .int .i64 n, .int .i64 (shp c), .int .i64 c, .int .i64 d, .bool false] := by rw [HE.out]; exact flat6_snoc _ _
            rw [e1, e2]
            exact HO8.out
    · have hkk : k = D.w.length := by omega
      subst hkk
      rw [asksTo_all] at hown
      have HOw : Hid (wr.ownsRow w1.heap.size 37 6 v5 (asksR n D.yes 0 D.w).length (flat6 (asksR n D.yes 0 D.w))) := hown
      clear hown
      go_wp2_with fail
      go_ret
      refine ⟨⟨v5, rfl, ?_⟩, HB1.out.trans (hS.mono HB1.out.size)⟩
      refine ⟨HOw.out.1, HOw.out.2.imp id ?_⟩
      rintro ⟨g, cap, cur, h1, h2, h3⟩
      exact ⟨g, cap, cur, h1, Nat.le_trans HB1.out.size h2, h3⟩

theorem shopsL_nat {w : List (Int × Int)} {k : Nat} {s : Int} (h : (shopsL w)[k]? = some s) : ∃ m : Nat, s = (m : Int) ∧ m < 3 := by
  obtain ⟨n, h1, h2, _⟩ := shopsL_mem.1 (List.mem_of_getElem? h)
  exact ⟨n, h1, h2⟩
theorem eq_one {x : Int} : (x == 1) = decide (x = 1) := by
  by_cases h : x = 1
  · simp [h]
  · rw [decide_eq_false h]; simpa using h

set_option maxHeartbeats 4000000 in
set_option maxRecDepth 100000 in
theorem rends_any (D : Dl) (n : Int) (la : Option Addr) (lc : Nat) (w : World) (hl : WantsAt w la D.w) (hlen : D.w.length ≤ 4) :
    Calls Try.prog 21 #[.agg #[.slice la D.w.length lc, .int .i64 D.st, .bool (decide ((0 : Int) ∈ D.yes)), .bool (decide ((1 : Int) ∈ D.yes)), .bool (decide ((2 : Int) ∈ D.yes)), .bool (decide ((3 : Int) ∈ D.yes)), .bool (decide ((0 : Int) ∈ D.ov)), .bool (decide ((1 : Int) ∈ D.ov)), .bool (decide ((2 : Int) ∈ D.ov))], .int .i64 n] w fun e w' => (∃ v, e = .returned v ∧ w'.ownsRow w.heap.size 37 6 v (endsR n D).length (flat6 (endsR n D))) ∧ Below w.heap.size w w' := by
  obtain ⟨i0, hi, hz0, hz1, hz2⟩ := info_parts infoMail
  have HL3 : Hid ((shopsL D.w).length ≤ 3) := shopsTo_length D.w 3
  go_enter Try.func21, Try.ntmps21
  go_upto_region 1 with fail
  have hX := BoxAt.new w (dcells (D, .slice la D.w.length lc)) 53
  have hb1 : Below w.heap.size w (w.alloc (.cells (dcells (D, .slice la D.w.length lc)).toArray 53)) := (Below.refl _ _).alloc (Nat.le_refl _) _
  change BoxAt (w.alloc (.cells #[.slice la D.w.length lc, .int .i64 D.st, .bool (decide ((0 : Int) ∈ D.yes)), .bool (decide ((1 : Int) ∈ D.yes)), .bool (decide ((2 : Int) ∈ D.yes)), .bool (decide ((3 : Int) ∈ D.yes)), .bool (decide ((0 : Int) ∈ D.ov)), .bool (decide ((1 : Int) ∈ D.ov)), .bool (decide ((2 : Int) ∈ D.ov))] 53)) _ _ at hX
  change Below _ _ (w.alloc (.cells #[.slice la D.w.length lc, .int .i64 D.st, .bool (decide ((0 : Int) ∈ D.yes)), .bool (decide ((1 : Int) ∈ D.yes)), .bool (decide ((2 : Int) ∈ D.yes)), .bool (decide ((3 : Int) ∈ D.yes)), .bool (decide ((0 : Int) ∈ D.ov)), .bool (decide ((1 : Int) ∈ D.ov)), .bool (decide ((2 : Int) ∈ D.ov))] 53)) at hb1
  generalize (w.alloc (.cells #[.slice la D.w.length lc, .int .i64 D.st, .bool (decide ((0 : Int) ∈ D.yes)), .bool (decide ((1 : Int) ∈ D.yes)), .bool (decide ((2 : Int) ∈ D.yes)), .bool (decide ((3 : Int) ∈ D.yes)), .bool (decide ((0 : Int) ∈ D.ov)), .bool (decide ((1 : Int) ∈ D.ov)), .bool (decide ((2 : Int) ∈ D.ov))] 53)) = w1 at hX hb1 ⊢
  generalize w.heap.size = B0 at hX ⊢
  have HL : Hid (WantsAt w1 la D.w) := hl.below hb1 (Nat.le_refl _)
  have HB1 : Hid _ := hb1
  have x0 := hX.2 0 _ rfl
  have HSh : Hid _ := shops_any la D.w.length lc D.w w1 HL.out rfl (by omega)
  clear hl hb1 hlen HL
  go_wp2_with fail
  refine Calls.mono HSh.out ?_
  rintro e w2 ⟨⟨ga, cap, rfl, hA⟩, hb2⟩
  have hX2 := hX.next hb2
  have HB2 : Hid (Below w.heap.size w w2) := after HB1.out hb2 HB1.out.size
  have HA : Hid (NumsAt w2 ga (shopsL D.w)) := hA
  clear hX hb2 x0 HSh hA
  go_wp2_with fail
  go_loopg [5, 7, 12] (shopsL D.w).length (fun g s5 _ s12 wr => ∃ (k : Nat) (v5 : Value), k ≤ (shopsL D.w).length ∧ g = (shopsL D.w).length - k ∧ v5 = s5 ∧ s12 = .int .i64 k ∧ wr.ownsRow w2.heap.size 37 6 v5 (endsTo n D k).length (flat6 (endsTo n D k)) ∧ Below w2.heap.size w2 wr)
  case atStart => exact ⟨0, _, Nat.zero_le _, rfl, rfl, rfl, by rw [endsTo_zero]; exact World.ownsRow_nil _ _ _ _, Below.refl _ _⟩
  case round =>
    obtain ⟨k, v5, hk, rfl, rfl, rfl, hown, hS⟩ := hrel
    by_cases hlt : k < (shopsL D.w).length
    · obtain ⟨s, hkl⟩ : ∃ x, (shopsL D.w)[k]? = some x := ⟨_, List.getElem?_eq_getElem hlt⟩
      obtain ⟨bl, ol, rfl, hbl, h0⟩ := HA.out k s hkl
      have j0 : (0 : Int) ≤ (k : Int) := by omega
      have j1 : (k : Int) < ((shopsL D.w).length : Int) := by omega
      have j2 : ((shopsL D.w).length : Int) ≤ 3 := by have := HL3.out; omega
      have p0 : wr.cell? ⟨bl, ol + k, none⟩ = some (.int .i64 s) := (hS.cell (p := ⟨bl, _, none⟩) hbl).trans h0
      have HOw : Hid (wr.ownsRow w2.heap.size 37 6 v5 (endsTo n D k).length (flat6 (endsTo n D k))) := hown
      have HKL : Hid (k < (shopsL D.w).length) := hlt
      obtain ⟨m, rfl, hm⟩ := shopsL_nat hkl
      have HKX : Hid ((shopsL D.w)[k]? = some (m : Int)) := hkl
      have m0 : (0 : Int) ≤ (m : Int) := by omega
      have m3 : (m : Int) < 3 := by omega
      have hX3 := hX2.next hS
      have q0 : wr.cell? ⟨B0, 6 + m, none⟩ = some (.bool (decide ((m : Int) ∈ D.ov))) := hX3.2 _ _ (over_at D _ m hm)
      have q1 : wr.cell? ⟨B0, 1, none⟩ = some (.int .i64 D.st) := hX3.2 1 _ rfl
      clear hown hk hlt hkl h0 hX3
      by_cases hy : (m : Int) ∈ D.ov
      · rw [decide_eq_true hy] at q0
        have HE : Hid _ := endsTo_hit (n := n) HKX.out hy
        clear hy
        go_wp2_with fail
        go_roundg ((shopsL D.w).length - (k + 1))
        case measure => have := HKL.out; omega
        case rel => exact ⟨k + 1, v5, HKL.out, rfl, rfl, by simp, by rw [HE.out]; exact HOw.out, hS⟩
      · rw [decide_eq_false hy] at q0
        have HE : Hid _ := endsTo_miss (n := n) HKX.out hy
        have HLn : Hid ((endsTo n D k).length ≤ 3) := by have := endsTo_len n D k; have := HKL.out; have := HL3.out; show _ ≤ _; omega
        have HSz : Hid (w2.heap.size ≤ wr.heap.size) := hS.size
        clear hy
        go_wp2_with (at_builtin; refine list_append_two rfl (.tmp 21) (.tmp 28) 41 rfl w2.heap.size 37 i0 (.agg #[.int .i64 0, .int .i64 0, .int .i64 0, .int .i64 0, .int .i64 0, .bool false]) 6 48 Try.underlying41 hi hz0 hz1 hz2 rfl (by decide) v5 _ _ rfl (own_next HOw.out (by go_grown)) ⟨wr.heap.size, 0, none⟩ 1 1 [.int .i64 3, .int .i64 n, .int .i64 (m : Int), .int .i64 0, .int .i64 0, .bool (D.st == 1)] rfl rfl (mail_lies (by simp [go_sem]) (by simp [go_sem]) (by simp [go_sem]) (by simp [go_sem]) (by simp [go_sem]) (by simp [go_sem])) mail_cell (by have := HLn.out; unfold maxLen; omega) (by have := HLn.out; omega) (by have := HSz.out; simp; omega) (by decide) ?_; intro v8 w8 hown8 hgrow8 _; have HO8 : Hid (w8.ownsRow w2.heap.size 37 6 v8 ((endsTo n D k).length + 1) (flat6 (endsTo n D k) ++ [.int .i64 3, .int .i64 n, .int .i64 (m : Int), .int .i64 0, .int .i64 0, .bool (D.st == 1)])) := hown8; clear hown8; have HG8 : Hid (Below w2.heap.size w2 w8) := own_below (own_next HOw.out (by go_grown)) hgrow8 (after hS (by go_grown) hS.size) (by have := HSz.out; simp; omega) (Nat.le_refl _); clear hgrow8)
        go_roundg ((shopsL D.w).length - (k + 1))
        case measure => have := HKL.out; omega
        case rel =>
          refine ⟨k + 1, v8, HKL.out, rfl, rfl, by simp, ?_, HG8.out⟩
          have e1 : (endsTo n D (k + 1)).length = (endsTo n D k).length + 1 := by rw [HE.out]; simp
          have e2 : flat6 (endsTo n D (k + 1)) = flat6 (endsTo n D k) ++ [.int .i64 3, .int .i64 n, .int .i64 (m : Int), .int .i64 0, .int .i64 0, .bool (D.st == 1)] := by rw [HE.out]; exact flat6_snoc _ _
          rw [e1, e2]
          exact HO8.out
    · have hkk : k = (shopsL D.w).length := by omega
      subst hkk
      rw [endsTo_all] at hown
      have HOw : Hid (wr.ownsRow w2.heap.size 37 6 v5 (endsR n D).length (flat6 (endsR n D))) := hown
      clear hown
      go_wp2_with fail
      go_ret
      refine ⟨⟨v5, rfl, ?_⟩, HB2.out.trans (hS.mono HB2.out.size)⟩
      refine ⟨HOw.out.1, HOw.out.2.imp id ?_⟩
      rintro ⟨g, cap, cur, h1, h2, h3⟩
      exact ⟨g, cap, cur, h1, Nat.le_trans HB2.out.size h2, h3⟩

end Go.Proofs.Ytndggiefgpdiiac
