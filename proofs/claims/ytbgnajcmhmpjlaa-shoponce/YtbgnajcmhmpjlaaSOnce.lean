/- The walk of ShopOnce: it answers true, whatever shop, world and steps it is given. -/
import Derived.Test.YtbgnajcmhmpjlaaSLive
import Derived.Test.YtbgnajcmhmpjlaaQuiet
import Derived.Deep.CutBlock
namespace Go.Proofs.Ytbgnajcmhmpjlaa
open Go.RowKit

set_option maxHeartbeats 8000000 in
set_option maxRecDepth 100000 in
theorem once_walk (no : Int) (ws : Nat → Int) (la : Option Addr) (ll lc : Nat) (l : List Stp) (w : World) (hl : StepsAt w la l) (hll : l.length = ll) :
    Calls Try.prog 13 #[.int .i64 no, .agg #[.int .i64 (ws 0), .int .i64 (ws 1), .int .i64 (ws 2), .int .i64 (ws 3), .int .i64 (ws 4), .int .i64 (ws 5)], .slice la ll lc] w fun e w' => e = .returned (.bool true) ∧ Below w.heap.size w w' := by
  by_cases hbig : 150 < ll
  · have hbig' : (150 : Int) < (ll : Int) := by omega
    clear hl hll hbig
    go_enter Try.func13, Try.ntmps13
    go_wp2_with fail
    refine (sbegun_any _).mono ?_
    rintro e w1 ⟨rfl, hb1⟩
    go_wp2_with fail
    go_ret
    exact ⟨rfl, after (by go_grown) hb1 (by simp)⟩
  · have hbig' : ¬ (150 : Int) < (ll : Int) := by omega
    have HB : Hid (ll ≤ 150) := by show _ ≤ _; omega
    clear hbig
    go_enter Try.func13, Try.ntmps13
    go_wp2_with fail
    refine (sbegun_any _).mono ?_
    rintro e w1 ⟨rfl, hb1⟩
    have hX := (box_new6 w ws 39).next hb1
    have hb2 : Below w.heap.size w w1 := after (by go_grown) hb1 (by simp)
    have x0 := hX.2 0 _ rfl
    have x1 := hX.2 1 _ rfl
    have x2 := hX.2 2 _ rfl
    have x3 := hX.2 3 _ rfl
    have x4 := hX.2 4 _ rfl
    have x5 := hX.2 5 _ rfl
    clear hb1 hX
    go_wp2_with fail
    refine (snew_any no ws _).mono ?_
    rintro e w2 ⟨hN, hb3⟩
    have hb4 : Below w.heap.size w w2 := after hb2 hb3 hb2.size
    clear x0 x1 x2 x3 x4 x5
    unfold NewIs at hN
    by_cases hok : newOk no ws = true
    · rw [if_pos hok] at hN
      obtain ⟨p, O, rfl, hI, hO⟩ := hN
      have hG0 := good_new hok
      have hL : Live w (fun _ => False) w2 p (book0 no ws) := ⟨⟨O, hI, fun k hk => ⟨Nat.le_trans hb2.size (hO k hk), fun q => q⟩⟩, hb4, fun _ q => q.elim⟩
      have HG0 : Hid (Good (book0 no ws)) := hG0
      clear hI hO hb2 hb3 hok hG0 hb4
      go_wp2_with fail
      go_loopg [8] ll (fun g s8 wr => ∃ (k : Nat) (A : Bk), k ≤ ll ∧ g = ll - k ∧ s8 = .int .i64 k ∧ Live w (fun _ => False) wr p A ∧ Hid (Good A) ∧ Hid (A.hs.length ≤ 2 * k))
      case atStart => exact ⟨0, _, Nat.zero_le _, rfl, rfl, hL, HG0, Nat.le_refl _⟩
      case round =>
        obtain ⟨k, A, hk, rfl, rfl, hL1, HG, HL⟩ := hrel
        clear hL HG0
        by_cases hlt : k < ll
        · obtain ⟨x, hkx⟩ : ∃ x, l[k]? = some x := ⟨_, List.getElem?_eq_getElem (by omega)⟩
          obtain ⟨bl, ol, rfl, hbl, hcell⟩ := hl k x hkx
          have hcell' : ∀ j v, x.cells[j]? = some v → wr.cell? ⟨bl, ol + k * 5 + j, none⟩ = some v := fun j v hj => (hL1.below.cell (p := ⟨bl, _, none⟩) hbl).trans (hcell j v hj)
          have p0 : wr.cell? ⟨bl, ol + k * 5, none⟩ = some (.int .i64 x.what) := hcell' 0 _ rfl
          have p1 : wr.cell? ⟨bl, ol + k * 5 + 1, none⟩ = some (.int .i64 x.deal) := hcell' 1 _ rfl
          have p2 : wr.cell? ⟨bl, ol + k * 5 + 2, none⟩ = some (.int .i64 x.c) := hcell' 2 _ rfl
          have p3 : wr.cell? ⟨bl, ol + k * 5 + 3, none⟩ = some (.int .i64 x.d) := hcell' 3 _ rfl
          have p4 : wr.cell? ⟨bl, ol + k * 5 + 4, none⟩ = some (.bool x.done) := hcell' 4 _ rfl
          have j0 : (0 : Int) ≤ (k : Int) := by omega
          have j1 : (k : Int) < (ll : Int) := by omega
          have HBL : Hid (bl < w.heap.size) := hbl
          have HT : Hid (StepsAt w (some ⟨bl, ol, none⟩) l) := hl
          clear hcell hcell' hl
          go_upto_region 12 with fail
          have hX := BoxAt.new wr x.cells 72
          have hL2 : Live w (fun b => b = wr.heap.size) (wr.alloc (.cells x.cells.toArray 72)) p A := hL1.more ((Below.refl _ _).alloc (Nat.le_refl _) _) (fun b e => .inr (by subst e; simp))
          change Live w _ (wr.alloc (.cells #[.int .i64 x.what, .int .i64 x.deal, .int .i64 x.c, .int .i64 x.d, .bool x.done] _)) p A at hL2
          change BoxAt (wr.alloc (.cells #[.int .i64 x.what, .int .i64 x.deal, .int .i64 x.c, .int .i64 x.d, .bool x.done] _)) _ _ at hX
          generalize (wr.alloc (.cells #[.int .i64 x.what, .int .i64 x.deal, .int .i64 x.c, .int .i64 x.d, .bool x.done] 72)) = W1 at hX hL2 ⊢
          generalize wr.heap.size = bx at hX hL2 ⊢
          clear hL1 p0 p1 p2 p3 p4
          go_upto_block 2 with fail
          go_cut [13] (fun _ wx => Live w (fun b => b = bx) wx p (stepR A x).2 ∧ BoxAt wx bx x.cells)
          case first =>
            go_wp2_with fail
            go_loopg [10] 2 (fun g s10 wx => ∃ (m : Nat) (A' : Bk), m ≤ 2 ∧ g = 2 - m ∧ s10 = .int .i64 m ∧ Live w (fun b => b = bx) wx p A' ∧ BoxAt wx bx x.cells ∧ Hid (Good A') ∧ Hid (A'.hs.length ≤ 2 * k + m) ∧ Hid ((m = 0 ∧ A' = A) ∨ (0 < m ∧ A' = (stepR A x).2 ∧ (stepR A x).1 = 0)))
            case atStart => exact ⟨0, A, by omega, rfl, rfl, hL2, hX, HG, HL, .inl ⟨rfl, rfl⟩⟩
            case round =>
              obtain ⟨m, A', hm, rfl, rfl, hL3, hX3, HG3, HL3, HM⟩ := hrel
              clear hL2 hX
              by_cases hm2 : m < 2
              · have i0 : (m : Int) < 2 := by omega
                have i1 : (0 : Int) ≤ (m : Int) := by omega
                have hl40 : A'.hs.length < 2 ^ 40 := by have := HL3.out; have := HB.out; omega
                go_wp2_with fail
                refine (counts_live hL3).mono ?_
                rintro e w3 ⟨rfl, hL4, hb4⟩
                have hX4 := hX3.next hb4
                clear hL3 hX3 hb4
                go_wp2_with fail
                refine (holds_live hL4 hl40).mono ?_
                rintro e w4 ⟨⟨ga, cap, rfl, hA4, hf4⟩, hL5, hb5⟩
                have hX5 := hX4.next hb5
                have hL5' := hL4.more (K' := fun b => b = bx ∨ ∃ a, ga = some a ∧ b = a.block) hb5 (fun b hb => by
                  rcases hb with rfl | ⟨a, e, rfl⟩
                  · exact .inl rfl
                  · exact .inr (hf4 a e))
                clear hL4 hX4 hL5
                unfold cntV
                go_upto_region 16 with fail
                have hC6 := box_new6 w4 (cnt6 A') 61
                have hb6 : Below w4.heap.size w4 (w4.alloc (.cells #[.int .i64 (cnt6 A' 0), .int .i64 (cnt6 A' 1), .int .i64 (cnt6 A' 2), .int .i64 (cnt6 A' 3), .int .i64 (cnt6 A' 4), .int .i64 (cnt6 A' 5)] 61)) := (Below.refl _ _).alloc (Nat.le_refl _) _
                have hL6 : Live w (fun b => b = bx ∨ b = w4.heap.size ∨ ∃ a, ga = some a ∧ b = a.block) (w4.alloc (.cells #[.int .i64 (cnt6 A' 0), .int .i64 (cnt6 A' 1), .int .i64 (cnt6 A' 2), .int .i64 (cnt6 A' 3), .int .i64 (cnt6 A' 4), .int .i64 (cnt6 A' 5)] 61)) p A' := by
                  refine hL5'.more hb6 (fun b hb => ?_)
                  rcases hb with rfl | rfl | hb
                  · exact .inl (.inl rfl)
                  · exact .inr ⟨Nat.le_refl _, by simp⟩
                  · exact .inl (.inr hb)
                have hX6 := hX5.next hb6
                have hA6 := hA4.below hb6 (Nat.le_refl _)
                generalize (w4.alloc (.cells #[.int .i64 (cnt6 A' 0), .int .i64 (cnt6 A' 1), .int .i64 (cnt6 A' 2), .int .i64 (cnt6 A' 3), .int .i64 (cnt6 A' 4), .int .i64 (cnt6 A' 5)] 61)) = W6 at hC6 hb6 hL6 hX6 hA6 ⊢
                generalize w4.heap.size = bc at hC6 hL6 ⊢
                clear hL5' hX5 hA4 hf4 hb5 hb6
                have y0 : W6.cell? ⟨bx, 0, none⟩ = some (.int .i64 x.what) := hX6.2 0 _ rfl
                have y1 : W6.cell? ⟨bx, 1, none⟩ = some (.int .i64 x.deal) := hX6.2 1 _ rfl
                have y2 : W6.cell? ⟨bx, 2, none⟩ = some (.int .i64 x.c) := hX6.2 2 _ rfl
                have y3 : W6.cell? ⟨bx, 3, none⟩ = some (.int .i64 x.d) := hX6.2 3 _ rfl
                have y4 : W6.cell? ⟨bx, 4, none⟩ = some (.bool x.done) := hX6.2 4 _ rfl
                go_upto_block 4 with fail
                go_cut [13] (fun s13 wx => s13 = .int .i64 (stepR A' x).1 ∧ Live w (fun b => b = bx ∨ b = bc ∨ ∃ a, ga = some a ∧ b = a.block) wx p (stepR A' x).2 ∧ BoxAt wx bx x.cells ∧ BoxAt wx bc [.int .i64 (cnt6 A' 0), .int .i64 (cnt6 A' 1), .int .i64 (cnt6 A' 2), .int .i64 (cnt6 A' 3), .int .i64 (cnt6 A' 4), .int .i64 (cnt6 A' 5)] ∧ HoldsAt wx ga A'.hs)
                case first =>
                  obtain ⟨what, deal, c, d, done⟩ := x
                  dsimp only at *
                  by_cases e0 : what = 0
                  · subst e0
                    have HE : Hid (stepR A' ⟨0, deal, c, d, done⟩ = holdR A' deal c d) := stepR_hold rfl
                    obtain ⟨r, hr⟩ : ∃ r, r = stepR A' ⟨0, deal, c, d, done⟩ := ⟨_, rfl⟩
                    have HR : Hid _ := hr
                    have HE2 : Hid (holdR A' deal c d = (r.1, r.2)) := by show _ = _; rw [HR.out, HE.out]
                    clear hr
                    go_wp2_with fail
                    refine (hold_live hL6 HG3.out.no0 HG3.out.no3 hl40 HE2.out).mono ?_
                    rintro e w7 ⟨rfl, hL7, hS7⟩
                    go_wp2_with fail
                    go_meet
                    case rel => exact ⟨by rw [HR.out], by rw [← HR.out]; exact hL7, hX6.save hS7 (fun q => q (.inl rfl)), hC6.save hS7 (fun q => q (.inr (.inl rfl))), hA6.save hS7 (fun a e q => q (.inr (.inr ⟨a, e, rfl⟩)))⟩
                  · by_cases e1 : what = 1
                    · subst e1
                      clear e0
                      have HE : Hid (stepR A' ⟨1, deal, c, d, done⟩ = endR A' deal done) := stepR_end rfl
                      obtain ⟨r, hr⟩ : ∃ r, r = stepR A' ⟨1, deal, c, d, done⟩ := ⟨_, rfl⟩
                      have HR : Hid _ := hr
                      have HE2 : Hid (endR A' deal done = (r.1, r.2)) := by show _ = _; rw [HR.out, HE.out]
                      clear hr
                      go_wp2_with fail
                      refine (end_live hL6 HG3.out hl40 HE2.out).mono ?_
                      rintro e w7 ⟨rfl, hL7, hS7⟩
                      go_wp2_with fail
                      go_meet
                      case rel => exact ⟨by rw [HR.out], by rw [← HR.out]; exact hL7, hX6.save hS7 (fun q => q (.inl rfl)), hC6.save hS7 (fun q => q (.inr (.inl rfl))), hA6.save hS7 (fun a e q => q (.inr (.inr ⟨a, e, rfl⟩)))⟩
                    · have e0' : (what == 0) = false := by simpa using e0
                      have e1' : (what == 1) = false := by simpa using e1
                      have HE : Hid (stepR A' ⟨what, deal, c, d, done⟩ = (0, A')) := stepR_none e0 e1
                      clear e0 e1
                      go_wp2_with fail
                      go_meet
                      case rel => exact ⟨by rw [HE.out], by rw [HE.out]; exact hL6, hX6, hC6, hA6⟩
                case rest =>
                  obtain ⟨rfl, hL7, hX7, hC7, hA7⟩ := hcut
                  clear hL6 hX6 hC6 hA6 y0 y1 y2 y3 y4
                  have HG7 : Hid (Good (stepR A' x).2) := good_step HG3.out x
                  have HL7 : Hid ((stepR A' x).2.hs.length ≤ 2 * k + (m + 1)) := by have := (step_len A' x).1; have := HL3.out; show _ ≤ _; omega
                  have hl41 : (stepR A' x).2.hs.length < 2 ^ 40 := by have := HL7.out; have := HB.out; omega
                  have HCo : Hid ((stepR A' x).1 ≠ 0 → (stepR A' x).2 = A') := step_code
                  have HMo : Hid (0 < m → (stepR A' x).1 = 0 ∧ (stepR A' x).2 = A') := by
                    intro h0
                    rcases HM.out with ⟨q, _⟩ | ⟨_, q1, q2⟩
                    · omega
                    · subst q1
                      rw [step_again q2]
                      exact ⟨rfl, rfl⟩
                  have HNx : Hid ((stepR A' x).1 = 0 → (0 < m + 1 ∧ (stepR A' x).2 = (stepR A x).2 ∧ (stepR A x).1 = 0)) := by
                    intro h0
                    rcases HM.out with ⟨_, q⟩ | ⟨q0, q1, q2⟩
                    · subst q; exact ⟨by omega, rfl, h0⟩
                    · refine ⟨by omega, ?_, q2⟩
                      rw [(HMo.out q0).2, q1]
                  have HBr : Hid ((stepR A' x).1 ≠ 0 → (stepR A' x).2 = (stepR A x).2) := by
                    intro h0
                    rcases HM.out with ⟨_, q⟩ | ⟨q0, q1, q2⟩
                    · subst q; rfl
                    · exact absurd (HMo.out q0).1 h0
                  generalize stepR A' x = r at *
                  have z0 := hC7.2 0 _ rfl
                  have z1 := hC7.2 1 _ rfl
                  have z2 := hC7.2 2 _ rfl
                  have z3 := hC7.2 3 _ rfl
                  have z4 := hC7.2 4 _ rfl
                  have z5 := hC7.2 5 _ rfl
                  have HC43 : Hid (∀ W : World, Below wc.heap.size wc W → Calls Try.prog 43 #[.pointer (some ⟨p, 0, none⟩)] W fun e w' => e = .returned (.agg #[.int .i64 (cnt6 r.2 0), .int .i64 (cnt6 r.2 1), .int .i64 (cnt6 r.2 2), .int .i64 (cnt6 r.2 3), .int .i64 (cnt6 r.2 4), .int .i64 (cnt6 r.2 5)]) ∧ Below W.heap.size W w') := fun W hW => (counts_live (hL7.next hW)).mono (fun e w' h => ⟨h.1, h.2.2⟩)
                  have HC46 : Hid (∀ W : World, Below wc.heap.size wc W → Calls Try.prog 46 #[.pointer (some ⟨p, 0, none⟩)] W fun e w' => (∃ gb capb, e = .returned (.slice gb r.2.hs.length capb) ∧ HoldsAt w' gb r.2.hs) ∧ Below W.heap.size W w') := fun W hW => (holds_live (hL7.next hW) hl41).mono (fun e w' h => by
                    obtain ⟨⟨gb, capb, e1, e2, _⟩, _, e3⟩ := h
                    exact ⟨⟨gb, capb, e1, e2⟩, e3⟩)
                  have HA7 : Hid (HoldsAt wc ga A'.hs) := hA7
                  have hcl := hC7.1
                  have HLv : Hid (Live w (fun b => b = bx) wc p r.2) := hL7.less (fun b e => .inl e)
                  have HXb : Hid (BoxAt wc bx x.cells) := hX7
                  clear hA7 hL7 hX7
                  go_upto_region 22 with fail
                  go_cut [14] (fun s14 wx => ∃ sm : Bool, s14 = .bool sm ∧ Hid (r.2 = A' → sm = true) ∧ Below wc.heap.size wc wx)
                  case first =>
                    have HK : Hid (∀ w', Below wc.heap.size wc w' → w'.cell? ⟨bc, 0, none⟩ = some (.int .i64 (cnt6 A' 0)) ∧ w'.cell? ⟨bc, 1, none⟩ = some (.int .i64 (cnt6 A' 1)) ∧ w'.cell? ⟨bc, 2, none⟩ = some (.int .i64 (cnt6 A' 2)) ∧ w'.cell? ⟨bc, 3, none⟩ = some (.int .i64 (cnt6 A' 3)) ∧ w'.cell? ⟨bc, 4, none⟩ = some (.int .i64 (cnt6 A' 4)) ∧ w'.cell? ⟨bc, 5, none⟩ = some (.int .i64 (cnt6 A' 5)) ∧ Below wc.heap.size wc w') := fun w' hb => ⟨((bcell hb).1 _ _ hcl).trans z0, ((bcell hb).1 _ _ hcl).trans z1, ((bcell hb).1 _ _ hcl).trans z2, ((bcell hb).1 _ _ hcl).trans z3, ((bcell hb).1 _ _ hcl).trans z4, ((bcell hb).1 _ _ hcl).trans z5, hb⟩
                    clear hC7
                    cases hb : eqB (cnt6 A') (cnt6 r.2)
                    · have hq1 : ∀ W : World, (Op.equalIn 10000 61 (.agg #[.int .i64 (cnt6 A' 0), .int .i64 (cnt6 A' 1), .int .i64 (cnt6 A' 2), .int .i64 (cnt6 A' 3), .int .i64 (cnt6 A' 4), .int .i64 (cnt6 A' 5)]) (.agg #[.int .i64 (cnt6 r.2 0), .int .i64 (cnt6 r.2 1), .int .i64 (cnt6 r.2 2), .int .i64 (cnt6 r.2 3), .int .i64 (cnt6 r.2 4), .int .i64 (cnt6 r.2 5)])).run Try.prog W = .ok false W := fun W => by rw [eqC]; exact congrArg (fun b => Result.ok b W) hb
                      have HF : Hid (r.2 ≠ A') := fun h => by rw [h] at hb; simp [eqB] at hb
                      clear hb
                      refine region_class (C := (fun w' => w'.cell? ⟨bc, 0, none⟩ = some (.int .i64 (cnt6 A' 0)) ∧ w'.cell? ⟨bc, 1, none⟩ = some (.int .i64 (cnt6 A' 1)) ∧ w'.cell? ⟨bc, 2, none⟩ = some (.int .i64 (cnt6 A' 2)) ∧ w'.cell? ⟨bc, 3, none⟩ = some (.int .i64 (cnt6 A' 3)) ∧ w'.cell? ⟨bc, 4, none⟩ = some (.int .i64 (cnt6 A' 4)) ∧ w'.cell? ⟨bc, 5, none⟩ = some (.int .i64 (cnt6 A' 5)) ∧ Below wc.heap.size wc w')) (by kernel_rfl) (by kernel_rfl) (HK.out _ ((Below.refl _ _).drew)) ?_
                      repeat (first
                        | go_big_quiet_skip
                        | (go_big_quiet_want
                           refine q_val (v := ?_) (fun w' hS => ?_) ?_
                           rotate_left
                           focus
                             go_simp
                             all_goals (with_reducible rfl)
                           go_big_quiet_on
                           (try simp only [Act.put, List.setIfInBounds_toArray, List.set_cons_zero, List.set_cons_succ]))
                        | (go_big_quiet_want
                           refine q_call (v := ?_) (f := ?_) (args := ?_) (fun w' hS => ?_) (fun w' hS => ?_) ?_
                           rotate_left 3
                           focus
                             go_simp
                             constructor <;> with_reducible rfl
                           focus
                             go_at_call 43
                             refine Calls.mono (HC43.out _ hS.2.2.2.2.2.2) ?_
                             rintro e w7 ⟨rfl, hb7⟩
                             refine ⟨?_, HK.out _ (after hS.2.2.2.2.2.2 hb7 hS.2.2.2.2.2.2.size)⟩
                             with_reducible rfl
                           go_big_quiet_on
                           (try simp only [Act.put, List.setIfInBounds_toArray, List.set_cons_zero, List.set_cons_succ])))
                      refine wpQuiet_nil ?_
                      intro w8 hC8
                      have hb8 := hC8.2.2.2.2.2.2
                      clear hC8
                      go_wp2_with fail
                      go_meet
                      case rel => exact ⟨false, rfl, fun h => absurd h HF.out, hb8⟩
                    · have hq1 : ∀ W : World, (Op.equalIn 10000 61 (.agg #[.int .i64 (cnt6 A' 0), .int .i64 (cnt6 A' 1), .int .i64 (cnt6 A' 2), .int .i64 (cnt6 A' 3), .int .i64 (cnt6 A' 4), .int .i64 (cnt6 A' 5)]) (.agg #[.int .i64 (cnt6 r.2 0), .int .i64 (cnt6 r.2 1), .int .i64 (cnt6 r.2 2), .int .i64 (cnt6 r.2 3), .int .i64 (cnt6 r.2 4), .int .i64 (cnt6 r.2 5)])).run Try.prog W = .ok true W := fun W => by rw [eqC]; exact congrArg (fun b => Result.ok b W) hb
                      clear hb
                      go_region_held3 (fun w' => w'.cell? ⟨bc, 0, none⟩ = some (.int .i64 (cnt6 A' 0)) ∧ w'.cell? ⟨bc, 1, none⟩ = some (.int .i64 (cnt6 A' 1)) ∧ w'.cell? ⟨bc, 2, none⟩ = some (.int .i64 (cnt6 A' 2)) ∧ w'.cell? ⟨bc, 3, none⟩ = some (.int .i64 (cnt6 A' 3)) ∧ w'.cell? ⟨bc, 4, none⟩ = some (.int .i64 (cnt6 A' 4)) ∧ w'.cell? ⟨bc, 5, none⟩ = some (.int .i64 (cnt6 A' 5)) ∧ Below wc.heap.size wc w')
                        (first | exact HK.out _ (by go_grown))
                        (first | (go_at_call 43; refine Calls.mono (HC43.out _ (by go_grown)) ?_; rintro e w9 ⟨rfl, hb9⟩; have hw9 : Below wc.heap.size wc w9 := after (by go_grown) hb9 (by simp); have hz9 : wc.heap.size ≤ w9.heap.size := hw9.size) | (go_at_call 46; refine Calls.mono (HC46.out _ (by go_grown)) ?_; rintro e w10 ⟨⟨gb, capb, rfl, hAB⟩, hb10⟩; have HAB : Hid (HoldsAt w10 gb r.2.hs) := hAB; clear hAB; have hw10 : Below wc.heap.size wc w10 := after hw9 hb10 hz9; have hz10 : wc.heap.size ≤ w10.heap.size := hw10.size) | (go_at_call 45; refine (sameHolds_any ga gb _ _ _ _ A'.hs r.2.hs _ (HA7.out.below hw10 (Nat.le_refl _)) HAB.out rfl rfl (by omega)).mono ?_; rintro e w11 ⟨rfl, hb11⟩; have hw11 : Below wc.heap.size wc w11 := after hw10 hb11 hz10; have hz11 : wc.heap.size ≤ w11.heap.size := hw11.size))
                      all_goals
                        go_wp2_with fail
                        go_meet
                        case rel => exact ⟨_, rfl, fun h => by rw [h]; exact decide_eq_true rfl, by go_grown⟩
                  case rest =>
                    obtain ⟨sm, rfl, HSm, hb8⟩ := hcut
                    have hL8 := HLv.out.next hb8
                    have hX8 := HXb.out.next hb8
                    clear hC7 z0 z1 z2 z3 z4 z5
                    by_cases he : r.1 = 0
                    · have he' : (r.1 != 0) = false := by simp [he]
                      have HE : Hid _ := he
                      by_cases hm1 : m = 1
                      · have hsm : sm = true := HSm.out (HMo.out (by omega)).2
                        subst hm1
                        subst hsm
                        clear he
                        go_wp2_with fail
                        go_roundg (2 - (1 + 1))
                        case measure => omega
                        case rel => exact ⟨1 + 1, r.2, by omega, rfl, by simp, hL8, hX8, HG7, HL7, .inr (HNx.out HE.out)⟩
                      · have hm0 : m = 0 := by omega
                        subst hm0
                        clear he hm1
                        go_wp2_with fail
                        go_roundg (2 - (0 + 1))
                        case measure => omega
                        case rel => exact ⟨0 + 1, r.2, by omega, rfl, by simp, hL8, hX8, HG7, HL7, .inr (HNx.out HE.out)⟩
                    · have he' : (r.1 != 0) = true := by simpa using he
                      have hsm : sm = true := HSm.out (HCo.out he)
                      have HE : Hid _ := he
                      have hm0 : m = 0 := Nat.eq_zero_of_not_pos (fun q => he (HMo.out q).1)
                      subst hm0
                      subst hsm
                      clear he
                      go_wp2_with fail
                      go_meet
                      case rel => exact ⟨by rw [← HBr.out HE.out]; exact hL8, hX8⟩
              · have hm2' : m = 2 := by omega
                subst hm2'
                have hA2 : Hid (A' = (stepR A x).2) := by
                  rcases HM.out with ⟨q, _⟩ | ⟨_, q, _⟩
                  · omega
                  · exact q
                go_wp2_with fail
                go_meet
                case rel => exact ⟨by rw [← hA2.out]; exact hL3, hX3⟩
          case rest =>
            obtain ⟨hL9, hX9⟩ := hcut
            clear hL2 hX
            have HG9 : Hid (Good (stepR A x).2) := good_step HG.out x
            have HL9 : Hid ((stepR A x).2.hs.length ≤ 2 * (k + 1)) := by have := (step_len A x).1; have := HL.out; show _ ≤ _; omega
            have hl9 : (stepR A x).2.hs.length < 2 ^ 40 := by have := HL9.out; have := HB.out; omega
            have HOv : Hid (x.what = 1 → 0 ≤ x.deal → x.deal < 8 → ∃ b, over (stepR A x).2.es x.deal = some b) := step_over
            generalize (stepR A x).2 = A9 at *
            go_wp2_with fail
            refine (holds_live hL9 hl9).mono ?_
            rintro e w5 ⟨⟨ga, cap, rfl, hA5, _⟩, hL5, hb5⟩
            have hX5 := hX9.next hb5
            clear hL9 hX9 hb5
            have hn9 : (A9.hs.length : Int) < 2 ^ 40 := by omega
            go_wp2_with fail
            go_loopg [16] A9.hs.length (fun g s16 wy => ∃ j : Nat, j ≤ A9.hs.length ∧ g = A9.hs.length - j ∧ s16 = .int .i64 j ∧ Live w (fun b => b = bx) wy p A9 ∧ Below w5.heap.size w5 wy)
            case atStart => exact ⟨0, Nat.zero_le _, rfl, rfl, hL5, Below.refl _ _⟩
            case round =>
              obtain ⟨j, hj, rfl, rfl, hL6, hb6⟩ := hrel
              clear hL5
              by_cases hjl : j < A9.hs.length
              · obtain ⟨⟨a, c, d⟩, hjx⟩ : ∃ x, A9.hs[j]? = some x := ⟨_, List.getElem?_eq_getElem hjl⟩
                obtain ⟨bl2, ol2, rfl, hbl2, q0, _, _⟩ := hA5 j a c d hjx
                have q0' : wr.cell? ⟨bl2, ol2 + j * 3, none⟩ = some (.int .i64 a) := (hb6.cell (p := ⟨bl2, _, none⟩) hbl2).trans q0
                have s0 : (0 : Int) ≤ (j : Int) := by omega
                have s1 : (j : Int) < (A9.hs.length : Int) := by omega
                have hov : ovB A9.es a = false := by
                  have := (HG9.out.each _ (List.mem_of_getElem? hjx)).2.2.2.2
                  simp only at this
                  unfold ovB; rw [this]; rfl
                clear q0 hjx
                go_wp2_with fail
                refine (over_live hL6 HG9.out a).mono ?_
                rw [hov]
                rintro e w7 ⟨rfl, hL7, hb7⟩
                go_wp2_with fail
                go_roundg (A9.hs.length - (j + 1))
                case measure => omega
                case rel => exact ⟨j + 1, by omega, rfl, by simp, hL7, after hb6 hb7 hb6.size⟩
              · have hX6 := hX5.next hb6
                have y1 : wr.cell? ⟨bx, 1, none⟩ = some (.int .i64 x.deal) := hX6.2 1 _ rfl
                go_wp2_with fail
                refine (over_live hL6 HG9.out x.deal).mono ?_
                rintro e w7 ⟨rfl, hL7, hb7⟩
                have hX7 := hX6.next hb7
                clear hL6 hX6 y1 hX5 hb6 hA5
                have y0 : w7.cell? ⟨bx, 0, none⟩ = some (.int .i64 x.what) := hX7.2 0 _ rfl
                have y1 : w7.cell? ⟨bx, 1, none⟩ = some (.int .i64 x.deal) := hX7.2 1 _ rfl
                clear hX7 hb7
                by_cases e1 : x.what = 1
                · have e1' : (x.what == 1) = true := by simpa using e1
                  by_cases d0 : 0 ≤ x.deal
                  · by_cases d8 : x.deal < 8
                    · obtain ⟨b, hb⟩ := HOv.out e1 d0 d8
                      have o1 : ovB A9.es x.deal = true := by unfold ovB; rw [hb]; rfl
                      have o2 : dnB A9.es x.deal = b := by unfold dnB; rw [hb]; cases b <;> rfl
                      have HE9 : Hid (endR A9 x.deal (!b) = (9, A9)) := by show _ = _; rw [endR_over d0 d8 hb]; cases b <;> rfl
                      rw [o1, o2]
                      clear e1 hb o1 o2
                      go_wp2_with fail
                      refine (end_live hL7 HG9.out hl9 HE9.out).mono ?_
                      rintro e w8 ⟨rfl, hL8, _⟩
                      go_wp2_with fail
                      go_roundg (ll - (k + 1))
                      case measure => omega
                      case rel => exact ⟨k + 1, A9, by omega, rfl, by simp, hL8.less (fun _ q => q.elim), HG9, HL9⟩
                    · have d8' : decide (x.deal < 8) = false := decide_eq_false d8
                      have d0' : decide (0 ≤ x.deal) = true := decide_eq_true d0
                      clear e1 d8 d0
                      go_wp2_with fail
                      go_roundg (ll - (k + 1))
                      case measure => omega
                      case rel => exact ⟨k + 1, A9, by omega, rfl, by simp, hL7.less (fun _ q => q.elim), HG9, HL9⟩
                  · have d0' : decide (0 ≤ x.deal) = false := decide_eq_false d0
                    clear e1 d0
                    go_wp2_with fail
                    go_roundg (ll - (k + 1))
                    case measure => omega
                    case rel => exact ⟨k + 1, A9, by omega, rfl, by simp, hL7.less (fun _ q => q.elim), HG9, HL9⟩
                · have e1' : (x.what == 1) = false := by simpa using e1
                  clear e1
                  go_wp2_with fail
                  go_roundg (ll - (k + 1))
                  case measure => omega
                  case rel => exact ⟨k + 1, A9, by omega, rfl, by simp, hL7.less (fun _ q => q.elim), HG9, HL9⟩
        · go_wp2_with fail
          go_ret
          exact ⟨rfl, hL1.below⟩
    · rw [if_neg hok] at hN
      subst hN
      go_wp2_with fail
      go_ret
      exact ⟨rfl, hb4⟩

end Go.Proofs.Ytbgnajcmhmpjlaa
