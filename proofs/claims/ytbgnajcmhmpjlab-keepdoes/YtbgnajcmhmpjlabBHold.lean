/- The contract of the booth's Hold. -/
import Derived.Test.YtbgnajcmhmpjlabBCnt
import Derived.Test.YtbgnajcmhmpjlabSBegun
import Derived.Deep.RegionLaw
namespace Go.Proofs.Ytbgnajcmhmpjlab
open Go.RowKit

theorem BoothRaw.set3 {w : World} {q : Nat} {no v0 v1 : Int} {hv ov dv : Value} (h : BoothRaw w q no v0 v1 hv ov dv) (u : Value) : BoothRaw (w.setCell ⟨q, 3, none⟩ u) q no v0 v1 u ov dv :=
  ⟨by simpa using h.lt, (cell_set_off (by omega)).trans h.c0, (cell_set_off (by omega)).trans h.c1, (cell_set_off (by omega)).trans h.c2, cell_set_same h.c3, (cell_set_off (by omega)).trans h.c4, (cell_set_off (by omega)).trans h.c5, by simpa [go_sem] using h.loose⟩

set_option maxHeartbeats 8000000 in
set_option maxRecDepth 100000 in
theorem bhold_any (O : Nat → Prop) (A : Bk) (q : Nat) (deal c d : Int) (w : World) (h : BoothIn O w q A) (hG : Good A) (hlen : A.hs.length < 2 ^ 40) (hle : A.es.length < 2 ^ 40) :
    Calls Try.prog 87 #[.pointer (some ⟨q, 0, none⟩), .int .i64 deal, .agg #[.int .i64 c, .int .i64 d]] w fun e w' => e = .returned (.int .i64 (holdR A deal c d).1) ∧ ∃ O', BoothIn O' w' q (holdR A deal c d).2 ∧ Save O w w' ∧ Moved O O' w := by
  have HI : Hid (BoothIn O w q A) := h
  have HG : Hid (Good A) := hG
  have hb0 : Below w.heap.size w (w.alloc (.cells #[.int .i64 c, .int .i64 d] 69)) := (Below.refl _ _).alloc (Nat.le_refl _) _
  have HB0 : Hid _ := hb0
  clear hb0 h hG
  by_cases d0 : deal < 0
  · have HE : Hid (holdR A deal c d = (1, A)) := by show _ = _; unfold holdR; rw [if_pos d0]
    go_enter Try.func87, Try.ntmps87
    go_wp2_with fail
    go_ret
    rw [HE.out]
    exact ⟨rfl, O, HI.out.next HB0.out, .of_below HB0.out, .refl _ _⟩
  · by_cases d8 : 8 ≤ deal
    · have HE : Hid (holdR A deal c d = (1, A)) := by show _ = _; unfold holdR; rw [if_neg d0, if_pos d8]
      have dd : decide (deal < 0) = false := decide_eq_false d0
      clear d0
      go_enter Try.func87, Try.ntmps87
      go_wp2_with fail
      go_ret
      rw [HE.out]
      exact ⟨rfl, O, HI.out.next HB0.out, .of_below HB0.out, .refl _ _⟩
    · have dd : decide (deal < 0) = false := decide_eq_false d0
      have de : decide (8 ≤ deal) = false := decide_eq_false d8
      have HD : Hid (0 ≤ deal ∧ deal < 8) := by show _ ∧ _; omega
      clear d0 d8
      go_enter Try.func87, Try.ntmps87
      go_wp2_with fail
      have hW0 := BoxAt.new w [.int .i64 c, .int .i64 d] 69
      change BoxAt (w.alloc (.cells #[.int .i64 c, .int .i64 d] 69)) _ _ at hW0
      refine (wantFault_any c d _).mono ?_
      rintro e w1 ⟨rfl, hb1⟩
      have hW1 := hW0.next hb1
      have hB1 : Below w.heap.size w w1 := after HB0.out hb1 (by simp)
      have hI1 := HI.out.next hB1
      clear hW0 hb1 HB0 HI dd de
      by_cases hw : wnt c d = 0
      · have hw' : (wnt c d != 0) = false := by simp [hw]
        have HW : Hid _ := hw
        obtain ⟨hv, ov, dv, hR, hrow, _⟩ := hI1.raw
        have q0 := hR.c0
        have x0 := hW1.2 0 _ rfl
        clear hw hrow
        by_cases hs : shp c = A.no
        · have hs' : (shp c != A.no) = false := by simp [hs]
          have HS : Hid (shp c = A.no) := hs
          clear hs
          go_upto_region 6 with fail
          go_quiet ((go_at_call 83; exact Calls.quiet_of_same (shopOf_any _ _)))
          have hb2 : Below w1.heap.size w1 (w1.drewN nq) := bdrewN (Below.refl _ _) _
          generalize w1.drewN nq = W2 at hb2 ⊢
          have hW2 := hW1.next hb2
          have hI2 := hI1.next hb2
          have hB2 := after hB1 hb2 hB1.size
          clear hW1 hI1 hB1 hb2 hR q0 x0
          go_wp2_with fail
          refine (bover_any O A q deal W2 hI2 hle).mono ?_
          rintro e w3 ⟨rfl, hb3⟩
          have hW3 := hW2.next hb3
          have hI3 := hI2.next hb3
          have hB3 := after hB2 hb3 hB2.size
          clear hW2 hI2 hB2 hb3
          cases ho : ovB A.es deal
          · have HCh : Hid (chkS A.no A.es deal c d = 0) := by
              show _ = _
              have := HD.out
              unfold chkS; rw [if_neg (by omega), if_neg (by omega), if_pos HW.out, if_pos HS.out, if_neg (by rw [ho]; decide)]
            have y0 := hW3.2 0 _ rfl
            have y1 := hW3.2 1 _ rfl
            go_upto_region 12 with fail
            have hX4 := BoxAt.new w3 [.int .i64 deal, .int .i64 c, .int .i64 d] 92
            change BoxAt (w3.alloc (.cells #[.int .i64 deal, .int .i64 c, .int .i64 d] 92)) _ _ at hX4
            have hb4 : Below w3.heap.size w3 (w3.alloc (.cells #[.int .i64 deal, .int .i64 c, .int .i64 d] 92)) := (Below.refl _ _).alloc (Nat.le_refl _) _
            generalize (w3.alloc (.cells #[.int .i64 deal, .int .i64 c, .int .i64 d] 92)) = W4 at hX4 hb4 ⊢
            generalize w3.heap.size = bx at hX4 ⊢
            have hW4 := hW3.next hb4
            have hI4 := hI3.next hb4
            have hB4 := after hB3 hb4 hB3.size
            clear hW3 hI3 hb4 y0 y1 ho
            obtain ⟨hv, ov, dv, hR4, hrow4, _⟩ := hI4.raw
            obtain ⟨ga, cap, rfl, hA4, _⟩ := holds_of_own hrow4
            clear hrow4
            have hl40 : (A.hs.length : Int) < 2 ^ 40 := by omega
            go_wp2_with fail
            go_loopg [11] A.hs.length (fun g s11 wr => ∃ k : Nat, k ≤ A.hs.length ∧ g = A.hs.length - k ∧ s11 = .int .i64 k ∧ Hid (∀ y ∈ A.hs.take k, same deal c y = false) ∧ Below W4.heap.size W4 wr)
            case atStart => exact ⟨0, Nat.zero_le _, rfl, rfl, by simp [Hid], Below.refl _ _⟩
            case round =>
              obtain ⟨k, hk, rfl, rfl, HN, hb5⟩ := hrel
              have hR5 := hR4.next hb5
              have hX5 := hX4.next hb5
              have hW5 := hW4.next hb5
              have hA5 := hA4.below hb5 (Nat.le_refl _)
              have HI5 : Hid (BoothIn O wr q A) := hI4.next hb5
              have hB5 := after hB4 hb5 hB4.size
              clear hR4 hX4 hW4 hA4 hI4 hB4 hB3
              have c3 := hR5.c3
              have x0 := hX5.2 0 _ rfl
              have x1 := hX5.2 1 _ rfl
              have x2 := hX5.2 2 _ rfl
              have y0 := hW5.2 0 _ rfl
              have y1 := hW5.2 1 _ rfl
              by_cases hkl : k < A.hs.length
              · obtain ⟨⟨a', c', d'⟩, hkx⟩ : ∃ x, A.hs[k]? = some x := ⟨_, List.getElem?_eq_getElem hkl⟩
                obtain ⟨bl, ol, rfl, hbl, p0, p1, p2⟩ := hA5 k a' c' d' hkx
                have j0 : (0 : Int) ≤ (k : Int) := by omega
                have j1 : (k : Int) < (A.hs.length : Int) := by omega
                clear hA5
                cases hsm : same deal c (a', c', d')
                · have HN2 : Hid (∀ y ∈ A.hs.take (k + 1), same deal c y = false) := by
                    intro y hy
                    rw [take_snoc hkx, List.mem_append, List.mem_singleton] at hy
                    rcases hy with hy | rfl
                    · exact HN.out y hy
                    · exact hsm
                  by_cases ha : a' = deal
                  · subst ha
                    have hcc : (c' == c) = false := by simpa [same] using hsm
                    clear hsm
                    go_wp2_with fail
                    go_quiet (fail)
                    go_wp2_with fail
                    go_quiet (fail)
                    go_wp2_with fail
                    go_roundg (A.hs.length - (k + 1))
                    case measure => omega
                    case rel => exact ⟨k + 1, by omega, rfl, by simp, HN2, bdrewN hb5 _⟩
                  · have haa : (a' == deal) = false := by simpa using ha
                    clear hsm ha
                    go_wp2_with fail
                    go_quiet (fail)
                    go_wp2_with fail
                    go_quiet (fail)
                    go_wp2_with fail
                    go_roundg (A.hs.length - (k + 1))
                    case measure => omega
                    case rel => exact ⟨k + 1, by omega, rfl, by simp, HN2, bdrewN hb5 _⟩
                · have HF : Hid (A.hs.find? (same deal c) = some (a', c', d')) := find_at hkx hsm HN.out
                  obtain ⟨rfl, rfl⟩ : a' = deal ∧ c' = c := by simpa [same] using hsm
                  clear hsm
                  by_cases hdd : d' = d
                  · subst hdd
                    go_wp2_with fail
                    go_quiet (fail)
                    go_wp2_with fail
                    go_ret
                    rw [holdR_some HCh.out HF.out]
                    exact ⟨by simp, O, HI5.out.next (bdrewN (Below.refl _ _) _), .of_below (bdrewN hB5 _), .refl _ _⟩
                  · have hde : (d' == d) = false := by simpa using hdd
                    have HDD : Hid _ := hdd
                    clear hdd
                    go_wp2_with fail
                    go_quiet (fail)
                    go_wp2_with fail
                    go_quiet (fail)
                    go_wp2_with fail
                    go_ret
                    rw [holdR_some HCh.out HF.out]
                    exact ⟨by rw [if_neg HDD.out]; rfl, O, HI5.out.next (bdrewN (bdrewN (Below.refl _ _) _) _), .of_below (bdrewN (bdrewN hB5 _) _), .refl _ _⟩
              · have hkk : k = A.hs.length := by omega
                subst hkk
                have HF : Hid (A.hs.find? (same deal c) = none) := find_none (fun y hy => HN.out y (by rw [List.take_of_length_le (Nat.le_refl _)]; exact hy))
                obtain ⟨_, _, hw0, hs0, _⟩ := chkS_zero HCh.out
                obtain ⟨u1, u2, _⟩ := wnt_ok hw0
                obtain ⟨u3, u4, u5⟩ := shp_place u1 u2 hs0
                obtain ⟨m, hm⟩ := Int.eq_ofNat_of_zero_le u4
                have hm2 : m < 2 := by omega
                rw [hm] at u3
                have HM : Hid (c = A.no * 2 + (m : Int)) := u3
                have hcm : c - A.no * 2 = (m : Int) := by omega
                have n0 := HG.out.no0
                have n3 := HG.out.no3
                have c0 := hR5.c0
                have hq5 := hR5.lt
                have hw5 := hW5.1
                have hx5 := hX5.1
                obtain ⟨e0, e1, e2⟩ := cnt6_at A m hm2
                have HH : Hid (∀ W : World, Calls Try.prog 100 #[.agg #[.int .i64 (A.val m), .int .i64 (A.out m), .int .i64 (A.inn m)], .int .i64 d] W fun e w' => e = .returned (.tuple #[.agg #[.int .i64 (hV (A.val m) (A.out m) (A.inn m) d), .int .i64 (hO (A.val m) (A.out m) (A.inn m) d), .int .i64 (hI (A.val m) (A.out m) (A.inn m) d)], .int .i64 (hC (A.val m) (A.out m) (A.inn m) d)]) ∧ Below W.heap.size W w') := fun W => held_any _ _ _ _ W
                have HC44 : Hid (∀ W : World, Below wr.heap.size wr W → Calls Try.prog 19 #[.pointer (some ⟨q, 0, none⟩)] W fun e w' => e = .returned (cntV (cnt6 A)) ∧ Below W.heap.size W w') := fun W hW => bcounts_any O A q W (HI5.out.next hW) HG.out hlen
                have hq1 : ∀ W : World, (Instr.index 36 (cntV (cnt6 A)) (.int .i64 m)).run Try.prog W = .ok (.agg #[.int .i64 (A.val m), .int .i64 (A.out m), .int .i64 (A.inn m)]) W := by
                  intro W
                  rw [← e0, ← e1, ← e2]
                  have : m = 0 ∨ m = 1 := by omega
                  unfold cntV
                  rcases this with rfl | rfl
                  · exact (idx2 _ _ _ _ _ _ W).1
                  · exact (idx2 _ _ _ _ _ _ W).2
                clear hw0 hs0 u3 u4 u5 hm e0 e1 e2 hkl hk HN
                have hm0 : (0 : Int) ≤ (m : Int) := by omega
                have hm1 : (m : Int) < 2 := by omega
                have hr1 : IntKind.i64.wrap (A.no * 2) = A.no * 2 := by go_unwrap
                have hr2 : IntKind.i64.wrap (m : Int) = (m : Int) := by go_unwrap
                go_upto_region 19 with fail
                go_cut [13] (fun s13 wx => s13 = .int .i64 (hC (A.val m) (A.out m) (A.inn m) d) ∧ Below wr.heap.size wr wx)
                case first =>
                  have HK : Hid (∀ w', Below wr.heap.size wr w' → w'.cell? ⟨q, 0, none⟩ = some (.int .i64 A.no) ∧ w'.cell? ⟨w.heap.size, 0, none⟩ = some (.int .i64 c) ∧ w'.cell? ⟨w.heap.size, 1, none⟩ = some (.int .i64 d) ∧ Below wr.heap.size wr w') := fun w' hb => ⟨((bcell hb).1 _ _ hq5).trans c0, ((bcell hb).1 _ _ hw5).trans y0, ((bcell hb).1 _ _ hw5).trans y1, hb⟩
                  clear hR5 hX5 hW5 hA5 c3 x0 x1 x2 hb5 hB5
                  generalize cntV (cnt6 A) = cv at *
                  go_region_held3 (fun w' => w'.cell? ⟨q, 0, none⟩ = some (.int .i64 A.no) ∧ w'.cell? ⟨w.heap.size, 0, none⟩ = some (.int .i64 c) ∧ w'.cell? ⟨w.heap.size, 1, none⟩ = some (.int .i64 d) ∧ Below wr.heap.size wr w')
                    (first | exact HK.out _ (by go_grown))
                    (first
                      | (go_at_call 19; refine Calls.mono (HC44.out _ (by go_grown)) ?_; rintro e w9 ⟨rfl, hb9⟩; have hw9 : Below wr.heap.size wr w9 := after (by go_grown) hb9 (by simp <;> omega); have hz9 : wr.heap.size ≤ w9.heap.size := hw9.size; have hy9 := hb9.size; (try simp [Nat.add_one_le_iff] at hy9); obtain ⟨hc9, hf9⟩ := bcell hb9)
                      | (go_at_call 100; refine Calls.mono (HH.out _) ?_; rintro e w10 ⟨rfl, hb10⟩; have hw10 : Below wr.heap.size wr w10 := after (by go_grown) hb10 (by first | omega | (simp; omega) | simp); have hz10 : wr.heap.size ≤ w10.heap.size := hw10.size; have hy10 := hb10.size; (try simp [Nat.add_one_le_iff] at hy10); obtain ⟨hc10, hf10⟩ := bcell hb10; clear hcm u1 u2 n0 n3 hm0 hm1 hr1 hr2 hq1 hlen hle hl40 hq5 hw5 hx5 c0 y0 y1))
                  all_goals
                    go_wp2_with fail
                    go_meet
                    case rel => exact ⟨rfl, by go_grown⟩
                case rest =>
                  obtain ⟨rfl, hb6⟩ := hcut
                  have HI6 : Hid (BoothIn O wc q A) := HI5.out.next hb6
                  have hX6 := hX5.next hb6
                  have hB6 := after hB5 hb6 hB5.size
                  have HE := holdR_none (A := A) (deal := deal) (d := d) hm2 (by rw [← HM.out]; exact HCh.out) (by rw [← HM.out]; exact HF.out)
                  rw [← HM.out] at HE
                  have HE' : Hid _ := HE
                  generalize hC (A.val m) (A.out m) (A.inn m) d = code at HE' ⊢
                  clear HE hR5 hX5 hW5 hA5 hB5 hb5 hb6 c3 x0 x1 x2 y0 y1 c0 hq5 hw5 hx5 hq1 hcm hr1 hr2 HH HC44 HI5 u1 u2
                  by_cases hz : code = 0
                  · have hz' : (code != 0) = false := by simp [hz]
                    have HZ : Hid _ := hz
                    clear hz
                    obtain ⟨hv6, ov6, dv6, hR6, hrow6, hro6, hrd6, hs1, hs2, hs3, ht1, ht2, ht3⟩ := HI6.out.raw
                    have HOwn : Hid (∀ k, O k → k < wc.heap.size) := HI6.out.own
                    have HMine : Hid (O q) := HI6.out.mine
                    have HRow : Hid (wc.ownsRow (q + 1) 92 3 hv6 A.hs.length (flat3 A.hs)) := hrow6
                    have HRo : Hid (wc.ownsRow (q + 1) 3 1 ov6 A.es.length (nums (ovL A.es))) := hro6
                    have HRd : Hid (wc.ownsRow (q + 1) 3 1 dv6 A.es.length (nums (dnL A.es))) := hrd6
                    have HT : Hid ((∀ k, hv6.ownBlock = some k → O k) ∧ (∀ k, ov6.ownBlock = some k → O k) ∧ (∀ k, dv6.ownBlock = some k → O k) ∧ (∀ k, hv6.ownBlock = some k → ov6.ownBlock ≠ some k) ∧ (∀ k, hv6.ownBlock = some k → dv6.ownBlock ≠ some k) ∧ (∀ k, ov6.ownBlock = some k → dv6.ownBlock ≠ some k)) := ⟨hs1, hs2, hs3, ht1, ht2, ht3⟩
                    have HR6 : Hid (BoothRaw wc q A.no A.v0 A.v1 hv6 ov6 dv6) := hR6
                    have HN1 : Hid (some q ≠ hv6.ownBlock) := fun e => by have := (HRow.out.lt q e.symm).1; omega
                    clear hrow6 hro6 hrd6 hs1 hs2 hs3 ht1 ht2 ht3
                    obtain ⟨i0, hi, hz0, hz1, hz2⟩ := info_parts infoHold
                    have g0 := hR6.c3
                    have f6 := hR6.loose
                    have l6 := hR6.lt
                    have x0 := hX6.2 0 _ rfl
                    have x1 := hX6.2 1 _ rfl
                    have x2 := hX6.2 2 _ rfl
                    have b6 := hX6.1
                    clear hR6 hX6
                    go_upto_region 22 with fail
                    go_region_law
                      (first | (refine step_append_two (by rfl) (.tmp 111) (.tmp 113) 39 (by rfl) (q + 1) 92 i0 (.agg #[.int .i64 0, .int .i64 0, .int .i64 0]) 3 24 Try.underlying39 hi hz0 hz1 hz2 rfl (by decide) hv6 _ _ (by simp [Act.eval]) (own_next HRow.out (by go_grown)) ⟨wc.heap.size, 0, none⟩ 1 1 [.int .i64 deal, .int .i64 c, .int .i64 d] (by simp [Act.eval]) rfl (hold_lies (by simp [go_sem]) (by simp [go_sem]) (by simp [go_sem])) hold_cell (by unfold maxLen; omega) (by omega) (by simp; omega) (by decide) ?_; intro v8 w8 hown8 hgrow8 hwh8; obtain ⟨ga8, cap8, rfl⟩ := own_slice hown8; have HO8 : Hid (w8.ownsRow (q + 1) 92 3 (.slice ga8 (A.hs.length + 1) cap8) (A.hs.length + 1) (flat3 A.hs ++ [.int .i64 deal, .int .i64 c, .int .i64 d])) := hown8; clear hown8; have HW8 : Hid _ := hwh8; clear hwh8; have q78 : w8.cell? ⟨q, 3, none⟩ = some hv6 := hgrow8.cell (by simp [go_sem, g0, l6]) HN1.out; have hf8 : ∀ k, w8.frozen? ⟨q, k, none⟩ = false := fun k => (World.frozen?_of_block (hgrow8.block q (by simp; omega) HN1.out)).trans (by simp [go_sem, f6, l6])))
                    all_goals
                      have hg1 : Below wc.heap.size wc (wc.alloc (.cells #[.int .i64 deal, .int .i64 c, .int .i64 d] 92)) := (Below.refl _ _).alloc (Nat.le_refl _) _
                      have hS8 : Save (fun k => hv6.ownBlock = some k) wc w8 := (Save.of_below (by go_grown)).grown hgrow8 (fun k e _ => e)
                      have hsz8 : wc.heap.size ≤ w8.heap.size := hS8.size
                      clear q78 hf8 g0 x0 x1 x2 f6
                      have HS8 : Hid _ := hS8
                      have HW9 : Hid (∀ k, (Value.slice ga8 (A.hs.length + 1) cap8).ownBlock = some k → hv6.ownBlock = some k ∨ wc.heap.size ≤ k) := fun k hk => (HW8.out k hk).imp_right (fun e => by simp at e; omega)
                      clear hgrow8 HW8 hS8 hg1
                      go_wp2_with fail
                      go_ret
                      rw [HE'.out]
                      have hf : addB A code deal c d = more1 A deal c d := by unfold addB; rw [if_pos HZ.out]; rfl
                      obtain ⟨k1, k2, k3, k4, k5, k6⟩ := HT.out
                      refine ⟨by show Ending.returned (.int .i64 0) = _; rw [HZ.out], fun k => O k ∨ (Value.slice ga8 (A.hs.length + 1) cap8).ownBlock = some k, ?_, ((Save.of_below hB6).trans (HS8.out.mono (O' := O) (fun k _ e => k1 k e)) (fun _ _ h => h)).setCell (p := ⟨q, 3, none⟩) (fun _ => HMine.out) _, fun k hk => ?_⟩
                      · show BoothIn _ _ q (addB A code deal c d)
                        rw [hf]
                        have hR8 := (HR6.out.save HS8.out (fun e => HN1.out e.symm)).set3 (.slice ga8 (A.hs.length + 1) cap8)
                        have hro8 := ownsRow_setCell_below (a := ⟨q, 3, none⟩) (own_save HRo.out HS8.out (fun k e e' => k4 k e' e)) (Nat.lt_succ_self q) (.slice ga8 (A.hs.length + 1) cap8)
                        have hrd8 := ownsRow_setCell_below (a := ⟨q, 3, none⟩) (own_save HRd.out HS8.out (fun k e e' => k5 k e' e)) (Nat.lt_succ_self q) (.slice ga8 (A.hs.length + 1) cap8)
                        have hrh8 := ownsRow_setCell_below (a := ⟨q, 3, none⟩) HO8.out (Nat.lt_succ_self q) (.slice ga8 (A.hs.length + 1) cap8)
                        have nn : ∀ k, (Value.slice ga8 (A.hs.length + 1) cap8).ownBlock = some k → ov6.ownBlock ≠ some k ∧ dv6.ownBlock ≠ some k := fun k hk => by
                          rcases HW9.out k hk with h1 | h1
                          · exact ⟨k4 k h1, k5 k h1⟩
                          · exact ⟨fun e => by have := HOwn.out k (k2 k e); omega, fun e => by have := HOwn.out k (k3 k e); omega⟩
                        refine ⟨fun k hk => ?_, .inl HMine.out, .slice ga8 (A.hs.length + 1) cap8, ov6, dv6, hR8, ?_, hro8, hrd8, fun k hk => .inr hk, fun k hk => .inl (k2 k hk), fun k hk => .inl (k3 k hk), fun k hk => (nn k hk).1, fun k hk => (nn k hk).2, k6⟩
                        · show k < (w8.setCell _ _).heap.size
                          rw [show (w8.setCell (⟨q, 3, none⟩ : Addr) (.slice ga8 (A.hs.length + 1) cap8)).heap.size = w8.heap.size by simp]
                          rcases hk with hk | hk
                          · have := HOwn.out k hk
                            omega
                          · exact (HO8.out.lt k hk).2
                        · have e1 : (more1 A deal c d).hs.length = A.hs.length + 1 := by simp [more1]
                          have e2 : flat3 (more1 A deal c d).hs = flat3 A.hs ++ [.int .i64 deal, .int .i64 c, .int .i64 d] := flat3_snoc _ _ _ _
                          rw [e1, e2]
                          exact hrh8
                      · rcases hk with hk | hk
                        · exact .inl hk
                        · rcases HW9.out k hk with h1 | h1
                          · exact .inl (k1 k h1)
                          · exact .inr (Nat.le_trans hB6.size h1)
                  · have hz' : (code != 0) = true := by simpa using hz
                    have HZ : Hid _ := hz
                    clear hz
                    go_wp2_with fail
                    go_ret
                    rw [HE'.out]
                    exact ⟨rfl, O, by unfold addB; rw [if_neg HZ.out]; exact HI6.out, .of_below hB6, .refl _ _⟩
          · have HE : Hid (holdR A deal c d = (8, A)) := by
              show _ = _
              have hch : chkS A.no A.es deal c d = 8 := by
                unfold chkS; rw [if_neg (by have := HD.out; omega), if_neg (by have := HD.out; omega), if_pos HW.out, if_pos HS.out, if_pos ho]
              rw [holdR_bad (by rw [hch]; decide), hch]
            clear ho
            go_wp2_with fail
            go_ret
            rw [HE.out]
            exact ⟨rfl, O, hI3, .of_below hB3, .refl _ _⟩
        · have hs' : (shp c != A.no) = true := by simpa using hs
          have HE : Hid (holdR A deal c d = (1, A)) := by
            show _ = _
            have := HD.out
            unfold holdR; rw [if_neg (by omega), if_neg (by omega), if_pos HW.out, if_neg hs]
          clear hs
          go_upto_region 6 with fail
          go_quiet ((go_at_call 83; exact Calls.quiet_of_same (shopOf_any _ _)))
          go_wp2_with fail
          go_ret
          rw [HE.out]
          exact ⟨rfl, O, hI1.next (bdrewN (Below.refl _ _) _), .of_below (bdrewN hB1 _), .refl _ _⟩
      · have hw' : (wnt c d != 0) = true := by simpa using hw
        have HE : Hid (holdR A deal c d = (wnt c d, A)) := by
          show _ = _
          have := HD.out
          unfold holdR; rw [if_neg (by omega), if_neg (by omega), if_neg hw]
        clear hw
        go_wp2_with fail
        go_ret
        rw [HE.out]
        exact ⟨rfl, O, hI1, .of_below hB1, .refl _ _⟩

end Go.Proofs.Ytbgnajcmhmpjlab
