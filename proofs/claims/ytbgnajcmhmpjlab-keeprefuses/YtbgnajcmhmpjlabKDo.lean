/- The contract of a keeper's Do. -/
import Derived.Test.YtbgnajcmhmpjlabKTell
import Derived.Test.YtbgnajcmhmpjlabQuiet
namespace Go.Proofs.Ytbgnajcmhmpjlab
open Go.RowKit

theorem infoRec : (Try.prog.info? 51).map (fun i => (i.zero, i.size, i.bytes)) = some (some (.agg #[.int .i64 0, .int .i64 0, .int .i64 0, .int .i64 0, .bool false]), 5, 40) := by kernel_rfl
theorem rec_lies {W : World} {H : Nat} {a b c d e : Value} (h0 : W.cell? ⟨H, 0, none⟩ = some a) (h1 : W.cell? ⟨H, 1, none⟩ = some b) (h2 : W.cell? ⟨H, 2, none⟩ = some c) (h3 : W.cell? ⟨H, 3, none⟩ = some d) (h4 : W.cell? ⟨H, 4, none⟩ = some e) : ∀ j u, [a, b, c, d, e][j]? = some u → W.cell? ((⟨H, 0, none⟩ : Addr).add j) = some u := by
  intro j u hj
  match j, hj with
  | 0, hj => simp at hj; subst hj; simpa [Addr.add] using h0
  | 1, hj => simp at hj; subst hj; simpa [Addr.add] using h1
  | 2, hj => simp at hj; subst hj; simpa [Addr.add] using h2
  | 3, hj => simp at hj; subst hj; simpa [Addr.add] using h3
  | 4, hj => simp at hj; subst hj; simpa [Addr.add] using h4
  | j + 5, hj => simp at hj
theorem rec_cell {a b c d : Int} {e : Bool} : ∀ u ∈ [Value.int .i64 a, .int .i64 b, .int .i64 c, .int .i64 d, .bool e], u.oneCell' = true := by
  intro u hu
  simp only [List.mem_cons, List.not_mem_nil, or_false] at hu
  rcases hu with rfl | rfl | rfl | rfl | rfl <;> rfl

set_option maxHeartbeats 4000000 in
set_option maxRecDepth 100000 in
theorem kdo_any (O : Nat → Prop) (no : Int) (ws : Nat → Int) (K : Kb) (q : Nat) (r : Stp) (w : World) (h : KeepIn O w q no ws K) (hG : Good K.A) (hl : K.A.hs.length < 2 ^ 40) (hr : K.rs.length < 2 ^ 40) :
    Calls Try.prog 24 #[.pointer (some ⟨q, 0, none⟩), recV r] w fun e w' => e = .returned (.int .i64 (doR K r).1) ∧ ∃ O', KeepIn O' w' q no ws (doR K r).2 ∧ Save O w w' ∧ Moved O O' w := by
  obtain ⟨i0, hi, hz0, hz1, hz2⟩ := info_parts infoRec
  have HT : Hid (∀ W : World, Below w.heap.size w W → Calls Try.prog 66 #[.pointer (some ⟨q, 0, none⟩), .agg #[.int .i64 r.what, .int .i64 r.deal, .int .i64 r.c, .int .i64 r.d, .bool r.done]] W fun e w' => e = .returned (.int .i64 (tellR K.A r).1) ∧ ∃ O', KeepIn O' w' q no ws ⟨(tellR K.A r).2, K.rs⟩ ∧ Save O W w' ∧ Moved O O' W) := fun W hW => ktell_any O no ws K q r W (h.next hW) hG hl
  have HOwn : Hid (∀ k, O k → k < w.heap.size) := h.own
  unfold recV
  clear h hG hl
  go_enter Try.func24, Try.ntmps24
  go_wp2_with fail
  refine Calls.mono (HT.out _ (by go_grown)) ?_
  rintro e w1 ⟨rfl, O1, hI1, hS1, hM1⟩
  have hX := (BoxAt.new w [.int .i64 r.what, .int .i64 r.deal, .int .i64 r.c, .int .i64 r.d, .bool r.done] 51).save hS1 (fun hh => by have := HOwn.out _ hh; omega)
  have hSw : Save O w w1 := (Save.of_below (by go_grown)).trans hS1 (fun _ _ hj => hj)
  have hMw : Moved O O1 w := fun k hk => (hM1 k hk).imp id (fun h => Nat.le_trans (by simp) h)
  have hnO1 : ¬ O1 w.heap.size := fun hh => (hM1 _ hh).elim (fun h2 => by have := HOwn.out _ h2; omega) (fun h2 => absurd (show w.heap.size + 1 ≤ w.heap.size by simpa using h2) (by omega))
  clear hS1 hM1
  by_cases hz : (tellR K.A r).1 = 0
  · have HD : Hid (doR K r = (0, ⟨(tellR K.A r).2, noteR K.rs r⟩)) := doR_done hz
    have hz' : ((tellR K.A r).1 != 0) = false := by simp [hz]
    have HZ : Hid _ := hz
    clear hz
    generalize hA' : (tellR K.A r).2 = A' at hI1 HD
    clear hA'
    obtain ⟨Os, p, rv, hR1, hP1, hsub1, hqs1, hrow1, hrb1⟩ := hI1.raw
    obtain ⟨ga, cap, rfl, hA1, hrn⟩ := steps_of_own hrow1
    have c8 := hR1.c8
    have hql := hR1.lt
    have y0 := hX.2 0 _ rfl
    have y1 := hX.2 1 _ rfl
    have y2 := hX.2 2 _ rfl
    have y3 := hX.2 3 _ rfl
    have y4 := hX.2 4 _ rfl
    have hlx := hX.1
    have HK : Hid (∀ w', Below w1.heap.size w1 w' → w'.cell? ⟨q, 8, none⟩ = some (.slice ga K.rs.length cap) ∧ w'.cell? ⟨w.heap.size, 0, none⟩ = some (.int .i64 r.what) ∧ w'.cell? ⟨w.heap.size, 1, none⟩ = some (.int .i64 r.deal) ∧ w'.cell? ⟨w.heap.size, 2, none⟩ = some (.int .i64 r.c) ∧ w'.cell? ⟨w.heap.size, 3, none⟩ = some (.int .i64 r.d) ∧ w'.cell? ⟨w.heap.size, 4, none⟩ = some (.bool r.done) ∧ Below w1.heap.size w1 w') := fun w' hb => ⟨((bcell hb).1 _ _ hql).trans c8, ((bcell hb).1 _ _ hlx).trans y0, ((bcell hb).1 _ _ hlx).trans y1, ((bcell hb).1 _ _ hlx).trans y2, ((bcell hb).1 _ _ hlx).trans y3, ((bcell hb).1 _ _ hlx).trans y4, hb⟩
    have HH : Hid (∀ W : World, Below w1.heap.size w1 W → Calls Try.prog 67 #[.slice ga K.rs.length cap, .agg #[.int .i64 r.what, .int .i64 r.deal, .int .i64 r.c, .int .i64 r.d, .bool r.done]] W fun e w' => e = .returned (.bool (hasS K.rs r)) ∧ Below W.heap.size W w') := fun W hW => khas_any ga K.rs.length cap K.rs r W (hA1.below hW (Nat.le_refl _)) rfl (by omega)
    have HI1 : Hid (KeepIn O1 w1 q no ws ⟨A', K.rs⟩) := hI1
    have HX : Hid (BoxAt w1 w.heap.size [.int .i64 r.what, .int .i64 r.deal, .int .i64 r.c, .int .i64 r.d, .bool r.done]) := hX
    have HSw : Hid (Save O w w1) := hSw
    clear hI1 hR1 hP1 hsub1 hqs1 hrow1 hrb1 hA1 hX c8 y0 y1 y2 y3 y4 hSw
    have HN1 : Hid (hasS K.rs r = true → noteR K.rs r = K.rs) := fun e => by unfold noteR; rw [if_pos e]
    have HN2 : Hid (hasS K.rs r = false → noteR K.rs r = K.rs ++ [r]) := fun e => by unfold noteR; rw [if_neg (by rw [e]; simp)]
    generalize hasS K.rs r = hb at *
    go_upto_region 4 with fail
    refine region_class (C := (fun w' => w'.cell? ⟨q, 8, none⟩ = some (.slice ga K.rs.length cap) ∧ w'.cell? ⟨w.heap.size, 0, none⟩ = some (.int .i64 r.what) ∧ w'.cell? ⟨w.heap.size, 1, none⟩ = some (.int .i64 r.deal) ∧ w'.cell? ⟨w.heap.size, 2, none⟩ = some (.int .i64 r.c) ∧ w'.cell? ⟨w.heap.size, 3, none⟩ = some (.int .i64 r.d) ∧ w'.cell? ⟨w.heap.size, 4, none⟩ = some (.bool r.done) ∧ Below w1.heap.size w1 w')) (by kernel_rfl) (by kernel_rfl) (HK.out _ ((Below.refl _ _).drew)) ?_
    repeat (first
      | go_big_quiet_skip
      | (go_big_quiet_want
         refine q_val (v := ?_) (fun w' hS => ?_) ?_
         rotate_left
         focus
           go_simp
           all_goals (with_reducible rfl)
         go_big_quiet_on
         (try simp only [Act.put, List.setIfInBounds_toArray, List.set_cons_zero, List.set_cons_succ]))
      | (go_big_quiet_want
         refine q_call (v := ?_) (f := ?_) (args := ?_) (fun w' hS => ?_) (fun w' hS => ?_) ?_
         rotate_left 3
         focus
           go_simp
           constructor <;> with_reducible rfl
         focus
           go_at_call 67
           refine Calls.mono (HH.out _ hS.2.2.2.2.2.2) ?_
           rintro e w7 ⟨rfl, hb7⟩
           refine ⟨?_, HK.out _ (after hS.2.2.2.2.2.2 hb7 hS.2.2.2.2.2.2.size)⟩
           with_reducible rfl
         go_big_quiet_on
         (try simp only [Act.put, List.setIfInBounds_toArray, List.set_cons_zero, List.set_cons_succ])))
    refine wpQuiet_nil ?_
    intro w2 hC2
    have hb2 := hC2.2.2.2.2.2.2
    clear hC2 HH HK HT
    have hI2 := HI1.out.next hb2
    have hX2 := HX.out.next hb2
    have hS2 := HSw.out.next hb2
    clear HI1 HX HSw
    cases hb
    · obtain ⟨Os, p, rv, hR2, hP2, hsub2, hqs2, hrow2, hrb2⟩ := hI2.raw
      have HOwn2 : Hid (∀ k, O1 k → k < w2.heap.size) := hI2.own
      have HMine2 : Hid (O1 q) := hI2.mine
      have g0 := hR2.c8
      have x0 := hX2.2 0 _ rfl
      have x1 := hX2.2 1 _ rfl
      have x2 := hX2.2 2 _ rfl
      have x3 := hX2.2 3 _ rfl
      have x4 := hX2.2 4 _ rfl
      have hp3 := hR2.lt
      have hl3 := hX2.1
      have hf3 := hR2.loose
      have HR2 : Hid (KeepRaw w2 q p no ws rv) := hR2
      have HP2 : Hid (ShopIn Os w2 p A') := hP2
      have HSub : Hid (∀ k, Os k → O1 k) := hsub2
      have HQs : Hid (¬ Os q) := hqs2
      have HRow : Hid (w2.ownsRow (q + 1) 51 5 rv K.rs.length (flat5 K.rs)) := hrow2
      have HRb : Hid (∀ k, rv.ownBlock = some k → O1 k ∧ ¬ Os k) := hrb2
      have HS2 : Hid (Save O w w2) := hS2
      have HM : Hid (Moved O O1 w) := hMw
      have HE1 : Hid (some q ≠ rv.ownBlock) := fun e => by have := (HRow.out.lt q e.symm).1; omega
      have HE2 : Hid (some w.heap.size ≠ rv.ownBlock) := fun e => hnO1 (HRb.out _ e.symm).1
      clear hI2 hX2 hR2 hP2 hsub2 hqs2 hrow2 hrb2 hS2 hMw hnO1 hb2 hql hlx hrn
      go_upto_region 5 with fail
      go_region_law
        (first | (refine step_append_two (by rfl) (.tmp 23) (.tmp 25) 24 (by rfl) (q + 1) 51 i0 (.agg #[.int .i64 0, .int .i64 0, .int .i64 0, .int .i64 0, .bool false]) 5 40 Try.underlying24 hi hz0 hz1 hz2 rfl (by decide) rv _ _ (by simp [Act.eval]) (own_next HRow.out (by go_grown)) ⟨w2.heap.size, 0, none⟩ 1 1 [.int .i64 r.what, .int .i64 r.deal, .int .i64 r.c, .int .i64 r.d, .bool r.done] (by simp [Act.eval]) rfl (rec_lies (by simp [go_sem]) (by simp [go_sem]) (by simp [go_sem]) (by simp [go_sem]) (by simp [go_sem])) rec_cell (by unfold maxLen; omega) (by omega) (by simp; omega) (by decide) ?_; intro v8 w8 hown8 hgrow8 hwh8; obtain ⟨ga8, cap8, rfl⟩ := own_slice hown8; have HO8 : Hid (w8.ownsRow (q + 1) 51 5 (.slice ga8 (K.rs.length + 1) cap8) (K.rs.length + 1) (flat5 K.rs ++ [.int .i64 r.what, .int .i64 r.deal, .int .i64 r.c, .int .i64 r.d, .bool r.done])) := hown8; clear hown8; have HW8 : Hid _ := hwh8; clear hwh8; have hk8 : w8.cell? ⟨q, 8, none⟩ = some rv ∧ w8.cell? ⟨w.heap.size, 0, none⟩ = some (.int .i64 r.what) ∧ w8.cell? ⟨w.heap.size, 1, none⟩ = some (.int .i64 r.deal) ∧ w8.cell? ⟨w.heap.size, 2, none⟩ = some (.int .i64 r.c) ∧ w8.cell? ⟨w.heap.size, 3, none⟩ = some (.int .i64 r.d) ∧ w8.cell? ⟨w.heap.size, 4, none⟩ = some (.bool r.done) := ⟨hgrow8.cell (by simp [go_sem, g0, hp3]) HE1.out, hgrow8.cell (by simp [go_sem, x0, hl3]) HE2.out, hgrow8.cell (by simp [go_sem, x1, hl3]) HE2.out, hgrow8.cell (by simp [go_sem, x2, hl3]) HE2.out, hgrow8.cell (by simp [go_sem, x3, hl3]) HE2.out, hgrow8.cell (by simp [go_sem, x4, hl3]) HE2.out⟩; have q78 := hk8.1; have hf8 : ∀ k, w8.frozen? ⟨q, k, none⟩ = false := fun k => (World.frozen?_of_block (hgrow8.block q (by simp; omega) HE1.out)).trans (by simp [go_sem, hf3, hp3])))
      all_goals
        have hR8 : KeepRaw w8 q p no ws rv := (HR2.out.save (O := fun _ => False) (.of_below (by go_grown)) (fun e => e)).save (O := fun k => rv.ownBlock = some k) ((Save.refl _ _).grown hgrow8 (fun k e _ => e)) (fun e => HE1.out e.symm)
        have hP8 : ShopIn Os w8 p A' := (HP2.out.next (by go_grown)).save (O' := fun k => rv.ownBlock = some k) ((Save.refl _ _).grown hgrow8 (fun k e _ => e)) (fun k hk e => (HRb.out k e).2 hk)
        have hS8 : Save (fun k => O k ∨ O1 k) w w8 := ((HS2.out.mono (fun k _ hk => .inl hk)).next (by go_grown)).grown hgrow8 (fun k e _ => .inr (HRb.out k e).1)
        have hsz8 : w2.heap.size ≤ w8.heap.size := Nat.le_trans (by simp) hgrow8.size
        clear hk8 hf8 q78 g0 x0 x1 x2 x3 x4
        go_wp2_with fail
        go_ret
        rw [HD.out, HN2.out (by simp)]
        have hSO : Save O w w8 := hS8.mono (fun k hk hh => hh.elim id (fun h1 => (HM.out k h1).elim id (fun h2 => absurd h2 (by omega))))
        refine ⟨rfl, fun k => O1 k ∨ (.slice ga8 (K.rs.length + 1) cap8 : Value).ownBlock = some k, ?_, hSO.setCell (p := ⟨q, 8, none⟩) (fun hk => (HM.out q HMine2.out).elim id (fun h2 => absurd hk (by simp only; omega))) _, fun k hk => ?_⟩
        · refine ⟨fun k hk => ?_, .inl HMine2.out, Os, p, .slice ga8 (K.rs.length + 1) cap8, hR8.set8 _, ?_, fun k hk => .inl (HSub.out k hk), HQs.out, ?_, fun k hk => ⟨.inr hk, fun hk2 => ?_⟩⟩
          · show k < (w8.setCell _ _).heap.size
            rw [show (w8.setCell (⟨q, 8, none⟩ : Addr) (.slice ga8 (K.rs.length + 1) cap8)).heap.size = w8.heap.size by simp]
            rcases hk with hk | hk
            · have := HOwn2.out k hk
              omega
            · exact (HO8.out.lt k hk).2
          · exact hP8.save (O' := fun k => k = q) (Save.setCell (O := fun k => k = q) (Save.refl _ _) (p := ⟨q, 8, none⟩) (fun _ => rfl) _) (fun k hk e => HQs.out (e ▸ hk))
          · have e1 : (K.rs ++ [r]).length = K.rs.length + 1 := by simp
            have e2 : flat5 (K.rs ++ [r]) = flat5 K.rs ++ [.int .i64 r.what, .int .i64 r.deal, .int .i64 r.c, .int .i64 r.d, .bool r.done] := flat5_snoc _ _
            show World.ownsRow _ _ _ _ _ (K.rs ++ [r]).length (flat5 (K.rs ++ [r]))
            rw [e1, e2]
            exact ownsRow_setCell_below HO8.out (Nat.lt_succ_self q) _
          · rcases HW8.out k hk with h1 | h1
            · exact (HRb.out k h1).2 hk2
            · have h2 := HP2.out.own k hk2
              simp at h1
              omega
        · rcases hk with hk | hk
          · exact HM.out k hk
          · rcases HW8.out k hk with h1 | h1
            · exact HM.out k (HRb.out k h1).1
            · right
              have := HS2.out.size
              simp at h1
              omega
    · go_wp2_with fail
      go_ret
      rw [HD.out, HN1.out (by simp)]
      exact ⟨rfl, O1, hI2, hS2, hMw⟩
  · have HD : Hid (doR K r = ((tellR K.A r).1, K)) := doR_code hz
    have HA : Hid ((tellR K.A r).2 = K.A) := tell_code hz
    have hz' : ((tellR K.A r).1 != 0) = true := by simpa using hz
    clear hz
    go_wp2_with fail
    go_ret
    rw [HD.out]
    exact ⟨rfl, O1, by have h9 := hI1; rw [HA.out] at h9; exact h9, hSw, hMw⟩

end Go.Proofs.Ytbgnajcmhmpjlab
