/- A market is made, pen by pen; a pen whose booth is made anew; what a market's counters have. -/
import Derived.OwnWalk
import Derived.Deep.RegionHeld3
import Derived.BigRegion
import Derived.Test.YtbgnajcmhmpjlacGreatA4

/- The contracts of the document's Book: State and Quit; and of SameWants. -/
namespace Go.Proofs.YtbgnajcmhmpjlacGreat
open Go.RowKit

set_option maxHeartbeats 1000000 in
theorem qstate_any (O : Nat → Prop) (B : Bok) (q : Nat) (n : Int) (w : World) (h : BokIn 107 42 3 O w q 0 B) (hl : B.L.length ≤ 8) : Calls Tryz.prog 76 #[.pointer (some ⟨q, 0, none⟩), .int .i64 n] w fun e w' => e = .returned (.int .i64 (stR B n)) ∧ w' = w := by
  obtain ⟨rv, ov, V, hR, _⟩ := h.raw
  have c0 := hR.c0
  unfold stR
  cases hd : dealAt B n with
  | none =>
    obtain ⟨ga, cap, rfl⟩ := own_sl hR.row
    rcases dealAt_out hd with h0 | h0
    · clear hd hR
      go_enter Tryz.func76, Tryz.ntmps76
      go_wp2_with fail
      go_ret
      exact ⟨rfl, rfl⟩
    · have h1 : 0 ≤ n := by omega
      have h2 : (B.L.length : Int) ≤ n := h0
      clear hd h0 hR
      go_enter Tryz.func76, Tryz.ntmps76
      go_wp2_with fail
      go_ret
      exact ⟨rfl, rfl⟩
  | some D =>
    obtain ⟨k, rfl, hk, hkD⟩ := dealAt_some hd
    obtain ⟨g, cap, v, rfl, _, h4, _, _⟩ := hR.deal4 hkD
    have d1 := h4.c1
    have h1 : (0 : Int) ≤ (k : Int) := by omega
    have h2 : (k : Int) < (B.L.length : Int) := by omega
    have h3 : (B.L.length : Int) ≤ 8 := by omega
    clear hd hkD hR h4 h
    go_enter Tryz.func76, Tryz.ntmps76
    go_wp2_with fail
    go_ret
    exact ⟨rfl, rfl⟩

theorem stR_there {B : Bok} (hI : BInv B) {n : Int} {D : Dl} (h : dealAt B n = some D) : (stR B n == -1) = false := by
  rw [stR_some h]
  have := hI.st D (dealAt_mem h)
  rw [beq_eq_false_iff_ne]
  omega

set_option maxHeartbeats 1000000 in
theorem qquit_any (O : Nat → Prop) (B : Bok) (q : Nat) (n : Int) (w : World) (h : BokIn 107 42 3 O w q 0 B) (hI : BInv B) :
    Calls Tryz.prog 38 #[.pointer (some ⟨q, 0, none⟩), .int .i64 n] w fun e w' => e = .returned (.int .i64 (quitR B n).1) ∧ BokTo 107 42 3 O w w' q 0 (quitR B n).2 := by
  have hl := hI.len
  have HH := qstate_any O B q n w h hl
  obtain ⟨rv, ov, V, hR, hsub⟩ := h.raw
  have HI : Hid (BokIn 107 42 3 O w q 0 B) := h
  unfold quitR
  cases hd : dealAt B n with
  | none =>
    have hs : stR B n = -1 := by unfold stR; rw [hd]
    rw [hs] at HH
    clear hd hR
    go_enter Tryz.func38, Tryz.ntmps38
    go_wp2_with fail
    refine HH.mono ?_
    rintro e w' ⟨rfl, rfl⟩
    go_wp2_with fail
    go_ret
    exact ⟨rfl, BokTo.stay HI.out (Below.refl _ _)⟩
  | some D =>
    have hs := stR_there hI hd
    obtain ⟨k, rfl, hk, hkD⟩ := dealAt_some hd
    obtain ⟨g, cap, v, rfl, hV, h4, _, _⟩ := hR.deal4 hkD
    have c0 := hR.c0
    have d1 := h4.c1
    have d2 := h4.fr
    have h1 : (0 : Int) ≤ (k : Int) := by omega
    have h2 : (k : Int) < (B.L.length : Int) := by omega
    have h3 : (B.L.length : Int) ≤ 8 := by omega
    by_cases h0 : D.st = 0
    · have HE : Hid (BokTo 107 42 3 O w (w.setCell ⟨g, k * 4 + 1, none⟩ (.int .i64 2)) q 0 (putD B (k : Int) { D with st := 2 })) := by
        have hgO : O g := hsub _ List.mem_cons_self g rfl
        have hS : Save O w (w.setCell ⟨g, k * 4 + 1, none⟩ (.int .i64 2)) := Save.setCell (Save.refl _ _) (p := ⟨g, k * 4 + 1, none⟩) (fun _ => hgO) _
        have hqg : q ≠ g := by have := (hR.row.lt g rfl).1; omega
        refine bok_to h.own h.mine hS (hR.st h.lt hkD 2) (by simpa [go_sem] using h.loose) (fun u hu j hj => ⟨.inl (hsub u hu j hj), by simpa using h.own j (hsub u hu j hj)⟩) (fun j _ _ => cell_set_block hqg)
      simp only [if_pos h0]
      have h0' : (D.st != 0) = false := by simp [h0]
      clear hd hkD hR h4 h hsub h0 hV
      go_enter Tryz.func38, Tryz.ntmps38
      go_wp2_with fail
      refine HH.mono ?_
      rintro e w' ⟨rfl, rfl⟩
      go_wp2_with fail
      go_ret
      exact ⟨rfl, HE.out⟩
    · simp only [if_neg h0]
      have h0' : (D.st != 0) = true := by simpa using h0
      clear hd hkD hR h4 h hsub h0 hV
      go_enter Tryz.func38, Tryz.ntmps38
      go_wp2_with fail
      refine HH.mono ?_
      rintro e w' ⟨rfl, rfl⟩
      go_wp2_with fail
      go_ret
      exact ⟨rfl, BokTo.stay HI.out (Below.refl _ _)⟩

end Go.Proofs.YtbgnajcmhmpjlacGreat

namespace Go.Proofs.YtbgnajcmhmpjlacGreat
open Go.RowKit

theorem infoDealR : (Tryz.prog.info? 107).map (fun i => (i.zero, i.size, i.bytes)) = some (some (.agg #[.slice none 0 0, .int .i64 0, .slice none 0 0, .slice none 0 0]), 4, 80) := by kernel_rfl
theorem four_lies {W : World} {H : Nat} {a b c d : Value} (h0 : W.cell? ⟨H, 0, none⟩ = some a) (h1 : W.cell? ⟨H, 1, none⟩ = some b) (h2 : W.cell? ⟨H, 2, none⟩ = some c) (h3 : W.cell? ⟨H, 3, none⟩ = some d) : ∀ j u, [a, b, c, d][j]? = some u → W.cell? ((⟨H, 0, none⟩ : Addr).add j) = some u := by
  intro j u hj
  match j, hj with
  | 0, hj => simp at hj; subst hj; simpa [Addr.add] using h0
  | 1, hj => simp at hj; subst hj; simpa [Addr.add] using h1
  | 2, hj => simp at hj; subst hj; simpa [Addr.add] using h2
  | 3, hj => simp at hj; subst hj; simpa [Addr.add] using h3
  | j + 4, hj => simp at hj
theorem four_cell {ga : Option Addr} {n c : Nat} : ∀ u ∈ [Value.slice ga n c, .int .i64 0, .slice none 0 0, .slice none 0 0], u.oneCell' = true := by
  intro u hu
  simp only [List.mem_cons, List.not_mem_nil, or_false] at hu
  rcases hu with rfl | rfl | rfl | rfl <;> rfl

set_option maxHeartbeats 4000000 in
set_option maxRecDepth 100000 in
theorem qbegin_any (O : Nat → Prop) (B : Bok) (q : Nat) (la : Option Addr) (ll lc : Nat) (l : List (Int × Int)) (w : World) (h : BokIn 107 42 3 O w q 0 B) (hI : BInv B) (hl : WantsAt w la l) (hll : l.length = ll) :
    Calls Tryz.prog 33 #[.pointer (some ⟨q, 0, none⟩), .slice la ll lc] w fun e w' => e = .returned (.tuple #[.int .i64 (beginR B l).1, .int .i64 (beginR B l).2.1]) ∧ BokTo 107 42 3 O w w' q 0 (beginR B l).2.2 := by
  have HC := wantsFault_any la ll lc l w hl hll
  have HI : Hid (BokIn 107 42 3 O w q 0 B) := h
  by_cases hc : (chkW l).1 = 0
  · have hc' : ((chkW l).1 != 0) = false := by simp [hc]
    have hF := fit_iff.1 hc
    obtain ⟨rv, ov, V, hR, hsub⟩ := h.raw
    have c0 := hR.c0
    obtain ⟨ga, cap, rfl⟩ := own_sl hR.row
    have hql := h.lt
    by_cases h8 : 8 ≤ B.L.length
    · rw [beginR_full hc h8]
      have h8' : (8 : Int) ≤ (B.L.length : Int) := by omega
      clear hR hsub h hc h8 hI hF
      go_enter Tryz.func33, Tryz.ntmps33
      go_wp2_with fail
      refine HC.mono ?_
      rintro e w1 ⟨rfl, hb1⟩
      have c0' : w1.cell? ⟨q, 0, none⟩ = some (.slice ga B.L.length cap) := ((bcell hb1).1 _ _ hql).trans c0
      have hql1 : q < w1.heap.size := Nat.lt_of_lt_of_le hql hb1.size
      clear c0
      go_wp2_with fail
      go_ret2
      exact ⟨rfl, BokTo.stay HI.out (after hb1 (by go_grown) hb1.size)⟩
    · rw [beginR_ok hc h8]
      have h8' : ¬ (8 : Int) ≤ (B.L.length : Int) := by omega
      obtain ⟨i0, hi, hz0, hz1, hz2⟩ := info_parts infoWant
      obtain ⟨j0, hj, hy0, hy1, hy2⟩ := info_parts infoDealR
      have hpos := hF.pos
      have HLen : Hid (l.length ≤ 4) := hF.few
      obtain ⟨⟨c, d⟩, hk0⟩ : ∃ x, l[0]? = some x := ⟨_, List.getElem?_eq_getElem hpos⟩
      obtain ⟨b, off, rfl, hbl, _, _⟩ := hl 0 c d hk0
      have HR : Hid (BokRaw 107 42 3 w q 0 B (.slice ga B.L.length cap) ov V) := hR
      have HSub : Hid (∀ u ∈ (.slice ga B.L.length cap : Value) :: ov :: V.flatMap DV.all, ∀ k, u.ownBlock = some k → O k) := hsub
      have HLn8 : Hid (B.L.length ≤ 8) := hI.len
      have HW : Hid (WantsAt w (some ⟨b, off, none⟩) l) := hl
      have HFl : Hid ((flat l).length = l.length * 2) := flat_length l
      subst hll
      clear hR hsub h hc h8 hI hF hl hk0
      go_enter Tryz.func33, Tryz.ntmps33
      go_wp2_with fail
      refine HC.mono ?_
      rintro e w1 ⟨rfl, hb1⟩
      go_upto_region 2 with fail
      have hb2 : Below w.heap.size w (w1.alloc (.cells #[.int .i64 (chkW l).1, .int .i64 (chkW l).2] 76)) := after hb1 (by go_grown) hb1.size
      have hX := BoxAt.new w1 [.int .i64 (chkW l).1, .int .i64 (chkW l).2] 76
      have x0 := hX.2 0 _ rfl
      change (w1.alloc (.cells #[.int .i64 (chkW l).1, .int .i64 (chkW l).2] 76)).cell? _ = _ at x0
      generalize (w1.alloc (.cells #[.int .i64 (chkW l).1, .int .i64 (chkW l).2] 76)) = w2 at hb2 x0 ⊢
      generalize w1.heap.size = B1 at x0 ⊢
      have c0' : w2.cell? ⟨q, 0, none⟩ = some (.slice ga B.L.length cap) := ((bcell hb2).1 _ _ hql).trans c0
      have hql2 : q < w2.heap.size := Nat.lt_of_lt_of_le hql hb2.size
      have hf2 : ∀ k, w2.frozen? ⟨q, k, none⟩ = false := (HI.out.next hb2).loose
      have HR2 : Hid (BokRaw 107 42 3 w2 q 0 B (.slice ga B.L.length cap) ov V) := HR.out.save hql (.of_below (O := fun _ => False) hb2) (fun q => q) (fun _ _ _ _ q => q)
      have HWc : Hid (∀ j u, (flat l)[j]? = some u → w2.cell? ((⟨b, off, none⟩ : Addr).add j) = some u) := wants_cells (HW.out.below hb2 (Nat.le_refl _))
      have HB2 : Hid _ := hb2
      clear c0 hb1 hX HC hb2 hbl
      go_upto_region 7 with fail
      have HRow : Hid (w2.ownsRow (q + 1) 107 4 (.slice ga B.L.length cap) B.L.length (flatD B.L V)) := HR2.out.row
      have HN1 : Hid (some q ≠ (.slice ga B.L.length cap : Value).ownBlock) := fun e => by have := (HRow.out.lt q e.symm).1; omega
      go_region_law
        (first | (refine step_append_two (by rfl) (.tmp 26) (.tmp 27) 32 (by rfl) w2.heap.size 42 i0 (.agg #[.int .i64 0, .int .i64 0]) 2 16 Tryz.underlying32 hi hz0 hz1 hz2 rfl (by decide) (.slice none 0 0) 0 [] (by rfl) (World.ownsRow_nil _ _ _ _) ⟨b, off, none⟩ l.length lc (flat l) (by rfl) HFl.out (fun j u hj => HWc.out j u hj) (flat_one _) (by have := HLen.out; unfold maxLen; omega) (by have := HLen.out; omega) (by simp) hpos ?_; intro v7 w7 hown7 hgrow7 hwh7; have hown7' : w7.ownsRow w2.heap.size 42 2 v7 l.length (flat l) := (by simpa using hown7); clear hown7; obtain ⟨ga7, cap7, rfl⟩ := own_sl hown7'; have HO7 : Hid (w7.ownsRow w2.heap.size 42 2 (.slice ga7 l.length cap7) l.length (flat l)) := hown7'; clear hown7' hwh7; have HB7 : Hid (Below w2.heap.size w2 w7) := (((Below.refl _ _).drew).grown hgrow7 (by simp) (fun k e => by simp [Value.ownBlock] at e)); have hz7 : w2.heap.size ≤ w7.heap.size := HB7.out.size; have hq7 : q < w7.heap.size := Nat.lt_of_lt_of_le hql2 hz7; have k7 : w7.cell? ⟨q, 0, none⟩ = some (.slice ga B.L.length cap) := ((bcell HB7.out).1 _ _ hql2).trans c0'; have f7 : ∀ k, w7.frozen? ⟨q, k, none⟩ = false := loose q HB7.out hql2 hf2; clear hgrow7) | (refine step_append_two (by rfl) (.tmp 25) (.tmp 30) 56 (by rfl) (q + 1) 107 j0 (.agg #[.slice none 0 0, .int .i64 0, .slice none 0 0, .slice none 0 0]) 4 80 Tryz.underlying56 hj hy0 hy1 hy2 rfl (by decide) (.slice ga B.L.length cap) _ _ (by rfl) (own_next (own_next HRow.out HB7.out) ((Below.refl _ _).alloc (Nat.le_refl _) _)) ⟨w7.heap.size, 0, none⟩ 1 1 [.slice ga7 l.length cap7, .int .i64 0, .slice none 0 0, .slice none 0 0] (by rfl) rfl (four_lies (by simp [go_sem]) (by simp [go_sem]) (by simp [go_sem]) (by simp [go_sem])) four_cell (by have := HLn8.out; unfold maxLen; omega) (by have := HLn8.out; omega) (by simp; omega) (by decide) ?_; intro v8 w8 hown8 hgrow8 hwh8; obtain ⟨ga8, cap8, rfl⟩ := own_sl hown8; have HO8 : Hid (w8.ownsRow (q + 1) 107 4 (.slice ga8 (B.L.length + 1) cap8) (B.L.length + 1) (flatD B.L V ++ [.slice ga7 l.length cap7, .int .i64 0, .slice none 0 0, .slice none 0 0])) := hown8; clear hown8; have HW8 : Hid _ := hwh8; clear hwh8; have k8 : w8.cell? ⟨q, 0, none⟩ = some (.slice ga B.L.length cap) := hgrow8.cell (by simp [go_sem, k7, hq7]) HN1.out; have f8 : ∀ k, w8.frozen? ⟨q, k, none⟩ = false := fun k => (World.frozen?_of_block (hgrow8.block q (by simp; omega) HN1.out)).trans (by simp [go_sem, f7, hq7]); have hq8 : q < w8.heap.size := Nat.lt_of_lt_of_le hq7 (Nat.le_trans (by simp) hgrow8.size)))
      all_goals
        have hr7 : w7.ownsRow (q + 1) 42 2 (.slice ga7 l.length cap7) l.length (flat l) := by
          refine ⟨HO7.out.1, HO7.out.2.imp id ?_⟩
          rintro ⟨g, cap, cur, h1, h2, h3⟩
          exact ⟨g, cap, cur, h1, by omega, h3⟩
        have hB0 : Below w.heap.size w w7 := after HB2.out HB7.out HB2.out.size
        have h8 : Save (fun k => (Value.slice ga B.L.length cap).ownBlock = some k) w7 w8 := (Save.of_below (by go_grown)).grown hgrow8 (fun k e _ => e)
        have hR9 := HR.out.begin (l := l) (v7 := .slice ga7 l.length cap7) (v8 := .slice ga8 (B.L.length + 1) cap8) hql (HI.out.rows HSub.out) hB0 hr7 (fun j hj => ⟨Nat.le_trans HB2.out.size (HO7.out.lt j hj).1, (HO7.out.lt j hj).2⟩) h8 HO8.out (fun j hj => (HW8.out j hj).imp id (fun e => by rw [e]; simp))
        have HT : Hid (BokTo 107 42 3 O w (w8.setCell ⟨q, 0, none⟩ (.slice ga8 (B.L.length + 1) cap8)) q 0 { B with L := B.L ++ [⟨l, 0, [], []⟩] }) := by
          have hqr : ¬ (Value.slice ga B.L.length cap).ownBlock = some q := fun e => HN1.out e.symm
          refine bok_to HI.out.own HI.out.mine ?_ hR9 (by simpa [go_sem] using f8) ?_ (fun j hj _ => (cell_set_off hj).trans ((h8.cell (p := ⟨q, j, none⟩) hq7 hqr).trans (hB0.cell (p := ⟨q, j, none⟩) hql)))
          · exact (((Save.of_below hB0).trans h8 (fun j _ e => HSub.out _ List.mem_cons_self j e))).setCell (p := ⟨q, 0, none⟩) (fun _ => HI.out.mine) _
          · intro u hu k hk
            have hsz : (w8.setCell (⟨q, 0, none⟩ : Addr) (.slice ga8 (B.L.length + 1) cap8)).heap.size = w8.heap.size := by simp
            rw [hsz]
            have z1 := hB0.size
            have z8 := h8.size
            have old : ∀ x ∈ (.slice ga B.L.length cap : Value) :: ov :: V.flatMap DV.all, x.ownBlock = some k → (O k ∨ w.heap.size ≤ k) ∧ k < w8.heap.size := fun x hx hk => ⟨.inl (HSub.out x hx k hk), by have := HI.out.own k (HSub.out x hx k hk); omega⟩
            have hfl : (V ++ [(⟨.slice ga7 l.length cap7, .slice none 0 0, .slice none 0 0⟩ : DV)]).flatMap DV.all = V.flatMap DV.all ++ [.slice ga7 l.length cap7, .slice none 0 0, .slice none 0 0] := by simp [DV.all]
            rw [hfl] at hu
            rcases List.mem_cons.1 hu with rfl | hu
            · refine ⟨?_, (HO8.out.lt k hk).2⟩
              rcases HW8.out k hk with e | e
              · exact (old _ List.mem_cons_self e).1
              · right
                simp at e
                omega
            · rcases List.mem_cons.1 hu with rfl | hu
              · exact old _ (by simp) hk
              · rcases List.mem_append.1 hu with hu | hu
                · exact old _ (by simp [hu]) hk
                · simp only [List.mem_cons, List.not_mem_nil, or_false] at hu
                  rcases hu with rfl | rfl | rfl
                  · have := HO7.out.lt k hk
                    have := HB2.out.size
                    exact ⟨.inr (by omega), by omega⟩
                  · simp [Value.ownBlock] at hk
                  · simp [Value.ownBlock] at hk
        have hr4 : IntKind.i64.wrap (((B.L.length + 1 : Nat) : Int) - 1) = (B.L.length : Int) := by
          have := HLn8.out
          rw [show (((B.L.length + 1 : Nat) : Int) - 1) = (B.L.length : Int) by omega]
          go_unwrap
        clear hgrow8 c0' k7 f7
        go_wp2_with fail
        go_ret2
        exact ⟨by first | rfl | (congr; omega), HT.out⟩
  · rw [beginR_bad hc]
    have hc' : ((chkW l).1 != 0) = true := by simpa using hc
    clear h hc hI
    go_enter Tryz.func33, Tryz.ntmps33
    go_wp2_with fail
    refine HC.mono ?_
    rintro e w1 ⟨rfl, hb1⟩
    go_wp2_with fail
    go_quiet (fail)
    go_wp2_with fail
    go_ret2
    exact ⟨rfl, BokTo.stay HI.out (bdrewN (after hb1 (by go_grown) hb1.size) _)⟩

end Go.Proofs.YtbgnajcmhmpjlacGreat

namespace Go.Proofs.YtbgnajcmhmpjlacGreat
open Go.RowKit

set_option maxRecDepth 100000 in
set_option maxHeartbeats 2000000 in
theorem shopsOf_own (la : Option Addr) (ll lc : Nat) (l : List (Int × Int)) (w : World) (hl : WantsAt w la l) (hll : l.length = ll) (hs : ll < 2 ^ 62) :
    Calls Tryz.prog 81 #[.slice la ll lc] w fun e w' => (∃ v, e = .returned v ∧ w'.ownsRow w.heap.size 3 1 v (shopsL l).length ((shopsL l).map (Value.int .i64))) ∧ Below w.heap.size w w' := by
  obtain ⟨i0, hi, hz0, hz1, hz2'⟩ := info_parts infoInt
  go_enter Tryz.func81, Tryz.ntmps81
  go_wp2_with fail
  go_loopg [3, 4] 3 (fun g hv i wx => ∃ k : Nat, k ≤ 3 ∧ g = 3 - k ∧ i = .int .i64 k ∧ wx.ownsRow w.heap.size 3 1 hv (shopsTo l k).length ((shopsTo l k).map (Value.int .i64)) ∧ Below w.heap.size w wx)
  case atStart => exact ⟨0, Nat.zero_le _, rfl, rfl, World.ownsRow_nil _ _ _ _, Below.refl _ _⟩
  case round =>
    obtain ⟨k, hk, rfl, rfl, hR, hB⟩ := hrel
    have HR : Hid (wr.ownsRow w.heap.size 3 1 u3 (shopsTo l k).length ((shopsTo l k).map (Value.int .i64))) := hR
    have HB : Hid _ := hB
    have hz := hB.size
    have hsl := shopsTo_length l k
    have HSL : Hid _ := hsl
    clear hsl hR hB
    by_cases hlt : k < 3
    · have j0 : (k : Int) < 3 := by omega
      have j1 : (0 : Int) ≤ (k : Int) := by omega
      go_wp2_with fail
      go_loopg [5, 6] ll (fun g h i wx => ∃ (m : Nat) (b : Bool), m ≤ ll ∧ g = ll - m ∧ i = .int .i64 m ∧ h = .bool b ∧ Hid (b = stands (l.take m) (k : Int)) ∧ (wx.ownsRow w.heap.size 3 1 u3 (shopsTo l k).length ((shopsTo l k).map (Value.int .i64)) ∧ Hid (Below w.heap.size w wx) ∧ w.heap.size ≤ wx.heap.size))
      case atStart => exact ⟨0, false, Nat.zero_le _, rfl, rfl, rfl, by simp [Hid, stands], HR.out, HB.out, hz⟩
      case round =>
        obtain ⟨m, b, hm, rfl, rfl, rfl, HM, hR2, HB2, hz2⟩ := hrel
        have HR2 : Hid (wr.ownsRow w.heap.size 3 1 u3 (shopsTo l k).length ((shopsTo l k).map (Value.int .i64))) := hR2
        clear hR2 HR HB hz
        by_cases hlt2 : m < ll
        · obtain ⟨⟨c, d⟩, hml⟩ : ∃ x, l[m]? = some x := ⟨_, List.getElem?_eq_getElem (by omega)⟩
          obtain ⟨bl, ol, rfl, hbl, hcl, -⟩ := hl m c d hml
          have hcl' : wr.cell? ⟨bl, ol + m * 2, none⟩ = some (.int .i64 c) := (HB2.out.cell (p := ⟨bl, ol + m * 2, none⟩) hbl).trans hcl
          have i1 : (0 : Int) ≤ (m : Int) := by omega
          have i2 : (m : Int) < (ll : Int) := by omega
          have i3 : (ll : Int) < 2 ^ 62 := by omega
          clear hcl hl
          cases b
          · have HM2 : Hid ((shp c == (k : Int)) = stands (l.take (m + 1)) (k : Int)) := by
              show _ = _
              rw [stands_next hml, ← HM.out, Bool.false_or]
            go_wp2_with fail
            refine (shopOf_any _ _).mono ?_
            rintro e w' ⟨rfl, rfl⟩
            go_wp2_with fail
            go_roundg (ll - (m + 1))
            case measure => omega
            case rel => exact ⟨m + 1, _, by omega, rfl, by simp, rfl, HM2, HR2.out, HB2, hz2⟩
          · have HM2 : Hid (true = stands (l.take (m + 1)) (k : Int)) := by
              show _ = _
              rw [stands_next hml, ← HM.out, Bool.true_or]
            go_wp2_with fail
            go_roundg (ll - (m + 1))
            case measure => omega
            case rel => exact ⟨m + 1, true, by omega, rfl, by simp, rfl, HM2, HR2.out, HB2, hz2⟩
        · have hmm : m = ll := by omega
          subst hmm
          have HM2 : Hid (b = stands l (k : Int)) := by
            have q := HM.out
            rw [List.take_of_length_le (l := l) (by omega)] at q
            exact q
          clear HM
          cases b
          · have HT : Hid _ := shopsTo_miss HM2.out.symm
            go_wp2_with fail
            go_roundg (3 - (k + 1))
            case measure => omega
            case rel => exact ⟨k + 1, by omega, rfl, by simp, by rw [HT.out]; exact HR2.out, HB2.out⟩
          · have HT : Hid _ := shopsTo_hit HM2.out.symm
            go_wp2_with (at_builtin; refine wpList_append_own _ rfl (.tmp 29) (.tmp 31) 57 rfl w.heap.size 3 i0 (.int .i64 0) 1 8 Tryz.underlying57 hi hz0 hz1 hz2' rfl (by decide) _ _ _ rfl (HR2.out.alloc _) ⟨wr.heap.size, 0, none⟩ 1 1 [.int .i64 k] rfl rfl (num_new _ (by simp)) num_cell (by have := HSL.out; unfold maxLen; omega) (by have := HSL.out; omega) (by simp; omega) ?_; intro v7 w7 hown7 hgrow7 _)
            go_roundg (3 - (k + 1))
            case measure => omega
            case rel => exact ⟨k + 1, by omega, rfl, by simp, by rw [HT.out]; simpa using hown7, own_below (HR2.out.alloc _) hgrow7 (HB2.out.alloc hz2 _) (by simp; omega) (Nat.le_refl _)⟩
    · have j0 : ¬ (k : Int) < 3 := by omega
      have hk3 : k = 3 := by omega
      subst hk3
      have HRo : Hid (wr.ownsRow w.heap.size 3 1 u3 (shopsL l).length ((shopsL l).map (Value.int .i64))) := HR.out
      go_wp2_with fail
      go_ret
      exact ⟨⟨_, rfl, HRo.out⟩, HB.out⟩
theorem shopsOf_any (la : Option Addr) (ll lc : Nat) (l : List (Int × Int)) (w : World) (hl : WantsAt w la l) (hll : l.length = ll) (hs : ll < 2 ^ 62) :
    Calls Tryz.prog 81 #[.slice la ll lc] w fun e w' => (∃ ga cap, e = .returned (.slice ga (shopsL l).length cap) ∧ NumsAt w' ga (shopsL l)) ∧ Below w.heap.size w w' := by
  refine (shopsOf_own la ll lc l w hl hll hs).mono ?_
  rintro e w' ⟨⟨v, rfl, hR⟩, hb⟩
  obtain ⟨ga, cap, rfl, hA, _⟩ := nums_of_own hR
  exact ⟨⟨ga, cap, rfl, hA⟩, hb⟩

end Go.Proofs.YtbgnajcmhmpjlacGreat

namespace Go.Proofs.YtbgnajcmhmpjlacGreat
open Go.RowKit

structure DueSt (w : World) (bd : Nat) (vs : List Value) (l : List Ml) (v : Value) (wr : World) : Prop where
  row : wr.ownsRow w.heap.size 70 6 v l.length (flat6 l)
  below : Below w.heap.size w wr
  box : BoxAt wr bd vs
  off : v.ownBlock ≠ some bd
theorem DueSt.next {w wr w1 : World} {bd : Nat} {vs : List Value} {l : List Ml} {v : Value} (h : DueSt w bd vs l v wr) (hb : Below wr.heap.size wr w1) : DueSt w bd vs l v w1 := ⟨own_next h.row hb, after h.below hb h.below.size, h.box.next hb, h.off⟩
theorem DueSt.push {w wr w8 : World} {bd : Nat} {vs : List Value} {l : List Ml} {v v8 : Value} {X : Obj} {m : Ml} (h : DueSt w bd vs l v wr) (hg : (wr.alloc X).grownBy w8 v.ownBlock) (h8 : w8.ownsRow w.heap.size 70 6 v8 (l.length + 1) (flat6 l ++ m.cells)) (hw : ∀ k, v8.ownBlock = some k → v.ownBlock = some k ∨ k = (wr.alloc X).heap.size) : DueSt w bd vs (l ++ [m]) v8 w8 := by
  have h1 := h.next ((Below.refl _ _).alloc (Nat.le_refl _) X)
  refine ⟨?_, own_below h1.row hg h1.below h1.below.size (Nat.le_refl _), h1.box.save ((Save.refl _ _).grown hg (fun k e _ => e)) h.off, fun e => ?_⟩
  · rw [List.length_append, flat6_snoc]
    exact h8
  · rcases hw bd e with q | q
    · exact h.off q
    · have := h1.box.1
      omega
theorem NumsAt.save {O : Nat → Prop} {w w1 : World} {la : Option Addr} {l : List Int} (h : NumsAt w la l) (hb : Save O w w1) (hn : ∀ a, la = some a → ¬ O a.block) : NumsAt w1 la l := by
  intro k c hk
  obtain ⟨b, off, e, hlt, h0⟩ := h k c hk
  have hn' : ¬ O b := hn _ e
  exact ⟨b, off, e, Nat.lt_of_lt_of_le hlt hb.size, (hb.cell (p := ⟨b, off + k, none⟩) hlt hn').trans h0⟩

set_option maxHeartbeats 8000000 in
set_option maxRecDepth 100000 in
theorem qdue_any (O : Nat → Prop) (B : Bok) (q : Nat) (w : World) (h : BokIn 107 42 3 O w q 0 B) (hI : BInv B) :
    Calls Tryz.prog 42 #[.pointer (some ⟨q, 0, none⟩)] w fun e w' => (∃ v, e = .returned v ∧ w'.ownsRow w.heap.size 70 6 v (dueR B).length (flat6 (dueR B))) ∧ Below w.heap.size w w' := by
  obtain ⟨i0, hi, hz0, hz1, hz2⟩ := info_parts infoMail
  obtain ⟨rv, ov, V, hR, _⟩ := h.raw
  have c0 := hR.c0
  have hql := h.lt
  obtain ⟨ga, cap, rfl⟩ := own_sl hR.row
  have HR : Hid (BokRaw 107 42 3 w q 0 B (.slice ga B.L.length cap) ov V) := hR
  have HInv : Hid (BInv B) := hI
  have h8 : (B.L.length : Int) ≤ 8 := by have := hI.len; omega
  clear hR h hI
  go_enter Tryz.func42, Tryz.ntmps42
  go_wp2_with fail
  go_loopg [3, 4, 5, 6, 7, 8] B.L.length (fun g s3 s4 _ _ _ _ wr => ∃ (k : Nat) (v3 : Value), k ≤ B.L.length ∧ g = B.L.length - k ∧ v3 = s3 ∧ s4 = .int .i64 k ∧ wr.ownsRow w.heap.size 70 6 v3 (duesTo B.L k).length (flat6 (duesTo B.L k)) ∧ Below w.heap.size w wr)
  case atStart => exact ⟨0, _, Nat.zero_le _, rfl, rfl, rfl, by rw [duesTo_zero]; exact World.ownsRow_nil _ _ _ _, Below.refl _ _⟩
  case round =>
    obtain ⟨k, v3, hk, rfl, rfl, rfl, hown, hS⟩ := hrel
    have c0' : wr.cell? ⟨q, 0, none⟩ = some (.slice ga B.L.length cap) := ((bcell hS).1 _ _ hql).trans c0
    have HC0 : Hid _ := c0
    clear c0
    by_cases hlt : k < B.L.length
    · obtain ⟨D, hkD⟩ : ∃ x, B.L[k]? = some x := ⟨_, List.getElem?_eq_getElem hlt⟩
      obtain ⟨g, cap', v, erv, hV, h4, _, _⟩ := HR.out.deal4 hkD
      obtain ⟨rfl, rfl⟩ : ga = some ⟨g, 0, none⟩ ∧ cap = cap' := by simpa using erv
      have hF := HInv.out.fit D (List.mem_of_getElem? hkD)
      have hYl := HInv.out.yesLen (List.mem_of_getElem? hkD)
      obtain ⟨vw, vy, vo⟩ := v
      obtain ⟨rw_, ry, ro⟩ := HR.out.deal k D ⟨vw, vy, vo⟩ hkD hV
      obtain ⟨gw, capw, e1, hWa, _⟩ := wants_of_own rw_
      obtain ⟨gy, capy, e2, hYa, _⟩ := nums_of_own ry
      obtain ⟨go, capo, e3, hOa, _⟩ := nums_of_own ro
      simp only at e1 e2 e3
      subst e1
      subst e2
      subst e3
      have qc : ∀ o, wr.cell? ⟨g, o, none⟩ = w.cell? ⟨g, o, none⟩ := fun o => (bcell hS).1 _ _ h4.lt
      have d0 : wr.cell? ⟨g, k * 4, none⟩ = some (.slice gw D.w.length capw) := (qc _).trans h4.c0
      have d1 : wr.cell? ⟨g, k * 4 + 1, none⟩ = some (.int .i64 D.st) := (qc _).trans h4.c1
      have d2 : wr.cell? ⟨g, k * 4 + 2, none⟩ = some (.slice gy D.yes.length capy) := (qc _).trans h4.c2
      have d3 : wr.cell? ⟨g, k * 4 + 3, none⟩ = some (.slice go D.ov.length capo) := (qc _).trans h4.c3
      have j0 : (0 : Int) ≤ (k : Int) := by omega
      have j1 : (k : Int) < (B.L.length : Int) := by omega
      have HWa : Hid (WantsAt w gw D.w) := hWa
      have HYa : Hid (NumsAt w gy D.yes) := hYa
      have HOa : Hid (NumsAt w go D.ov) := hOa
      have HYl : Hid (D.yes.length ≤ 4 ∧ D.ov.length ≤ 3 ∧ D.w.length ≤ 4) := hYl
      have HOw : Hid (wr.ownsRow w.heap.size 70 6 v3 (duesTo B.L k).length (flat6 (duesTo B.L k))) := hown
      have HKL : Hid (k < B.L.length) := hlt
      have HN : Hid _ := duesTo_next hkD
      have HLn : Hid ((duesTo B.L k).length ≤ 32) := by have := duesTo_len (k := k) HInv.out.fit; have := HInv.out.len; show _ ≤ _; omega
      clear hown hk hlt hkD h4 rw_ ry ro hF hWa hYa hOa erv hYl qc hV
      go_upto_region 6 with fail
      have hb2 : Below wr.heap.size wr (wr.alloc (.cells #[.slice gw D.w.length capw, .int .i64 D.st, .slice gy D.yes.length capy, .slice go D.ov.length capo] 107)) := (Below.refl _ _).alloc (Nat.le_refl _) _
      have hY := BoxAt.new wr [.slice gw D.w.length capw, .int .i64 D.st, .slice gy D.yes.length capy, .slice go D.ov.length capo] 107
      change BoxAt (wr.alloc (.cells #[.slice gw D.w.length capw, .int .i64 D.st, .slice gy D.yes.length capy, .slice go D.ov.length capo] 107)) _ _ at hY
      have HSt : Hid (DueSt w wr.heap.size [.slice gw D.w.length capw, .int .i64 D.st, .slice gy D.yes.length capy, .slice go D.ov.length capo] (duesTo B.L k) v3 (wr.alloc (.cells #[.slice gw D.w.length capw, .int .i64 D.st, .slice gy D.yes.length capy, .slice go D.ov.length capo] 107))) := ⟨own_next HOw.out hb2, after hS hb2 hS.size, hY, fun e => by have := (HOw.out.lt _ e).2; omega⟩
      generalize (wr.alloc (.cells #[.slice gw D.w.length capw, .int .i64 D.st, .slice gy D.yes.length capy, .slice go D.ov.length capo] 107)) = w2 at hY HSt ⊢
      generalize wr.heap.size = bd at hY HSt ⊢
      have y1 := hY.2 1 _ rfl
      clear hb2 d0 d1 d2 d3 HOw hS c0'
      by_cases hst : D.st = 0
      · have hst' : (D.st == 0) = true := by simp [hst]
        have HD : Hid (dueD (k : Int) D = asksR (k : Int) D.yes 0 D.w) := by show _ = _; unfold dueD; rw [if_pos hst]
        clear hst hY
        go_wp2_with fail
        clear y1
        go_loopg [3, 6] D.w.length (fun g s3 s6 wx => ∃ (i : Nat) (v : Value), i ≤ D.w.length ∧ g = D.w.length - i ∧ v = s3 ∧ s6 = .int .i64 i ∧ DueSt w bd [.slice gw D.w.length capw, .int .i64 D.st, .slice gy D.yes.length capy, .slice go D.ov.length capo] (duesTo B.L k ++ asksTo (k : Int) D.yes D.w i) v wx)
        case atStart => exact ⟨0, _, Nat.zero_le _, rfl, rfl, rfl, by rw [asksTo_zero, List.append_nil]; exact HSt.out⟩
        case round =>
          obtain ⟨i, v, hi2, rfl, rfl, rfl, hS2⟩ := hrel
          clear HSt
          have x0 := hS2.box.2 0 _ rfl
          have x2 := hS2.box.2 2 _ rfl
          by_cases hil : i < D.w.length
          · obtain ⟨⟨c, d⟩, hwi⟩ : ∃ x, D.w[i]? = some x := ⟨_, List.getElem?_eq_getElem hil⟩
            obtain ⟨bl, ol, rfl, hbl, e0, e1⟩ := HWa.out i c d hwi
            have p0 : wr.cell? ⟨bl, ol + i * 2, none⟩ = some (.int .i64 c) := ((bcell hS2.below).1 _ _ hbl).trans e0
            have p1 : wr.cell? ⟨bl, ol + i * 2 + 1, none⟩ = some (.int .i64 d) := ((bcell hS2.below).1 _ _ hbl).trans e1
            have i0' : (0 : Int) ≤ (i : Int) := by omega
            have i1' : (i : Int) < (D.w.length : Int) := by omega
            have i2' : (D.w.length : Int) ≤ 4 := by have := HYl.out; omega
            have HIL : Hid (i < D.w.length) := hil
            have HWi : Hid (D.w[i]? = some (c, d)) := hwi
            have HS2 : Hid (DueSt w bd [.slice (some ⟨bl, ol, none⟩) D.w.length capw, .int .i64 D.st, .slice gy D.yes.length capy, .slice go D.ov.length capo] (duesTo B.L k ++ asksTo (k : Int) D.yes D.w i) v wr) := hS2
            have HIn : Hid _ := in_any gy D.yes.length capy D.yes (i : Int) wr (HYa.out.below hS2.below (Nat.le_refl _)) rfl (by have := HYl.out; omega)
            have hr4 : IntKind.i64.wrap ((i : Int) + 1) = (i : Int) + 1 := by go_unwrap
            clear hS2 e0 e1 hil hwi hi2
            go_wp2_with fail
            refine Calls.mono HIn.out ?_
            rintro e w3 ⟨rfl, rfl⟩
            clear HIn
            by_cases hm : (i : Int) ∈ D.yes
            · rw [decide_eq_true hm]
              have HE : Hid _ := asksTo_hit (n := (k : Int)) HWi.out hm
              clear hm
              go_wp2_with fail
              go_roundg (D.w.length - (i + 1))
              case measure => have := HIL.out; omega
              case rel => exact ⟨i + 1, v, HIL.out, rfl, rfl, by simp, by rw [HE.out]; exact HS2.out⟩
            · rw [decide_eq_false hm]
              have HE : Hid _ := asksTo_miss (n := (k : Int)) HWi.out hm
              have HLa : Hid ((duesTo B.L k ++ asksTo (k : Int) D.yes D.w i).length ≤ 36) := by have := asksTo_len (k : Int) D.yes D.w i; have := HLn.out; have := HIL.out; have := HYl.out; show _ ≤ _; rw [List.length_append]; omega
              have HSz : Hid (w.heap.size ≤ w3.heap.size) := HS2.out.below.size
              have hbx := HS2.out.box.1
              have hblw : bl < w3.heap.size := Nat.lt_of_lt_of_le hbl HS2.out.below.size
              have HNb : Hid (v.ownBlock ≠ some bl) := fun e => by have := (HS2.out.row.lt _ e).1; omega
              have HNd : Hid (v.ownBlock ≠ some bd) := HS2.out.off
              clear hm
              go_upto_region 11 with fail
              have HK : Hid (∀ w', Below w3.heap.size w3 w' → w'.cell? ⟨bd, 0, none⟩ = some (.slice (some ⟨bl, ol, none⟩) D.w.length capw) ∧ w'.cell? ⟨bl, ol + i * 2, none⟩ = some (.int .i64 c) ∧ w'.cell? ⟨bl, ol + i * 2 + 1, none⟩ = some (.int .i64 d)) := fun w' hb => ⟨((bcell hb).1 _ _ hbx).trans x0, ((bcell hb).1 _ _ hblw).trans p0, ((bcell hb).1 _ _ hblw).trans p1⟩
              obtain ⟨ll, hll⟩ : ∃ ll, ll = duesTo B.L k ++ asksTo (k : Int) D.yes D.w i := ⟨_, rfl⟩
              have HLL : Hid (ll = duesTo B.L k ++ asksTo (k : Int) D.yes D.w i) := hll
              rw [← hll] at HS2 HLa
              clear hll
              go_region_held3 (fun w' => w'.cell? ⟨bd, 0, none⟩ = some (.slice (some ⟨bl, ol, none⟩) D.w.length capw) ∧ w'.cell? ⟨bl, ol + i * 2, none⟩ = some (.int .i64 c) ∧ w'.cell? ⟨bl, ol + i * 2 + 1, none⟩ = some (.int .i64 d))
                (first | exact HK9 | exact HK.out _ (by go_grown))
                (first | (refine step_append_two (by rfl) (.tmp 40) (.tmp 55) 43 (by rfl) w.heap.size 70 i0 (.agg #[.int .i64 0, .int .i64 0, .int .i64 0, .int .i64 0, .int .i64 0, .bool false]) 6 48 Tryz.underlying43 hi hz0 hz1 hz2 rfl (by decide) v _ _ (by rfl) (own_next HS2.out.row (by go_grown)) ⟨w3.heap.size, 0, none⟩ 1 1 [.int .i64 1, .int .i64 (k : Int), .int .i64 (shp c), .int .i64 c, .int .i64 d, .bool false] (by rfl) rfl (mail_lies (by simp [go_sem]) (by simp [go_sem]) (by simp [go_sem]) (by simp [go_sem]) (by simp [go_sem]) (by simp [go_sem])) mail_cell (by have := HLa.out; unfold maxLen; omega) (by have := HLa.out; omega) (by have := HSz.out; simp; omega) (by decide) ?_; intro v8 w8 hown8 hgrow8 hwh8; have HO8 : Hid (w8.ownsRow w.heap.size 70 6 v8 (ll.length + 1) (flat6 ll ++ [.int .i64 1, .int .i64 (k : Int), .int .i64 (shp c), .int .i64 c, .int .i64 d, .bool false])) := hown8; clear hown8; have HK9 : w8.cell? ⟨bd, 0, none⟩ = some (.slice (some ⟨bl, ol, none⟩) D.w.length capw) ∧ w8.cell? ⟨bl, ol + i * 2, none⟩ = some (.int .i64 c) ∧ w8.cell? ⟨bl, ol + i * 2 + 1, none⟩ = some (.int .i64 d) := ⟨hgrow8.cell (by simp [go_sem, x0, hbx]) (fun e => HNd.out e.symm), hgrow8.cell (by simp [go_sem, p0, hblw]) (fun e => HNb.out e.symm), hgrow8.cell (by simp [go_sem, p1, hblw]) (fun e => HNb.out e.symm)⟩; have HG8 : Hid _ := hgrow8; have HW8 : Hid _ := hwh8; clear hgrow8 hwh8) | (go_at_call 80; refine (shopOf_any _ _).mono ?_; rintro e w9 ⟨rfl, rfl⟩))
              all_goals
                have HS8 : Hid (DueSt w bd [.slice (some ⟨bl, ol, none⟩) D.w.length capw, .int .i64 D.st, .slice gy D.yes.length capy, .slice go D.ov.length capo] (ll ++ [⟨1, (k : Int), shp c, c, d, false⟩]) v8 w8) := (HS2.out.next ((Below.refl _ _).drew)).push HG8.out HO8.out HW8.out
                clear HG8 HO8 HW8 HK9 x0 x2 p0 p1
                go_wp2_with fail
                go_roundg (D.w.length - (i + 1))
                case measure => have := HIL.out; omega
                case rel => exact ⟨i + 1, v8, HIL.out, rfl, rfl, by simp, by rw [HE.out, ← List.append_assoc, ← HLL.out]; exact HS8.out⟩
          · have hii : i = D.w.length := by omega
            subst hii
            rw [asksTo_all, ← HD.out, ← HN.out] at hS2
            have HS2 : Hid _ := hS2
            have hr4 : IntKind.i64.wrap ((k : Int) + 1) = (k : Int) + 1 := by go_unwrap
            clear hS2 hi2 hil
            go_wp2_with fail
            go_roundg (B.L.length - (k + 1))
            case measure => have := HKL.out; omega
            case rel => exact ⟨k + 1, v, HKL.out, rfl, rfl, by simp, HS2.out.row, HS2.out.below⟩
      · have hst' : (D.st == 0) = false := by simpa using hst
        have HD : Hid (dueD (k : Int) D = endsR (k : Int) D) := by show _ = _; unfold dueD; rw [if_neg hst]
        have HSh : Hid _ := shopsOf_own gw D.w.length capw D.w w2 (HWa.out.below HSt.out.below (Nat.le_refl _)) rfl (by have := HYl.out; omega)
        have y0 := hY.2 0 _ rfl
        clear hst hY
        go_wp2_with fail
        refine Calls.mono HSh.out ?_
        rintro e w3 ⟨⟨vs, rfl, hrs⟩, hb3⟩
        have HSt3 : Hid _ := HSt.out.next hb3
        obtain ⟨gs, caps, rfl, hNs, _⟩ := nums_of_own hrs
        have HNs : Hid (NumsAt w3 gs (shopsL D.w)) := hNs
        have HVs : Hid (∀ a, gs = some a → v3.ownBlock ≠ some a.block) := fun a e e2 => by
          subst e
          have h1 := (hrs.lt a.block rfl).1
          have h2 := (HSt.out.row.lt _ e2).2
          omega
        have HL3 : Hid ((shopsL D.w).length ≤ 3) := shopsTo_length D.w 3
        clear hrs hb3 hNs HSh HSt y0 y1
        go_wp2_with fail
        go_loopg [3, 8] (shopsL D.w).length (fun g s3 s8 wx => ∃ (i : Nat) (v : Value), i ≤ (shopsL D.w).length ∧ g = (shopsL D.w).length - i ∧ v = s3 ∧ s8 = .int .i64 i ∧ DueSt w bd [.slice gw D.w.length capw, .int .i64 D.st, .slice gy D.yes.length capy, .slice go D.ov.length capo] (duesTo B.L k ++ endsTo (k : Int) D i) v wx ∧ Hid (NumsAt wx gs (shopsL D.w)) ∧ Hid (∀ a, gs = some a → v.ownBlock ≠ some a.block))
        case atStart => exact ⟨0, _, Nat.zero_le _, rfl, rfl, rfl, by rw [endsTo_zero, List.append_nil]; exact HSt3.out, HNs, HVs⟩
        case round =>
          obtain ⟨i, v, hi2, rfl, rfl, rfl, hS2, HNr, HVr⟩ := hrel
          clear HSt3 HNs HVs
          have x1 := hS2.box.2 1 _ rfl
          have x3 := hS2.box.2 3 _ rfl
          by_cases hil : i < (shopsL D.w).length
          · obtain ⟨s, hsi⟩ : ∃ x, (shopsL D.w)[i]? = some x := ⟨_, List.getElem?_eq_getElem hil⟩
            obtain ⟨bl, ol, egs, hbl, p0⟩ := HNr.out i s hsi
            subst egs
            have i0' : (0 : Int) ≤ (i : Int) := by omega
            have i1' : (i : Int) < ((shopsL D.w).length : Int) := by omega
            have i2' : ((shopsL D.w).length : Int) ≤ 3 := by have := HL3.out; omega
            have HIL : Hid (i < (shopsL D.w).length) := hil
            have HSi : Hid ((shopsL D.w)[i]? = some s) := hsi
            have HS2 : Hid (DueSt w bd [.slice gw D.w.length capw, .int .i64 D.st, .slice gy D.yes.length capy, .slice go D.ov.length capo] (duesTo B.L k ++ endsTo (k : Int) D i) v wr) := hS2
            have HIn : Hid (∀ W, Below wr.heap.size wr W → Calls Tryz.prog 79 #[.slice go D.ov.length capo, .int .i64 s] W fun e w' => e = .returned (.bool (decide (s ∈ D.ov))) ∧ w' = W) := fun W hW => in_any go D.ov.length capo D.ov s W ((HOa.out.below HS2.out.below (Nat.le_refl _)).below hW (Nat.le_refl _)) rfl (by have := HYl.out; omega)
            have hr4 : IntKind.i64.wrap ((i : Int) + 1) = (i : Int) + 1 := by go_unwrap
            have hbx := hS2.box.1
            have HK : Hid (∀ w', Below wr.heap.size wr w' → w'.cell? ⟨bd, 3, none⟩ = some (.slice go D.ov.length capo) ∧ w'.cell? ⟨bl, ol + i, none⟩ = some (.int .i64 s) ∧ Below wr.heap.size wr w') := fun w' hb => ⟨((bcell hb).1 _ _ hbx).trans x3, ((bcell hb).1 _ _ hbl).trans p0, hb⟩
            clear hS2 hil hsi hi2
            go_upto_region 16 with fail
            go_region_held3 (fun w' => w'.cell? ⟨bd, 3, none⟩ = some (.slice go D.ov.length capo) ∧ w'.cell? ⟨bl, ol + i, none⟩ = some (.int .i64 s) ∧ Below wr.heap.size wr w')
              (first | exact HK.out _ (by go_grown))
              (first | (go_at_call 79; refine Calls.mono (HIn.out _ (by go_grown)) ?_; rintro e w9 ⟨rfl, rfl⟩))
            have hbd : Below wr.heap.size wr wr.drew := (Below.refl _ _).drew
            have HS3 : Hid (DueSt w bd [.slice gw D.w.length capw, .int .i64 D.st, .slice gy D.yes.length capy, .slice go D.ov.length capo] (duesTo B.L k ++ endsTo (k : Int) D i) v wr.drew) := HS2.out.next hbd
            have HN3 : Hid (NumsAt wr.drew (some ⟨bl, ol, none⟩) (shopsL D.w)) := HNr.out.below hbd (Nat.le_refl _)
            have z1 : wr.drew.cell? ⟨bd, 1, none⟩ = some (.int .i64 D.st) := ((bcell hbd).1 _ _ hbx).trans x1
            have z2 : wr.drew.cell? ⟨bl, ol + i, none⟩ = some (.int .i64 s) := ((bcell hbd).1 _ _ hbl).trans p0
            have zl : bl < wr.drew.heap.size := hbl
            have zx : bd < wr.drew.heap.size := hbx
            generalize wr.drew = w5 at HS3 HN3 z1 z2 zl zx ⊢
            clear x1 x3 p0 hbl hbx hbd HK HIn HS2 HNr
            by_cases hm : s ∈ D.ov
            · rw [decide_eq_true hm]
              have HE : Hid _ := endsTo_hit (n := (k : Int)) HSi.out hm
              clear hm
              go_wp2_with fail
              go_roundg ((shopsL D.w).length - (i + 1))
              case measure => have := HIL.out; omega
              case rel => exact ⟨i + 1, v, HIL.out, rfl, rfl, by simp, by rw [HE.out]; exact HS3.out, HN3, HVr⟩
            · rw [decide_eq_false hm]
              have HE : Hid _ := endsTo_miss (n := (k : Int)) HSi.out hm
              have HLa : Hid ((duesTo B.L k ++ endsTo (k : Int) D i).length ≤ 36) := by have := endsTo_len (k : Int) D i; have := HLn.out; have := HIL.out; have := HL3.out; show _ ≤ _; rw [List.length_append]; omega
              have HSz : Hid (w.heap.size ≤ w5.heap.size) := HS3.out.below.size
              have HNb : Hid (v.ownBlock ≠ some bl) := HVr.out _ rfl
              have HNd : Hid (v.ownBlock ≠ some bd) := HS3.out.off
              clear hm
              go_upto_region 17 with fail
              have HK : Hid (∀ w', Below w5.heap.size w5 w' → w'.cell? ⟨bd, 1, none⟩ = some (.int .i64 D.st) ∧ w'.cell? ⟨bl, ol + i, none⟩ = some (.int .i64 s)) := fun w' hb => ⟨((bcell hb).1 _ _ zx).trans z1, ((bcell hb).1 _ _ zl).trans z2⟩
              obtain ⟨ll, hll⟩ : ∃ ll, ll = duesTo B.L k ++ endsTo (k : Int) D i := ⟨_, rfl⟩
              have HLL : Hid (ll = duesTo B.L k ++ endsTo (k : Int) D i) := hll
              rw [← hll] at HS3 HLa
              clear hll
              go_region_held3 (fun w' => w'.cell? ⟨bd, 1, none⟩ = some (.int .i64 D.st) ∧ w'.cell? ⟨bl, ol + i, none⟩ = some (.int .i64 s))
                (first | exact HK9 | exact HK.out _ (by go_grown))
                (first | (refine step_append_two (by rfl) (.tmp 74) (.tmp 84) 43 (by rfl) w.heap.size 70 i0 (.agg #[.int .i64 0, .int .i64 0, .int .i64 0, .int .i64 0, .int .i64 0, .bool false]) 6 48 Tryz.underlying43 hi hz0 hz1 hz2 rfl (by decide) v _ _ (by rfl) (own_next HS3.out.row (by go_grown)) ⟨w5.heap.size, 0, none⟩ 1 1 [.int .i64 3, .int .i64 (k : Int), .int .i64 s, .int .i64 0, .int .i64 0, .bool (D.st == 1)] (by rfl) rfl (mail_lies (by simp [go_sem]) (by simp [go_sem]) (by simp [go_sem]) (by simp [go_sem]) (by simp [go_sem]) (by simp [go_sem])) mail_cell (by have := HLa.out; unfold maxLen; omega) (by have := HLa.out; omega) (by have := HSz.out; simp; omega) (by decide) ?_; intro v8 w8 hown8 hgrow8 hwh8; have HO8 : Hid (w8.ownsRow w.heap.size 70 6 v8 (ll.length + 1) (flat6 ll ++ [.int .i64 3, .int .i64 (k : Int), .int .i64 s, .int .i64 0, .int .i64 0, .bool (D.st == 1)])) := hown8; clear hown8; have HK9 : w8.cell? ⟨bd, 1, none⟩ = some (.int .i64 D.st) ∧ w8.cell? ⟨bl, ol + i, none⟩ = some (.int .i64 s) := ⟨hgrow8.cell (by simp [go_sem, z1, zx]) (fun e => HNd.out e.symm), hgrow8.cell (by simp [go_sem, z2, zl]) (fun e => HNb.out e.symm)⟩; have HG8 : Hid _ := hgrow8; have HW8 : Hid _ := hwh8; clear hgrow8 hwh8))
              all_goals
                have HS8 : Hid (DueSt w bd [.slice gw D.w.length capw, .int .i64 D.st, .slice gy D.yes.length capy, .slice go D.ov.length capo] (ll ++ [⟨3, (k : Int), s, 0, 0, D.st == 1⟩]) v8 w8) := (HS3.out.next ((Below.refl _ _).drew)).push HG8.out HO8.out HW8.out
                have HN8 : Hid (NumsAt w8 (some ⟨bl, ol, none⟩) (shopsL D.w)) := NumsAt.save (O := fun k => v.ownBlock = some k) (HN3.out.below (by go_grown) (Nat.le_refl _)) ((Save.refl _ _).grown HG8.out (fun k e _ => e)) (fun a e q => HVr.out a e q)
                have HV8 : Hid (∀ a, (some ⟨bl, ol, none⟩ : Option Addr) = some a → v8.ownBlock ≠ some a.block) := fun a e e2 => by
                  rcases HW8.out _ e2 with q | q
                  · exact HVr.out a e q
                  · obtain rfl := Option.some.inj e
                    simp at q
                    omega
                clear HG8 HO8 HW8 HK9 z1 z2
                go_wp2_with fail
                go_roundg ((shopsL D.w).length - (i + 1))
                case measure => have := HIL.out; omega
                case rel => exact ⟨i + 1, v8, HIL.out, rfl, rfl, by simp, by rw [HE.out, ← List.append_assoc, ← HLL.out]; exact HS8.out, HN8, HV8⟩
          · have hii : i = (shopsL D.w).length := by omega
            subst hii
            rw [endsTo_all, ← HD.out, ← HN.out] at hS2
            have HS2 : Hid _ := hS2
            have hr4 : IntKind.i64.wrap ((k : Int) + 1) = (k : Int) + 1 := by go_unwrap
            clear hS2 hi2 hil
            go_wp2_with fail
            go_roundg (B.L.length - (k + 1))
            case measure => have := HKL.out; omega
            case rel => exact ⟨k + 1, v, HKL.out, rfl, rfl, by simp, HS2.out.row, HS2.out.below⟩
    · have hkk : k = B.L.length := by omega
      subst hkk
      rw [duesTo_all] at hown
      have HOw : Hid (wr.ownsRow w.heap.size 70 6 v3 (duesR 0 B.L).length (flat6 (duesR 0 B.L))) := hown
      clear hown
      go_wp2_with fail
      go_ret
      exact ⟨⟨v3, rfl, HOw.out⟩, hS⟩

end Go.Proofs.YtbgnajcmhmpjlacGreat

namespace Go.Proofs.YtbgnajcmhmpjlacGreat
open Go.RowKit

set_option maxHeartbeats 4000000 in
set_option maxRecDepth 100000 in
theorem qhear_none (O : Nat → Prop) (B : Bok) (q : Nat) (m : Ml) (w : World) (h : BokIn 107 42 3 O w q 0 B) (hI : BInv B) (hd : dealAt B m.deal = none) :
    Calls Tryz.prog 73 #[.pointer (some ⟨q, 0, none⟩), .agg #[.int .i64 m.kind, .int .i64 m.deal, .int .i64 m.shop, .int .i64 m.c, .int .i64 m.d, .bool m.yes]] w fun e w' => e = .returned (.tuple #[]) ∧ BokTo 107 42 3 O w w' q 0 (hearR B m) := by
  have HI : Hid (BokIn 107 42 3 O w q 0 B) := h
  have HE : Hid _ := hear_none hd
  have hs : stR B m.deal = -1 := by unfold stR; rw [hd]
  go_enter Tryz.func73, Tryz.ntmps73
  go_upto_region 1 with fail
  have hb1 : Below w.heap.size w (w.alloc (.cells #[.int .i64 m.kind, .int .i64 m.deal, .int .i64 m.shop, .int .i64 m.c, .int .i64 m.d, .bool m.yes] 70)) := (Below.refl _ _).alloc (Nat.le_refl _) _
  have hX := MBx.new w m
  generalize (w.alloc (.cells #[.int .i64 m.kind, .int .i64 m.deal, .int .i64 m.shop, .int .i64 m.c, .int .i64 m.d, .bool m.yes] 70)) = w1 at hb1 hX ⊢
  have HSt : Hid _ := qstate_any O B q m.deal w1 (h.next hb1) hI.len
  rw [hs] at HSt
  generalize w.heap.size = B0 at hX ⊢
  have x1 := hX.c1
  clear h hI hd hX hs
  go_wp2_with fail
  refine Calls.mono HSt.out ?_
  rintro e w1' ⟨rfl, rfl⟩
  go_wp2_with fail
  exact bodyPost_ret (v := .tuple #[]) (by simp [results, Tryz.results73, go_sem]) rfl ⟨rfl, by rw [HE.out]; exact BokTo.stay HI.out hb1⟩

set_option maxHeartbeats 4000000 in
set_option maxRecDepth 100000 in
theorem qhear_other (O : Nat → Prop) (B : Bok) (q : Nat) (m : Ml) (D : Dl) (w : World) (h : BokIn 107 42 3 O w q 0 B) (hI : BInv B) (hd : dealAt B m.deal = some D) (h24 : m.kind ≠ 2 ∧ m.kind ≠ 4) :
    Calls Tryz.prog 73 #[.pointer (some ⟨q, 0, none⟩), .agg #[.int .i64 m.kind, .int .i64 m.deal, .int .i64 m.shop, .int .i64 m.c, .int .i64 m.d, .bool m.yes]] w fun e w' => e = .returned (.tuple #[]) ∧ BokTo 107 42 3 O w w' q 0 (hearR B m) := by
  have HI : Hid (BokIn 107 42 3 O w q 0 B) := h
  have HInv : Hid (BInv B) := hI
  have hYl := hI.yesLen (dealAt_mem hd)
  obtain ⟨rv, ov, V, hR, hsub⟩ := h.raw
  obtain ⟨k, hmk0, hk, hkD⟩ := dealAt_some hd
  have hmk : Hid (m.deal = (k : Int)) := hmk0
  clear hmk0
  obtain ⟨g, cap, v, rfl, hV, h4, hqg, _⟩ := hR.deal4 hkD
  obtain ⟨vw, vy, vo⟩ := v
  obtain ⟨rw_, ry, ro⟩ := hR.deal k D ⟨vw, vy, vo⟩ hkD hV
  obtain ⟨gw, capw, e1, hWa, _⟩ := wants_of_own rw_
  obtain ⟨gy, capy, e2, hYa, _⟩ := nums_of_own ry
  obtain ⟨go, capo, e3, hOa, _⟩ := nums_of_own ro
  simp only at e1 e2 e3
  subst e1
  subst e2
  subst e3
  have c0 := hR.c0
  have hql := h.lt
  have j0 : (0 : Int) ≤ (k : Int) := by omega
  have j1 : (k : Int) < (B.L.length : Int) := by omega
  have j2 : (B.L.length : Int) ≤ 8 := by have := hI.len; omega
  have HK24 : Hid (m.kind ≠ 2 ∧ m.kind ≠ 4) := h24
  clear h24
  go_enter Tryz.func73, Tryz.ntmps73
  go_upto_region 1 with fail
  have hb1 : Below w.heap.size w (w.alloc (.cells #[.int .i64 m.kind, .int .i64 m.deal, .int .i64 m.shop, .int .i64 m.c, .int .i64 m.d, .bool m.yes] 70)) := (Below.refl _ _).alloc (Nat.le_refl _) _
  have hX := MBx.new w m
  generalize (w.alloc (.cells #[.int .i64 m.kind, .int .i64 m.deal, .int .i64 m.shop, .int .i64 m.c, .int .i64 m.d, .bool m.yes] 70)) = w1 at hb1 hX ⊢
  have HSt : Hid _ := qstate_any O B q m.deal w1 (h.next hb1) hI.len
  have hst1 := stR_there hI hd
  have h41 := h4.next hb1
  have c01 : w1.cell? ⟨q, 0, none⟩ = some (.slice (some ⟨g, 0, none⟩) B.L.length cap) := ((bcell hb1).1 _ _ hql).trans c0
  have HWa : Hid (WantsAt w1 gw D.w) := hWa.below hb1 (Nat.le_refl _)
  have HYa : Hid (NumsAt w1 gy D.yes) := hYa.below hb1 (Nat.le_refl _)
  have HOa : Hid (NumsAt w1 go D.ov) := hOa.below hb1 (Nat.le_refl _)
  have hgw : g < w.heap.size := h4.lt
  have HBg : Hid (g ≠ w.heap.size) := by show _ ≠ _; omega
  generalize hB0 : w.heap.size = B0 at hX ⊢
  have HB0 : Hid (w.heap.size = B0) := hB0
  clear hB0
  have x1 := hX.c1
  have x1' := hX.c1
  rw [hmk.out] at x1'
  have hz1 := hX.lt
  have HR : Hid (BokRaw 107 42 3 w q 0 B (.slice (some ⟨g, 0, none⟩) B.L.length cap) ov V) := hR
  have HV : Hid (V[k]? = some ⟨.slice gw D.w.length capw, .slice gy D.yes.length capy, .slice go D.ov.length capo⟩) := hV
  have HSub : Hid (∀ u ∈ (.slice (some ⟨g, 0, none⟩) B.L.length cap : Value) :: ov :: V.flatMap DV.all, ∀ k, u.ownBlock = some k → O k) := hsub
  have HB1 : Hid (Below w.heap.size w w1) := hb1
  have HD : Hid _ := hd
  have HkD : Hid _ := hkD
  have HYl : Hid (D.yes.length ≤ 4 ∧ D.ov.length ≤ 3 ∧ D.w.length ≤ 4) := hYl
  clear h hR hV hsub hb1 hd h4 c0 hkD hI hWa hYa hOa rw_ ry ro hYl
  clear x1'
  go_wp2_with fail
  refine Calls.mono HSt.out ?_
  rintro e w1' ⟨rfl, rfl⟩
  rw [hmk.out] at x1
  go_wp2_with fail
  go_quiet (fail)
  go_wp2_with fail
  have hbq := bdrewN HB1.out nq
  have hXq := hX.next (w1 := w1'.drewN nq) (bdrewN (Below.refl _ _) _)
  have h4q := h41.next (w1 := w1'.drewN nq) (bdrewN (Below.refl _ _) _)
  have HWq : Hid (WantsAt (w1'.drewN nq) gw D.w) := HWa.out.below (bdrewN (Below.refl _ _) _) (Nat.le_refl _)
  have HYq : Hid (NumsAt (w1'.drewN nq) gy D.yes) := HYa.out.below (bdrewN (Below.refl _ _) _) (Nat.le_refl _)
  have HOq : Hid (NumsAt (w1'.drewN nq) go D.ov) := HOa.out.below (bdrewN (Below.refl _ _) _) (Nat.le_refl _)
  generalize (w1'.drewN nq) = w2 at hbq hXq h4q HWq HYq HOq ⊢
  clear hX h41 HWa HYa HOa c01 x1 hz1 HB1 HSt hst1
  have HE : Hid (hearR B m = B) := hear_other HK24.out.1 HK24.out.2
  have k4 : (m.kind == 4) = false := by simpa using HK24.out.2
  have k2 : (m.kind != 2) = true := by simpa using HK24.out.1
  have x0 := hXq.c0
  have hxl := hXq.lt
  clear HK24
  go_quiet (fail)
  go_wp2_with fail
  go_quiet (fail)
  go_wp2_with fail
  exact bodyPost_ret (v := .tuple #[]) (by simp [results, Tryz.results73, go_sem]) rfl ⟨rfl, by rw [HE.out]; exact BokTo.stay HI.out (bdrewN (bdrewN hbq _) _)⟩

theorem BokTo.next {tD tW tI : TypeId} {O : Nat → Prop} {w w1 w' : World} {q o : Nat} {B' : Bok} (hs : BokTo tD tW tI O w w1 q o B') (hb : Below w1.heap.size w1 w') : BokTo tD tW tI O w w' q o B' := by
  obtain ⟨O', h1, h2, h3, h4⟩ := hs
  exact ⟨O', h1.next hb, h2.next hb, h3, fun j a b => (hb.cell (p := ⟨q, j, none⟩) h1.lt).trans (h4 j a b)⟩
theorem bok_ov {O : Nat → Prop} {w w3 w8 : World} {q g n cap k : Nat} {B : Bok} {ov v8 : Value} {V : List DV} {D : Dl} {v : DV} {l : List Int} (h : BokIn 107 42 3 O w q 0 B) (hsub : ∀ u ∈ (.slice (some ⟨g, 0, none⟩) n cap : Value) :: ov :: V.flatMap DV.all, ∀ k, u.ownBlock = some k → O k) (hR : BokRaw 107 42 3 w q 0 B (.slice (some ⟨g, 0, none⟩) n cap) ov V) (hk : B.L[k]? = some D) (hv : V[k]? = some v) (hb : Below w.heap.size w w3)
    (h8 : Save (fun b => v.o.ownBlock = some b) w3 w8) (hr8 : w8.ownsRow (q + 1) 3 1 v8 l.length (l.map (Value.int .i64))) (hw8 : ∀ j, v8.ownBlock = some j → v.o.ownBlock = some j ∨ w3.heap.size ≤ j) : BokTo 107 42 3 O w (w8.setCell ⟨g, k * 4 + 3, none⟩ v8) q 0 (putD B (k : Int) { D with ov := l }) := by
  have hR3 : BokRaw 107 42 3 w3 q 0 B (.slice (some ⟨g, 0, none⟩) n cap) ov V := hR.save h.lt (.of_below (O := fun _ => False) hb) (fun q => q) (fun _ _ _ _ q => q)
  have hl3 : q < w3.heap.size := Nat.lt_of_lt_of_le h.lt hb.size
  have hgO : O g := hsub _ List.mem_cons_self g rfl
  have hoO : ∀ j, v.o.ownBlock = some j → O j := fun j hj => hsub v.o (by simp [(mem_all hv).2.2]) j hj
  have hqg : q ≠ g := by have := (hR.row.lt g rfl).1; omega
  have hqo : ¬ v.o.ownBlock = some q := fun e => by have := (((hR.deal k D v hk hv).2.2).lt q e).1; omega
  have hS : Save O w (w8.setCell ⟨g, k * 4 + 3, none⟩ v8) := (((Save.of_below hb).trans h8 (fun j _ e => hoO j e))).setCell (p := ⟨g, k * 4 + 3, none⟩) (fun _ => hgO) _
  have hsz : (w8.setCell ⟨g, k * 4 + 3, none⟩ v8).heap.size = w8.heap.size := by simp
  refine bok_to h.own h.mine hS (hR3.ov' hl3 (fun u hu j hj => Nat.lt_of_lt_of_le (h.own j (hsub u hu j hj)) hb.size) hk hv h8 hr8 hw8) ?_ ?_ (fun j _ _ => (cell_set_block hqg).trans ((h8.cell (p := ⟨q, j, none⟩) hl3 hqo).trans (hb.cell (p := ⟨q, j, none⟩) h.lt)))
  · intro j
    have := (h8.frozen (p := ⟨q, j, none⟩) hl3 hqo).trans ((h.next hb).loose j)
    simpa [go_sem] using this
  · intro u hu j hj
    rw [hsz]
    have old : ∀ x ∈ (.slice (some ⟨g, 0, none⟩) n cap : Value) :: ov :: V.flatMap DV.all, x.ownBlock = some j → (O j ∨ w.heap.size ≤ j) ∧ j < w8.heap.size := fun x hx hj => by
      have h1 := hsub x hx j hj
      have h2 := h.own j h1
      have h3 := hb.size
      have h4 := h8.size
      exact ⟨.inl h1, by omega⟩
    rcases List.mem_cons.1 hu with rfl | hu
    · exact old _ (by simp) hj
    · rcases List.mem_cons.1 hu with rfl | hu
      · exact old _ (by simp) hj
      · rw [(all_o v8 hv).1] at hu
        rcases mem_set hu with rfl | hu
        · refine ⟨?_, (hr8.lt j hj).2⟩
          rcases hw8 j hj with e | e
          · exact .inl (hoO j e)
          · exact .inr (by have := hb.size; omega)
        · exact old _ (by simp [hu]) hj
theorem bok_yes {O : Nat → Prop} {w w3 w8 : World} {q g n cap k : Nat} {B : Bok} {ov v8 : Value} {V : List DV} {D : Dl} {v : DV} {l : List Int} (h : BokIn 107 42 3 O w q 0 B) (hsub : ∀ u ∈ (.slice (some ⟨g, 0, none⟩) n cap : Value) :: ov :: V.flatMap DV.all, ∀ k, u.ownBlock = some k → O k) (hR : BokRaw 107 42 3 w q 0 B (.slice (some ⟨g, 0, none⟩) n cap) ov V) (hk : B.L[k]? = some D) (hv : V[k]? = some v) (hb : Below w.heap.size w w3)
    (h8 : Save (fun b => v.y.ownBlock = some b) w3 w8) (hr8 : w8.ownsRow (q + 1) 3 1 v8 l.length (l.map (Value.int .i64))) (hw8 : ∀ j, v8.ownBlock = some j → v.y.ownBlock = some j ∨ w3.heap.size ≤ j) : BokTo 107 42 3 O w (w8.setCell ⟨g, k * 4 + 2, none⟩ v8) q 0 (putD B (k : Int) { D with yes := l }) ∧ BokRaw 107 42 3 (w8.setCell ⟨g, k * 4 + 2, none⟩ v8) q 0 (putD B (k : Int) { D with yes := l }) (.slice (some ⟨g, 0, none⟩) n cap) ov (V.set k { v with y := v8 }) ∧ Save O w (w8.setCell ⟨g, k * 4 + 2, none⟩ v8) ∧ (∀ u ∈ (.slice (some ⟨g, 0, none⟩) n cap : Value) :: ov :: (V.set k { v with y := v8 }).flatMap DV.all, ∀ j, u.ownBlock = some j → (O j ∨ w.heap.size ≤ j) ∧ j < (w8.setCell ⟨g, k * 4 + 2, none⟩ v8).heap.size) ∧ (∀ j, (w8.setCell ⟨g, k * 4 + 2, none⟩ v8).cell? ⟨q, j, none⟩ = w.cell? ⟨q, j, none⟩) ∧ (∀ j, (w8.setCell ⟨g, k * 4 + 2, none⟩ v8).frozen? ⟨q, j, none⟩ = false) := by
  have hR3 : BokRaw 107 42 3 w3 q 0 B (.slice (some ⟨g, 0, none⟩) n cap) ov V := hR.save h.lt (.of_below (O := fun _ => False) hb) (fun q => q) (fun _ _ _ _ q => q)
  have hl3 : q < w3.heap.size := Nat.lt_of_lt_of_le h.lt hb.size
  have hgO : O g := hsub _ List.mem_cons_self g rfl
  have hoO : ∀ j, v.y.ownBlock = some j → O j := fun j hj => hsub v.y (by simp [(mem_all hv).2.1]) j hj
  have hqg : q ≠ g := by have := (hR.row.lt g rfl).1; omega
  have hqo : ¬ v.y.ownBlock = some q := fun e => by have := (((hR.deal k D v hk hv).2.1).lt q e).1; omega
  have hS : Save O w (w8.setCell ⟨g, k * 4 + 2, none⟩ v8) := (((Save.of_below hb).trans h8 (fun j _ e => hoO j e))).setCell (p := ⟨g, k * 4 + 2, none⟩) (fun _ => hgO) _
  have hsz : (w8.setCell ⟨g, k * 4 + 2, none⟩ v8).heap.size = w8.heap.size := by simp
  have hR9 := hR3.yes hl3 (fun u hu j hj => Nat.lt_of_lt_of_le (h.own j (hsub u hu j hj)) hb.size) hk hv h8 hr8 hw8
  have hcl : ∀ j, (w8.setCell ⟨g, k * 4 + 2, none⟩ v8).cell? ⟨q, j, none⟩ = w.cell? ⟨q, j, none⟩ := fun j => (cell_set_block hqg).trans ((h8.cell (p := ⟨q, j, none⟩) hl3 hqo).trans (hb.cell (p := ⟨q, j, none⟩) h.lt))
  have hfz : ∀ j, (w8.setCell ⟨g, k * 4 + 2, none⟩ v8).frozen? ⟨q, j, none⟩ = false := by
    intro j
    have := (h8.frozen (p := ⟨q, j, none⟩) hl3 hqo).trans ((h.next hb).loose j)
    simpa [go_sem] using this
  have hrw : ∀ u ∈ (.slice (some ⟨g, 0, none⟩) n cap : Value) :: ov :: (V.set k { v with y := v8 }).flatMap DV.all, ∀ j, u.ownBlock = some j → (O j ∨ w.heap.size ≤ j) ∧ j < (w8.setCell ⟨g, k * 4 + 2, none⟩ v8).heap.size := by
    intro u hu j hj
    rw [hsz]
    have old : ∀ x ∈ (.slice (some ⟨g, 0, none⟩) n cap : Value) :: ov :: V.flatMap DV.all, x.ownBlock = some j → (O j ∨ w.heap.size ≤ j) ∧ j < w8.heap.size := fun x hx hj => by
      have h1 := hsub x hx j hj
      have h2 := h.own j h1
      have h3 := hb.size
      have h4 := h8.size
      exact ⟨.inl h1, by omega⟩
    rcases List.mem_cons.1 hu with rfl | hu
    · exact old _ (by simp) hj
    · rcases List.mem_cons.1 hu with rfl | hu
      · exact old _ (by simp) hj
      · rw [(all_y v8 hv).1] at hu
        rcases mem_set hu with rfl | hu
        · refine ⟨?_, (hr8.lt j hj).2⟩
          rcases hw8 j hj with e | e
          · exact .inl (hoO j e)
          · exact .inr (by have := hb.size; omega)
        · exact old _ (by simp [hu]) hj
  exact ⟨bok_to h.own h.mine hS hR9 hfz hrw (fun j _ _ => hcl j), hR9, hS, hrw, hcl, hfz⟩

set_option maxHeartbeats 8000000 in
set_option maxRecDepth 100000 in
theorem qhear_over (O : Nat → Prop) (B : Bok) (q : Nat) (m : Ml) (D : Dl) (w : World) (h : BokIn 107 42 3 O w q 0 B) (hI : BInv B) (hd : dealAt B m.deal = some D) (hk4 : m.kind = 4) :
    Calls Tryz.prog 73 #[.pointer (some ⟨q, 0, none⟩), .agg #[.int .i64 m.kind, .int .i64 m.deal, .int .i64 m.shop, .int .i64 m.c, .int .i64 m.d, .bool m.yes]] w fun e w' => e = .returned (.tuple #[]) ∧ BokTo 107 42 3 O w w' q 0 (hearR B m) := by
  have HI : Hid (BokIn 107 42 3 O w q 0 B) := h
  have HInv : Hid (BInv B) := hI
  have hYl := hI.yesLen (dealAt_mem hd)
  obtain ⟨rv, ov, V, hR, hsub⟩ := h.raw
  obtain ⟨k, hmk0, hk, hkD⟩ := dealAt_some hd
  have hmk : Hid (m.deal = (k : Int)) := hmk0
  clear hmk0
  obtain ⟨g, cap, v, rfl, hV, h4, hqg, _⟩ := hR.deal4 hkD
  obtain ⟨vw, vy, vo⟩ := v
  obtain ⟨rw_, ry, ro⟩ := hR.deal k D ⟨vw, vy, vo⟩ hkD hV
  obtain ⟨gw, capw, e1, hWa, _⟩ := wants_of_own rw_
  obtain ⟨gy, capy, e2, hYa, _⟩ := nums_of_own ry
  obtain ⟨go, capo, e3, hOa, _⟩ := nums_of_own ro
  simp only at e1 e2 e3
  subst e1
  subst e2
  subst e3
  have c0 := hR.c0
  have hql := h.lt
  have j0 : (0 : Int) ≤ (k : Int) := by omega
  have j1 : (k : Int) < (B.L.length : Int) := by omega
  have j2 : (B.L.length : Int) ≤ 8 := by have := hI.len; omega
  have HK4 : Hid (m.kind = 4) := hk4
  clear hk4
  go_enter Tryz.func73, Tryz.ntmps73
  go_upto_region 1 with fail
  have hb1 : Below w.heap.size w (w.alloc (.cells #[.int .i64 m.kind, .int .i64 m.deal, .int .i64 m.shop, .int .i64 m.c, .int .i64 m.d, .bool m.yes] 70)) := (Below.refl _ _).alloc (Nat.le_refl _) _
  have hX := MBx.new w m
  generalize (w.alloc (.cells #[.int .i64 m.kind, .int .i64 m.deal, .int .i64 m.shop, .int .i64 m.c, .int .i64 m.d, .bool m.yes] 70)) = w1 at hb1 hX ⊢
  have HSt : Hid _ := qstate_any O B q m.deal w1 (h.next hb1) hI.len
  have hst1 := stR_there hI hd
  have h41 := h4.next hb1
  have c01 : w1.cell? ⟨q, 0, none⟩ = some (.slice (some ⟨g, 0, none⟩) B.L.length cap) := ((bcell hb1).1 _ _ hql).trans c0
  have HWa : Hid (WantsAt w1 gw D.w) := hWa.below hb1 (Nat.le_refl _)
  have HYa : Hid (NumsAt w1 gy D.yes) := hYa.below hb1 (Nat.le_refl _)
  have HOa : Hid (NumsAt w1 go D.ov) := hOa.below hb1 (Nat.le_refl _)
  have hgw : g < w.heap.size := h4.lt
  have HBg : Hid (g ≠ w.heap.size) := by show _ ≠ _; omega
  generalize hB0 : w.heap.size = B0 at hX ⊢
  have HB0 : Hid (w.heap.size = B0) := hB0
  clear hB0
  have x1 := hX.c1
  have x1' := hX.c1
  rw [hmk.out] at x1'
  have hz1 := hX.lt
  have HR : Hid (BokRaw 107 42 3 w q 0 B (.slice (some ⟨g, 0, none⟩) B.L.length cap) ov V) := hR
  have HV : Hid (V[k]? = some ⟨.slice gw D.w.length capw, .slice gy D.yes.length capy, .slice go D.ov.length capo⟩) := hV
  have HSub : Hid (∀ u ∈ (.slice (some ⟨g, 0, none⟩) B.L.length cap : Value) :: ov :: V.flatMap DV.all, ∀ k, u.ownBlock = some k → O k) := hsub
  have HB1 : Hid (Below w.heap.size w w1) := hb1
  have HD : Hid _ := hd
  have HkD : Hid _ := hkD
  have HYl : Hid (D.yes.length ≤ 4 ∧ D.ov.length ≤ 3 ∧ D.w.length ≤ 4) := hYl
  clear h hR hV hsub hb1 hd h4 c0 hkD hI hWa hYa hOa rw_ ry ro hYl
  clear x1'
  go_wp2_with fail
  refine Calls.mono HSt.out ?_
  rintro e w1' ⟨rfl, rfl⟩
  rw [hmk.out] at x1
  go_wp2_with fail
  go_quiet (fail)
  go_wp2_with fail
  have hbq := bdrewN HB1.out nq
  have hXq := hX.next (w1 := w1'.drewN nq) (bdrewN (Below.refl _ _) _)
  have h4q := h41.next (w1 := w1'.drewN nq) (bdrewN (Below.refl _ _) _)
  have HWq : Hid (WantsAt (w1'.drewN nq) gw D.w) := HWa.out.below (bdrewN (Below.refl _ _) _) (Nat.le_refl _)
  have HYq : Hid (NumsAt (w1'.drewN nq) gy D.yes) := HYa.out.below (bdrewN (Below.refl _ _) _) (Nat.le_refl _)
  have HOq : Hid (NumsAt (w1'.drewN nq) go D.ov) := HOa.out.below (bdrewN (Below.refl _ _) _) (Nat.le_refl _)
  generalize (w1'.drewN nq) = w2 at hbq hXq h4q HWq HYq HOq ⊢
  clear hX h41 HWa HYa HOa c01 x1 hz1 HB1 HSt hst1
  have k4 : (m.kind == 4) = true := by simp [HK4.out]
  have k2 : (m.kind != 2) = true := by simp [HK4.out]
  have x0 := hXq.c0
  have x2 := hXq.c2
  have hxl := hXq.lt
  have y0 := h4q.c0
  have y1 := h4q.c1
  have y3 := h4q.c3
  have hgl := h4q.lt
  by_cases h0 : D.st = 0
  · have HE : Hid _ := hear_over_no HD.out HK4.out (.inl h0)
    have h0' : (D.st != 0) = false := by simp [h0]
    clear h0
    go_quiet (fail)
    go_wp2_with fail
    go_quiet (fail)
    go_wp2_with fail
    exact bodyPost_ret (v := .tuple #[]) (by simp [results, Tryz.results73, go_sem]) rfl ⟨rfl, by rw [HE.out]; exact BokTo.stay HI.out (bdrewN (bdrewN hbq _) _)⟩
  · have h0' : (D.st != 0) = true := by simpa using h0
    have H0 : Hid (D.st ≠ 0) := h0
    have HSh : Hid (∀ W, Below w2.heap.size w2 W → Calls Tryz.prog 81 #[.slice gw D.w.length capw] W fun e w' => (∃ ga cap, e = .returned (.slice ga (shopsL D.w).length cap) ∧ NumsAt w' ga (shopsL D.w)) ∧ Below W.heap.size W w') := fun W hW => shopsOf_any gw D.w.length capw D.w W (HWq.out.below hW (Nat.le_refl _)) rfl (by have := HYl.out; omega)
    have HLs : Hid ((shopsL D.w).length ≤ 3) := shopsTo_length D.w 3
    have HK : Hid (∀ w', Below w2.heap.size w2 w' → w'.cell? ⟨B0, 0, none⟩ = some (.int .i64 m.kind) ∧ w'.cell? ⟨B0, 2, none⟩ = some (.int .i64 m.shop) ∧ w'.cell? ⟨g, k * 4, none⟩ = some (.slice gw D.w.length capw) ∧ w'.cell? ⟨g, k * 4 + 1, none⟩ = some (.int .i64 D.st) ∧ w'.cell? ⟨g, k * 4 + 3, none⟩ = some (.slice go D.ov.length capo) ∧ Below w2.heap.size w2 w') := fun w' hb => ⟨((bcell hb).1 _ _ hxl).trans x0, ((bcell hb).1 _ _ hxl).trans x2, ((bcell hb).1 _ _ hgl).trans y0, ((bcell hb).1 _ _ hgl).trans y1, ((bcell hb).1 _ _ hgl).trans y3, hb⟩
    clear h0
    by_cases hs : m.shop ∈ shopsL D.w
    · have HE : Hid _ := hear_over HD.out HK4.out H0.out hs
      have HIn : Hid (∀ (ga : Option Addr) (cap : Nat) (W : World), NumsAt W ga (shopsL D.w) → Calls Tryz.prog 79 #[.slice ga (shopsL D.w).length cap, .int .i64 m.shop] W fun e w' => e = .returned (.bool true) ∧ w' = W) := fun ga cap W hA => by
        have := in_any ga (shopsL D.w).length cap (shopsL D.w) m.shop W hA rfl (by have := HLs.out; omega)
        rw [decide_eq_true hs] at this
        exact this
      have HIn2 : Hid (∀ W, Below w2.heap.size w2 W → Calls Tryz.prog 79 #[.slice go D.ov.length capo, .int .i64 m.shop] W fun e w' => e = .returned (.bool (decide (m.shop ∈ D.ov))) ∧ w' = W) := fun W hW => in_any go D.ov.length capo D.ov m.shop W (HOq.out.below hW (Nat.le_refl _)) rfl (by have := HYl.out; omega)
      clear hs
      go_region_held3 (fun w' => w'.cell? ⟨B0, 0, none⟩ = some (.int .i64 m.kind) ∧ w'.cell? ⟨B0, 2, none⟩ = some (.int .i64 m.shop) ∧ w'.cell? ⟨g, k * 4, none⟩ = some (.slice gw D.w.length capw) ∧ w'.cell? ⟨g, k * 4 + 1, none⟩ = some (.int .i64 D.st) ∧ w'.cell? ⟨g, k * 4 + 3, none⟩ = some (.slice go D.ov.length capo) ∧ Below w2.heap.size w2 w')
        (first | exact HK.out _ (by go_grown))
        (first | (go_at_call 81; refine Calls.mono (HSh.out _ (by go_grown)) ?_; rintro e w9 ⟨⟨ga, cap9, rfl, hA⟩, hb9⟩; have HA : Hid (NumsAt w9 ga (shopsL D.w)) := hA; clear hA; have hw9 : Below w2.heap.size w2 w9 := after (by go_grown) hb9 (by simp); have hz9 : w2.heap.size ≤ w9.heap.size := hw9.size) | (go_at_call 79; have hMk := HMark; refine Calls.mono (HIn2.out _ (by go_grown)) ?_; rintro e w11 ⟨rfl, rfl⟩) | (go_at_call 79; refine Calls.mono (HIn.out ga cap9 _ HA.out) ?_; rintro e w10 ⟨rfl, rfl⟩; have HMark : True := trivial))
      obtain ⟨x0', x2', _, _, y3', _⟩ := HK.out _ hw9
      have h43 := h4q.next hw9
      have hbw : Below w.heap.size w w11 := after hbq hw9 hbq.size
      clear x0 x2 y0 y1 y3 hXq h4q HA HMark
      by_cases ho : m.shop ∈ D.ov
      · rw [decide_eq_true ho]
        have HE2 : Hid (hearR B m = B) := by
          show _ = _
          rw [HE.out, show addI D.ov m.shop = D.ov by unfold addI; rw [if_pos ho]]
          exact put_self HD.out
        clear ho
        go_wp2_with fail
        go_quiet (fail)
        go_wp2_with fail
        exact bodyPost_ret (v := .tuple #[]) (by simp [results, Tryz.results73, go_sem]) rfl ⟨rfl, by rw [HE2.out]; exact BokTo.stay HI.out (bdrewN hbw _)⟩
      · rw [decide_eq_false ho]
        have HE2 : Hid (hearR B m = putD B (k : Int) { D with ov := D.ov ++ [m.shop] }) := by
          show _ = _
          rw [HE.out, hmk.out, show addI D.ov m.shop = D.ov ++ [m.shop] by unfold addI; rw [if_neg ho]]
        obtain ⟨ii, hi, hz0, hz1, hz2⟩ := info_parts infoInt
        have HRo : Hid (w11.ownsRow (q + 1) 3 1 (.slice go D.ov.length capo) D.ov.length (D.ov.map (Value.int .i64))) := own_next ((HR.out.deal k D _ HkD.out HV.out).2.2) hbw
        have HNg : Hid (some g ≠ (.slice go D.ov.length capo : Value).ownBlock) := fun e => HR.out.other _ (by simp [(mem_all HV.out).2.2]) g e.symm rfl
        have HNb : Hid (some B0 ≠ (.slice go D.ov.length capo : Value).ownBlock) := fun e => by
          have h1 := HSub.out _ (by simp [(mem_all HV.out).2.2]) B0 e.symm
          have h2 := HI.out.own _ h1
          have h3 := HB0.out
          omega
        have hg3 := h43.lt
        have hf3 := h43.fr
        have hx3 : B0 < w11.heap.size := Nat.lt_of_lt_of_le hxl hw9.size
        have hqq : q + 1 ≤ w11.heap.size := by have := HI.out.lt; have := hbw.size; omega
        clear ho h43
        go_upto_region 4 with fail
        go_region_law
          (first | (refine step_append_two (by rfl) (.tmp 52) (.tmp 55) 57 (by rfl) (q + 1) 3 ii (.int .i64 0) 1 8 Tryz.underlying57 hi hz0 hz1 hz2 rfl (by decide) (.slice go D.ov.length capo) _ _ (by rfl) (own_next HRo.out (by go_grown)) ⟨w11.heap.size, 0, none⟩ 1 1 [.int .i64 m.shop] (by rfl) rfl (num_lies (by simp [go_sem])) num_cell (by have := HYl.out; unfold maxLen; omega) (by have := HYl.out; omega) (by simp; omega) (by decide) ?_; intro v8 w8 hown8 hgrow8 hwh8; obtain ⟨ga8, cap8, rfl⟩ := own_sl hown8; have HO8 : Hid (w8.ownsRow (q + 1) 3 1 (.slice ga8 (D.ov.length + 1) cap8) (D.ov.length + 1) (D.ov.map (Value.int .i64) ++ [.int .i64 m.shop])) := hown8; clear hown8; have HW8 : Hid _ := hwh8; clear hwh8; have k8 : w8.cell? ⟨g, k * 4 + 3, none⟩ = some (.slice go D.ov.length capo) := hgrow8.cell (by simp [go_sem, y3', hg3]) HNg.out; have f8 : ∀ j, w8.frozen? ⟨g, j, none⟩ = false := fun j => (World.frozen?_of_block (hgrow8.block g (by simp; omega) HNg.out)).trans (by simp [go_sem, hf3, hg3]); have b8 : w8.cell? ⟨B0, 0, none⟩ = some (.int .i64 m.kind) := hgrow8.cell (by simp [go_sem, x0', hx3]) HNb.out; have hbg : B0 ≠ g := (fun e => HBg.out (by rw [HB0.out, e]))))
        all_goals
          have h8 : Save (fun j => (Value.slice go D.ov.length capo).ownBlock = some j) w11 w8 := (Save.of_below (by go_grown)).grown hgrow8 (fun k e _ => e)
          have e8 : (D.ov ++ [m.shop]).length = D.ov.length + 1 := by simp
          have e9 : (D.ov ++ [m.shop]).map (Value.int .i64) = D.ov.map (Value.int .i64) ++ [.int .i64 m.shop] := by simp
          have HT : Hid (BokTo 107 42 3 O w (w8.setCell ⟨g, k * 4 + 3, none⟩ (.slice ga8 (D.ov.length + 1) cap8)) q 0 (putD B (k : Int) { D with ov := D.ov ++ [m.shop] })) := bok_ov HI.out HSub.out HR.out HkD.out HV.out hbw h8 (by rw [e8, e9]; exact HO8.out) (fun j hj => (HW8.out j hj).imp id (fun e => by rw [e]; simp))
          have b9 : (w8.setCell ⟨g, k * 4 + 3, none⟩ (.slice ga8 (D.ov.length + 1) cap8)).cell? ⟨B0, 0, none⟩ = some (.int .i64 m.kind) := (cell_set_block hbg).trans b8
          clear h8 e8 e9 hgrow8 k8 f8 b8
          go_upto_region 5 with fail
          generalize (w8.setCell ⟨g, k * 4 + 3, none⟩ (.slice ga8 (D.ov.length + 1) cap8)) = w12 at HT b9 ⊢
          go_quiet (fail)
          go_wp2_with fail
          refine bodyPost_ret (v := .tuple #[]) (by simp [results, Tryz.results73, go_sem]) rfl ⟨rfl, ?_⟩
          rw [HE2.out]
          exact HT.out.next (bdrewN (Below.refl _ _) _)
    · have HE : Hid _ := hear_over_no HD.out HK4.out (.inr hs)
      have HIn : Hid (∀ (ga : Option Addr) (cap : Nat) (W : World), NumsAt W ga (shopsL D.w) → Calls Tryz.prog 79 #[.slice ga (shopsL D.w).length cap, .int .i64 m.shop] W fun e w' => e = .returned (.bool false) ∧ w' = W) := fun ga cap W hA => by
        have := in_any ga (shopsL D.w).length cap (shopsL D.w) m.shop W hA rfl (by have := HLs.out; omega)
        rw [decide_eq_false hs] at this
        exact this
      clear hs
      refine wp_region_held_drew (S := fun w' => w'.cell? ⟨B0, 0, none⟩ = some (.int .i64 m.kind) ∧ w'.cell? ⟨B0, 2, none⟩ = some (.int .i64 m.shop) ∧ w'.cell? ⟨g, k * 4, none⟩ = some (.slice gw D.w.length capw) ∧ w'.cell? ⟨g, k * 4 + 1, none⟩ = some (.int .i64 D.st) ∧ w'.cell? ⟨g, k * 4 + 3, none⟩ = some (.slice go D.ov.length capo) ∧ Below w2.heap.size w2 w') (by kernel_rfl) (HK.out _ ((Below.refl _ _).drew)) (fun hHeld => ?_)
      refine wpAnyH_take (i := 0) (v := ?_) (by (simp only [List.getElem?_toArray, List.getElem?_cons_zero]); exact rfl) (by kernel_rfl) (by kernel_rfl) (by kernel_rfl) (by intro _ _ _ h; exact h) (Or.inl ⟨by rfl, ?_⟩) (by assumption) ?_
      rotate_left
      focus
        intro w' hSw
        (try dsimp only at hSw)
        go_simp
        all_goals (with_reducible rfl)
      (try simp only [Act.put, List.setIfInBounds_toArray, List.set_cons_zero, List.set_cons_succ])
      refine wpAnyH_take (i := 1) (v := ?_) (by (simp only [List.getElem?_toArray, List.getElem?_cons_succ, List.getElem?_cons_zero]); exact rfl) (by kernel_rfl) (by kernel_rfl) (by kernel_rfl) (by intro _ _ _ h; exact h) (Or.inl ⟨by rfl, ?_⟩) (by assumption) ?_
      rotate_left
      focus
        intro w' hSw
        (try dsimp only at hSw)
        go_simp
        all_goals (with_reducible rfl)
      (try simp only [Act.put, List.setIfInBounds_toArray, List.set_cons_zero, List.set_cons_succ])
      refine wpAnyH_take (i := 2) (v := ?_) (by (simp only [List.getElem?_toArray, List.getElem?_cons_succ, List.getElem?_cons_zero]); exact rfl) (by kernel_rfl) (by kernel_rfl) (by kernel_rfl) (by intro _ _ _ h; exact h) (Or.inl ⟨by rfl, ?_⟩) (by assumption) ?_
      rotate_left
      focus
        intro w' hSw
        (try dsimp only at hSw)
        go_simp
        all_goals (with_reducible rfl)
      (try simp only [Act.put, List.setIfInBounds_toArray, List.set_cons_zero, List.set_cons_succ])
      refine wpAnyH_take (i := 3) (v := ?_) (by (simp only [List.getElem?_toArray, List.getElem?_cons_succ, List.getElem?_cons_zero]); exact rfl) (by kernel_rfl) (by kernel_rfl) (by kernel_rfl) (by intro _ _ _ h; exact h) (Or.inl ⟨by rfl, ?_⟩) (by assumption) ?_
      rotate_left
      focus
        intro w' hSw
        (try dsimp only at hSw)
        go_simp
        all_goals (with_reducible rfl)
      (try simp only [Act.put, List.setIfInBounds_toArray, List.set_cons_zero, List.set_cons_succ])
      refine wpAnyH_take (i := 4) (v := ?_) (by (simp only [List.getElem?_toArray, List.getElem?_cons_succ, List.getElem?_cons_zero]); exact rfl) (by kernel_rfl) (by kernel_rfl) (by kernel_rfl) (by intro _ _ _ h; exact h) (Or.inl ⟨by rfl, ?_⟩) (by assumption) ?_
      rotate_left
      focus
        intro w' hSw
        (try dsimp only at hSw)
        go_simp
        all_goals (with_reducible rfl)
      (try simp only [Act.put, List.setIfInBounds_toArray, List.set_cons_zero, List.set_cons_succ])
      refine wpAnyH_take (i := 5) (v := ?_) (by (simp only [List.getElem?_toArray, List.getElem?_cons_succ, List.getElem?_cons_zero]); exact rfl) (by kernel_rfl) (by kernel_rfl) (by kernel_rfl) (by intro _ _ _ h; exact h) (Or.inl ⟨by rfl, ?_⟩) (by assumption) ?_
      rotate_left
      focus
        intro w' hSw
        (try dsimp only at hSw)
        go_simp
        all_goals (with_reducible rfl)
      (try simp only [Act.put, List.setIfInBounds_toArray, List.set_cons_zero, List.set_cons_succ])
      refine wpAnyH_take (i := 6) (v := ?_) (by (simp only [List.getElem?_toArray, List.getElem?_cons_succ, List.getElem?_cons_zero]); exact rfl) (by kernel_rfl) (by kernel_rfl) (by kernel_rfl) (by intro _ _ _ h; exact h) (Or.inl ⟨by rfl, ?_⟩) (by assumption) ?_
      rotate_left
      focus
        intro w' hSw
        (try dsimp only at hSw)
        go_simp
        all_goals (with_reducible rfl)
      (try simp only [Act.put, List.setIfInBounds_toArray, List.set_cons_zero, List.set_cons_succ])
      refine wpAnyH_take (i := 7) (v := ?_) (by (simp only [List.getElem?_toArray, List.getElem?_cons_succ, List.getElem?_cons_zero]); exact rfl) (by kernel_rfl) (by kernel_rfl) (by kernel_rfl) (by intro _ _ _ h; exact h) (Or.inl ⟨by rfl, ?_⟩) (by assumption) ?_
      rotate_left
      focus
        intro w' hSw
        (try dsimp only at hSw)
        go_simp
        all_goals (with_reducible rfl)
      (try simp only [Act.put, List.setIfInBounds_toArray, List.set_cons_zero, List.set_cons_succ])
      refine wpAnyH_take (i := 8) (v := ?_) (by (simp only [List.getElem?_toArray, List.getElem?_cons_succ, List.getElem?_cons_zero]); exact rfl) (by kernel_rfl) (by kernel_rfl) (by kernel_rfl) (by intro _ _ _ h; exact h) (Or.inl ⟨by rfl, ?_⟩) (by assumption) ?_
      rotate_left
      focus
        intro w' hSw
        (try dsimp only at hSw)
        go_simp
        all_goals (with_reducible rfl)
      (try simp only [Act.put, List.setIfInBounds_toArray, List.set_cons_zero, List.set_cons_succ])
      refine wpAnyH_take (i := 9) (v := ?_) (by (simp only [List.getElem?_toArray, List.getElem?_cons_succ, List.getElem?_cons_zero]); exact rfl) (by kernel_rfl) (by kernel_rfl) (by kernel_rfl) (by intro _ _ _ h; exact h) (Or.inl ⟨by rfl, ?_⟩) (by assumption) ?_
      rotate_left
      focus
        intro w' hSw
        (try dsimp only at hSw)
        go_simp
        all_goals (with_reducible rfl)
      (try simp only [Act.put, List.setIfInBounds_toArray, List.set_cons_zero, List.set_cons_succ])
      refine wpAnyH_take (i := 10) (v := ?_) (by (simp only [List.getElem?_toArray, List.getElem?_cons_succ, List.getElem?_cons_zero]); exact rfl) (by kernel_rfl) (by kernel_rfl) (by kernel_rfl) (by intro _ _ _ h; exact h) (Or.inl ⟨by rfl, ?_⟩) (by assumption) ?_
      rotate_left
      focus
        intro w' hSw
        (try dsimp only at hSw)
        go_simp
        all_goals (with_reducible rfl)
      (try simp only [Act.put, List.setIfInBounds_toArray, List.set_cons_zero, List.set_cons_succ])
      refine wpAnyH_take (i := 11) (v := ?_) (by (simp only [List.getElem?_toArray, List.getElem?_cons_succ, List.getElem?_cons_zero]); exact rfl) (by kernel_rfl) (by kernel_rfl) (by kernel_rfl) (by intro _ _ _ h; exact h) (Or.inl ⟨by rfl, ?_⟩) (by assumption) ?_
      rotate_left
      focus
        intro w' hSw
        (try dsimp only at hSw)
        go_simp
        all_goals (with_reducible rfl)
      (try simp only [Act.put, List.setIfInBounds_toArray, List.set_cons_zero, List.set_cons_succ])
      refine wpAnyH_take (i := 12) (v := ?_) (by (simp only [List.getElem?_toArray, List.getElem?_cons_succ, List.getElem?_cons_zero]); exact rfl) (by kernel_rfl) (by kernel_rfl) (by kernel_rfl) (by intro _ _ _ h; exact h) (Or.inl ⟨by rfl, ?_⟩) (by assumption) ?_
      rotate_left
      focus
        intro w' hSw
        (try dsimp only at hSw)
        go_simp
        all_goals (with_reducible rfl)
      (try simp only [Act.put, List.setIfInBounds_toArray, List.set_cons_zero, List.set_cons_succ])
      refine wpAnyH_take (i := 13) (v := ?_) (by (simp only [List.getElem?_toArray, List.getElem?_cons_succ, List.getElem?_cons_zero]); exact rfl) (by kernel_rfl) (by kernel_rfl) (by kernel_rfl) (by intro _ _ _ h; exact h) (Or.inl ⟨by rfl, ?_⟩) (by assumption) ?_
      rotate_left
      focus
        intro w' hSw
        (try dsimp only at hSw)
        go_simp
        all_goals (with_reducible rfl)
      (try simp only [Act.put, List.setIfInBounds_toArray, List.set_cons_zero, List.set_cons_succ])
      refine wpAnyH_take (i := 14) (v := ?_) (by (simp only [List.getElem?_toArray, List.getElem?_cons_succ, List.getElem?_cons_zero]); exact rfl) (by kernel_rfl) (by kernel_rfl) (by kernel_rfl) (by intro _ _ _ h; exact h) (Or.inl ⟨by rfl, ?_⟩) (by assumption) ?_
      rotate_left
      focus
        intro w' hSw
        (try dsimp only at hSw)
        go_simp
        all_goals (with_reducible rfl)
      (try simp only [Act.put, List.setIfInBounds_toArray, List.set_cons_zero, List.set_cons_succ])
      refine wpAnyH_take (i := 16) (v := ?_) (by (simp only [List.getElem?_toArray, List.getElem?_cons_succ, List.getElem?_cons_zero]); exact rfl) (by kernel_rfl) (by kernel_rfl) (by kernel_rfl) (by intro _ _ _ h; exact h) (Or.inl ⟨by rfl, ?_⟩) (by assumption) ?_
      rotate_left
      focus
        intro w' hSw
        (try dsimp only at hSw)
        go_simp
        all_goals (with_reducible rfl)
      (try simp only [Act.put, List.setIfInBounds_toArray, List.set_cons_zero, List.set_cons_succ])
      refine wpAnyH_take (i := 17) (v := ?_) (by (simp only [List.getElem?_toArray, List.getElem?_cons_succ, List.getElem?_cons_zero]); exact rfl) (by kernel_rfl) (by kernel_rfl) (by kernel_rfl) (by intro _ _ _ h; exact h) (Or.inl ⟨by rfl, ?_⟩) (by assumption) ?_
      rotate_left
      focus
        intro w' hSw
        (try dsimp only at hSw)
        go_simp
        all_goals (with_reducible rfl)
      (try simp only [Act.put, List.setIfInBounds_toArray, List.set_cons_zero, List.set_cons_succ])
      refine wpAnyH_ready (rs := [15]) (by kernel_rfl) (by simp) ?_
      refine AllReadyH.cons rfl (fun K hK => ?_) AllReadyH.nil
      go_simp
      go_at_call 81
      refine Calls.mono (HSh.out _ (by go_grown)) ?_
      rintro e w9 ⟨⟨ga, cap9, rfl, hA⟩, hb9⟩
      have HA : Hid (NumsAt w9 ga (shopsL D.w)) := hA
      have hw9 : Below w2.heap.size w2 w9 := after (by go_grown) hb9 (by simp)
      have hz9 : w2.heap.size ≤ w9.heap.size := hw9.size
      clear hA hb9
      go_wp2_with fail
      refine hK.out _ _ (HK.out _ hw9) (fun hHeld => ?_)
      clear hK K
      (try simp only [Act.put, List.setIfInBounds_toArray, List.set_cons_zero, List.set_cons_succ])
      refine wpAnyH_ready (rs := [18]) (by kernel_rfl) (by simp) ?_
      refine AllReadyH.cons rfl (fun K hK => ?_) AllReadyH.nil
      go_simp
      go_at_call 79
      refine Calls.mono (HIn.out ga cap9 _ HA.out) ?_
      rintro e w10 ⟨rfl, rfl⟩
      go_wp2_with fail
      refine hK.out _ _ (HK.out _ hw9) (fun hHeld => ?_)
      clear hK K
      (try simp only [Act.put, List.setIfInBounds_toArray, List.set_cons_zero, List.set_cons_succ])
      refine wpAnyH_take (i := 19) (v := ?_) (by (simp only [List.getElem?_toArray, List.getElem?_cons_succ, List.getElem?_cons_zero]); exact rfl) (by kernel_rfl) (by kernel_rfl) (by kernel_rfl) (by intro _ _ _ h; exact h) (Or.inl ⟨by rfl, ?_⟩) (by assumption) ?_
      rotate_left
      focus
        intro w' hSw
        (try dsimp only at hSw)
        go_simp
        all_goals (with_reducible rfl)
      (try simp only [Act.put, List.setIfInBounds_toArray, List.set_cons_zero, List.set_cons_succ])
      refine wpAnyH_take (i := 20) (v := ?_) (by (simp only [List.getElem?_toArray, List.getElem?_cons_succ, List.getElem?_cons_zero]); exact rfl) (by kernel_rfl) (by kernel_rfl) (by kernel_rfl) (by intro _ _ _ h; exact h) (Or.inl ⟨by rfl, ?_⟩) (by assumption) ?_
      rotate_left
      focus
        intro w' hSw
        (try dsimp only at hSw)
        go_simp
        all_goals (with_reducible rfl)
      (try simp only [Act.put, List.setIfInBounds_toArray, List.set_cons_zero, List.set_cons_succ])
      refine wpAnyH_take (i := 21) (by (simp only [List.getElem?_toArray, List.getElem?_cons_succ, List.getElem?_cons_zero]); exact rfl) (by kernel_rfl) (by kernel_rfl) (by kernel_rfl) (by intro _ _ _ h; exact h) (Or.inr ⟨by rfl, rfl⟩) (by assumption) ?_
      (try simp only [Act.put, List.setIfInBounds_toArray, List.set_cons_zero, List.set_cons_succ])
      refine wpAnyH_take (i := 22) (by (simp only [List.getElem?_toArray, List.getElem?_cons_succ, List.getElem?_cons_zero]); exact rfl) (by kernel_rfl) (by kernel_rfl) (by kernel_rfl) (by intro _ _ _ h; exact h) (Or.inr ⟨by rfl, rfl⟩) (by assumption) ?_
      (try simp only [Act.put, List.setIfInBounds_toArray, List.set_cons_zero, List.set_cons_succ])
      refine wpAnyH_take (i := 23) (by (simp only [List.getElem?_toArray, List.getElem?_cons_succ, List.getElem?_cons_zero]); exact rfl) (by kernel_rfl) (by kernel_rfl) (by kernel_rfl) (by intro _ _ _ h; exact h) (Or.inr ⟨by rfl, rfl⟩) (by assumption) ?_
      (try simp only [Act.put, List.setIfInBounds_toArray, List.set_cons_zero, List.set_cons_succ])
      refine wpAnyH_take (i := 24) (by (simp only [List.getElem?_toArray, List.getElem?_cons_succ, List.getElem?_cons_zero]); exact rfl) (by kernel_rfl) (by kernel_rfl) (by kernel_rfl) (by intro _ _ _ h; exact h) (Or.inr ⟨by rfl, rfl⟩) (by assumption) ?_
      (try simp only [Act.put, List.setIfInBounds_toArray, List.set_cons_zero, List.set_cons_succ])
      refine wpAnyH_take (i := 25) (by (simp only [List.getElem?_toArray, List.getElem?_cons_succ, List.getElem?_cons_zero]); exact rfl) (by kernel_rfl) (by kernel_rfl) (by kernel_rfl) (by intro _ _ _ h; exact h) (Or.inr ⟨by rfl, rfl⟩) (by assumption) ?_
      (try simp only [Act.put, List.setIfInBounds_toArray, List.set_cons_zero, List.set_cons_succ])
      refine wpAnyH_take (i := 26) (by (simp only [List.getElem?_toArray, List.getElem?_cons_succ, List.getElem?_cons_zero]); exact rfl) (by kernel_rfl) (by kernel_rfl) (by kernel_rfl) (by intro _ _ _ h; exact h) (Or.inr ⟨by rfl, rfl⟩) (by assumption) ?_
      (try simp only [Act.put, List.setIfInBounds_toArray, List.set_cons_zero, List.set_cons_succ])
      refine wpAnyH_take (i := 27) (by (simp only [List.getElem?_toArray, List.getElem?_cons_succ, List.getElem?_cons_zero]); exact rfl) (by kernel_rfl) (by kernel_rfl) (by kernel_rfl) (by intro _ _ _ h; exact h) (Or.inr ⟨by rfl, rfl⟩) (by assumption) ?_
      (try simp only [Act.put, List.setIfInBounds_toArray, List.set_cons_zero, List.set_cons_succ])
      refine wpAnyH_take (i := 28) (by (simp only [List.getElem?_toArray, List.getElem?_cons_succ, List.getElem?_cons_zero]); exact rfl) (by kernel_rfl) (by kernel_rfl) (by kernel_rfl) (by intro _ _ _ h; exact h) (Or.inr ⟨by rfl, rfl⟩) (by assumption) ?_
      (try simp only [Act.put, List.setIfInBounds_toArray, List.set_cons_zero, List.set_cons_succ])
      refine wpAnyH_take (i := 29) (v := ?_) (by (simp only [List.getElem?_toArray, List.getElem?_cons_succ, List.getElem?_cons_zero]); exact rfl) (by kernel_rfl) (by kernel_rfl) (by kernel_rfl) (by intro _ _ _ h; exact h) (Or.inl ⟨by rfl, ?_⟩) (by assumption) ?_
      rotate_left
      focus
        intro w' hSw
        (try dsimp only at hSw)
        go_simp
        all_goals (with_reducible rfl)
      (try simp only [Act.put, List.setIfInBounds_toArray, List.set_cons_zero, List.set_cons_succ])
      refine wpAnyH_done (by kernel_rfl) ?_ _
      obtain ⟨x0', _, _, _, _, _⟩ := HK.out _ hw9
      clear x0 x2 y0 y1 y3 hXq h4q
      go_wp2_with fail
      go_quiet (fail)
      go_wp2_with fail
      exact bodyPost_ret (v := .tuple #[]) (by simp [results, Tryz.results73, go_sem]) rfl ⟨rfl, by rw [HE.out]; exact BokTo.stay HI.out (bdrewN (after hbq hw9 hbq.size) _)⟩

end Go.Proofs.YtbgnajcmhmpjlacGreat

namespace Go.Proofs.YtbgnajcmhmpjlacGreat
open Go.RowKit

theorem wantAt_ix {l : List (Int × Int)} {c d : Int} {i : Nat} (h : l[i]? = some (c, d)) (hn : (c, d) ∉ l.take i) : wantAt l c d = some i := by
  have e := ixW_hit h hn
  unfold ixW at e
  cases hw : wantAt l c d with
  | none => rw [hw] at e; simp only at e; omega
  | some k =>
    rw [hw] at e
    simp only at e
    congr 1
    omega
theorem bok_st {O : Nat → Prop} {w w3 : World} {q g n cap k : Nat} {B : Bok} {ov : Value} {V : List DV} {D : Dl} (h : BokIn 107 42 3 O w q 0 B) (hsub : ∀ u ∈ (.slice (some ⟨g, 0, none⟩) n cap : Value) :: ov :: V.flatMap DV.all, ∀ k, u.ownBlock = some k → O k) (hR : BokRaw 107 42 3 w q 0 B (.slice (some ⟨g, 0, none⟩) n cap) ov V) (hk : B.L[k]? = some D) (hb : Below w.heap.size w w3) (x : Int) : BokTo 107 42 3 O w (w3.setCell ⟨g, k * 4 + 1, none⟩ (.int .i64 x)) q 0 (putD B (k : Int) { D with st := x }) := by
  have hR3 : BokRaw 107 42 3 w3 q 0 B (.slice (some ⟨g, 0, none⟩) n cap) ov V := hR.save h.lt (.of_below (O := fun _ => False) hb) (fun q => q) (fun _ _ _ _ q => q)
  have hl3 : q < w3.heap.size := Nat.lt_of_lt_of_le h.lt hb.size
  have hgO : O g := hsub _ List.mem_cons_self g rfl
  have hqg : q ≠ g := by have := (hR.row.lt g rfl).1; omega
  have hS : Save O w (w3.setCell ⟨g, k * 4 + 1, none⟩ (.int .i64 x)) := (Save.of_below hb).setCell (p := ⟨g, k * 4 + 1, none⟩) (fun _ => hgO) _
  refine bok_to h.own h.mine hS (hR3.st hl3 hk x) (by simpa [go_sem] using (h.next hb).loose) (fun u hu j hj => ⟨.inl (hsub u hu j hj), ?_⟩) (fun j _ _ => (cell_set_block hqg).trans (hb.cell (p := ⟨q, j, none⟩) h.lt))
  have := h.own j (hsub u hu j hj)
  have := hb.size
  simp
  omega
structure SayMid (O : Nat → Prop) (w w6 : World) (q g n cap k : Nat) (B' : Bok) (E : Dl) (ov : Value) (v6 : DV) (B0 : Nat) (m : Ml) : Prop where
  raw : ∃ V6 : List DV, BokRaw 107 42 3 w6 q 0 B' (.slice (some ⟨g, 0, none⟩) n cap) ov V6 ∧ V6[k]? = some v6 ∧ ∀ u ∈ (.slice (some ⟨g, 0, none⟩) n cap : Value) :: ov :: V6.flatMap DV.all, ∀ j, u.ownBlock = some j → (O j ∨ w.heap.size ≤ j) ∧ j < w6.heap.size
  ek : B'.L[k]? = some E
  save : Save O w w6
  cell : ∀ j, w6.cell? ⟨q, j, none⟩ = w.cell? ⟨q, j, none⟩
  frz : ∀ j, w6.frozen? ⟨q, j, none⟩ = false
  box : MBx w6 B0 m
  lt : q < w6.heap.size
  four : Deal4 w6 g k E v6
theorem SayMid.next {O : Nat → Prop} {w w6 w7 : World} {q g n cap k : Nat} {B' : Bok} {E : Dl} {ov : Value} {v6 : DV} {B0 : Nat} {m : Ml} (h : SayMid O w w6 q g n cap k B' E ov v6 B0 m) (hb : Below w6.heap.size w6 w7) : SayMid O w w7 q g n cap k B' E ov v6 B0 m := by
  obtain ⟨V6, h1, h2, h3⟩ := h.raw
  exact ⟨⟨V6, h1.save h.lt (.of_below (O := fun _ => False) hb) (fun q => q) (fun _ _ _ _ q => q), h2, fun u hu j hj => ⟨(h3 u hu j hj).1, Nat.lt_of_lt_of_le (h3 u hu j hj).2 hb.size⟩⟩, h.ek, h.save.next hb, fun j => ((bcell hb).1 _ _ h.lt).trans (h.cell j), loose q hb h.lt h.frz, h.box.next hb, Nat.lt_of_lt_of_le h.lt hb.size, h.four.next hb⟩
theorem SayMid.to {O : Nat → Prop} {w w6 : World} {q g n cap k : Nat} {B B' : Bok} {E : Dl} {ov : Value} {v6 : DV} {B0 : Nat} {m : Ml} (h : SayMid O w w6 q g n cap k B' E ov v6 B0 m) (hI : BokIn 107 42 3 O w q 0 B) : BokTo 107 42 3 O w w6 q 0 B' := by
  obtain ⟨V6, h1, h2, h3⟩ := h.raw
  exact bok_to hI.own hI.mine h.save h1 h.frz h3 (fun j _ _ => h.cell j)

set_option maxHeartbeats 8000000 in
set_option maxRecDepth 100000 in
theorem qhear_say (O : Nat → Prop) (B : Bok) (q : Nat) (m : Ml) (D : Dl) (w : World) (h : BokIn 107 42 3 O w q 0 B) (hI : BInv B) (hd : dealAt B m.deal = some D) (hk2 : m.kind = 2) :
    Calls Tryz.prog 73 #[.pointer (some ⟨q, 0, none⟩), .agg #[.int .i64 m.kind, .int .i64 m.deal, .int .i64 m.shop, .int .i64 m.c, .int .i64 m.d, .bool m.yes]] w fun e w' => e = .returned (.tuple #[]) ∧ BokTo 107 42 3 O w w' q 0 (hearR B m) := by
  have HI : Hid (BokIn 107 42 3 O w q 0 B) := h
  have HInv : Hid (BInv B) := hI
  have hYl := hI.yesLen (dealAt_mem hd)
  obtain ⟨rv, ov, V, hR, hsub⟩ := h.raw
  obtain ⟨k, hmk0, hk, hkD⟩ := dealAt_some hd
  have hmk : Hid (m.deal = (k : Int)) := hmk0
  clear hmk0
  obtain ⟨g, cap, v, rfl, hV, h4, hqg, _⟩ := hR.deal4 hkD
  obtain ⟨vw, vy, vo⟩ := v
  obtain ⟨rw_, ry, ro⟩ := hR.deal k D ⟨vw, vy, vo⟩ hkD hV
  obtain ⟨gw, capw, e1, hWa, _⟩ := wants_of_own rw_
  obtain ⟨gy, capy, e2, hYa, _⟩ := nums_of_own ry
  obtain ⟨go, capo, e3, hOa, _⟩ := nums_of_own ro
  simp only at e1 e2 e3
  subst e1
  subst e2
  subst e3
  have c0 := hR.c0
  have hql := h.lt
  have j0 : (0 : Int) ≤ (k : Int) := by omega
  have j1 : (k : Int) < (B.L.length : Int) := by omega
  have j2 : (B.L.length : Int) ≤ 8 := by have := hI.len; omega
  have HK2 : Hid (m.kind = 2) := hk2
  clear hk2
  go_enter Tryz.func73, Tryz.ntmps73
  go_upto_region 1 with fail
  have hb1 : Below w.heap.size w (w.alloc (.cells #[.int .i64 m.kind, .int .i64 m.deal, .int .i64 m.shop, .int .i64 m.c, .int .i64 m.d, .bool m.yes] 70)) := (Below.refl _ _).alloc (Nat.le_refl _) _
  have hX := MBx.new w m
  generalize (w.alloc (.cells #[.int .i64 m.kind, .int .i64 m.deal, .int .i64 m.shop, .int .i64 m.c, .int .i64 m.d, .bool m.yes] 70)) = w1 at hb1 hX ⊢
  have HSt : Hid _ := qstate_any O B q m.deal w1 (h.next hb1) hI.len
  have hst1 := stR_there hI hd
  have h41 := h4.next hb1
  have c01 : w1.cell? ⟨q, 0, none⟩ = some (.slice (some ⟨g, 0, none⟩) B.L.length cap) := ((bcell hb1).1 _ _ hql).trans c0
  have HWa : Hid (WantsAt w1 gw D.w) := hWa.below hb1 (Nat.le_refl _)
  have HYa : Hid (NumsAt w1 gy D.yes) := hYa.below hb1 (Nat.le_refl _)
  have HOa : Hid (NumsAt w1 go D.ov) := hOa.below hb1 (Nat.le_refl _)
  have hgw : g < w.heap.size := h4.lt
  have HBg : Hid (g ≠ w.heap.size) := by show _ ≠ _; omega
  generalize hB0 : w.heap.size = B0 at hX ⊢
  have HB0 : Hid (w.heap.size = B0) := hB0
  clear hB0
  have x1 := hX.c1
  have x1' := hX.c1
  rw [hmk.out] at x1'
  have hz1 := hX.lt
  have HR : Hid (BokRaw 107 42 3 w q 0 B (.slice (some ⟨g, 0, none⟩) B.L.length cap) ov V) := hR
  have HV : Hid (V[k]? = some ⟨.slice gw D.w.length capw, .slice gy D.yes.length capy, .slice go D.ov.length capo⟩) := hV
  have HSub : Hid (∀ u ∈ (.slice (some ⟨g, 0, none⟩) B.L.length cap : Value) :: ov :: V.flatMap DV.all, ∀ k, u.ownBlock = some k → O k) := hsub
  have HB1 : Hid (Below w.heap.size w w1) := hb1
  have HD : Hid _ := hd
  have HkD : Hid _ := hkD
  have HYl : Hid (D.yes.length ≤ 4 ∧ D.ov.length ≤ 3 ∧ D.w.length ≤ 4) := hYl
  clear h hR hV hsub hb1 hd h4 c0 hkD hI hWa hYa hOa rw_ ry ro hYl
  clear x1'
  go_wp2_with fail
  refine Calls.mono HSt.out ?_
  rintro e w1' ⟨rfl, rfl⟩
  rw [hmk.out] at x1
  go_wp2_with fail
  go_quiet (fail)
  go_wp2_with fail
  have hbq := bdrewN HB1.out nq
  have hXq := hX.next (w1 := w1'.drewN nq) (bdrewN (Below.refl _ _) _)
  have h4q := h41.next (w1 := w1'.drewN nq) (bdrewN (Below.refl _ _) _)
  have HWq : Hid (WantsAt (w1'.drewN nq) gw D.w) := HWa.out.below (bdrewN (Below.refl _ _) _) (Nat.le_refl _)
  have HYq : Hid (NumsAt (w1'.drewN nq) gy D.yes) := HYa.out.below (bdrewN (Below.refl _ _) _) (Nat.le_refl _)
  have HOq : Hid (NumsAt (w1'.drewN nq) go D.ov) := HOa.out.below (bdrewN (Below.refl _ _) _) (Nat.le_refl _)
  generalize (w1'.drewN nq) = w2 at hbq hXq h4q HWq HYq HOq ⊢
  clear hX h41 HWa HYa HOa c01 x1 hz1 HB1 HSt hst1
  have k4 : (m.kind == 4) = false := by simp [HK2.out]
  have k2 : (m.kind != 2) = false := by simp [HK2.out]
  have x0 := hXq.c0
  go_quiet (fail)
  go_wp2_with fail
  have hb3 := bdrewN hbq nq
  have hX3 := hXq.next (w1 := w2.drewN nq) (bdrewN (Below.refl _ _) _)
  have h43 := h4q.next (w1 := w2.drewN nq) (bdrewN (Below.refl _ _) _)
  have HW3 : Hid (WantsAt (w2.drewN nq) gw D.w) := HWq.out.below (bdrewN (Below.refl _ _) _) (Nat.le_refl _)
  have HY3 : Hid (NumsAt (w2.drewN nq) gy D.yes) := HYq.out.below (bdrewN (Below.refl _ _) _) (Nat.le_refl _)
  generalize (w2.drewN nq) = w3 at hb3 hX3 h43 HW3 HY3 ⊢
  clear hXq h4q hbq HWq HYq HOq x0
  have x0 := hX3.c0
  have x2 := hX3.c2
  have x3 := hX3.c3
  have y1 := h43.c1
  by_cases h0 : D.st = 0
  · have h0' : (D.st != 0) = false := by simp [h0]
    have H0 : Hid (D.st = 0) := h0
    clear h0
    by_cases hs : shp m.c = m.shop
    · have hs' : (shp m.c != m.shop) = false := by simp [hs]
      have HS : Hid (shp m.c = m.shop) := hs
      clear hs
      go_quiet ((go_at_call 80; exact Calls.quiet_of_same (shopOf_any _ _)))
      go_wp2_with fail
      have hb4 := bdrewN hb3 nq
      have hX4 := hX3.next (w1 := w3.drewN nq) (bdrewN (Below.refl _ _) _)
      have h44 := h43.next (w1 := w3.drewN nq) (bdrewN (Below.refl _ _) _)
      have HW4 : Hid (WantsAt (w3.drewN nq) gw D.w) := HW3.out.below (bdrewN (Below.refl _ _) _) (Nat.le_refl _)
      have HY4 : Hid (NumsAt (w3.drewN nq) gy D.yes) := HY3.out.below (bdrewN (Below.refl _ _) _) (Nat.le_refl _)
      generalize (w3.drewN nq) = w4 at hb4 hX4 h44 HW4 HY4 ⊢
      clear hX3 h43 hb3 HW3 HY3 x0 x2 x3 y1
      go_loopg [5] D.w.length (fun gg s5 wr => ∃ i : Nat, i ≤ D.w.length ∧ gg = D.w.length - i ∧ s5 = .int .i64 i ∧ Hid ((m.c, m.d) ∉ D.w.take i) ∧ Below w4.heap.size w4 wr)
      case atStart => exact ⟨0, Nat.zero_le _, rfl, rfl, by simp [Hid], Below.refl _ _⟩
      case round =>
        obtain ⟨i, hi2, rfl, rfl, HNt, hS⟩ := hrel
        have hXr := hX4.next hS
        have h4r := h44.next hS
        have hbr := after hb4 hS hb4.size
        have y0 := h4r.c0
        by_cases hil : i < D.w.length
        · obtain ⟨⟨a, b⟩, hwi⟩ : ∃ x, D.w[i]? = some x := ⟨_, List.getElem?_eq_getElem hil⟩
          obtain ⟨bl, ol, rfl, hbl, e0, e1⟩ := HW4.out i a b hwi
          have p0 : wr.cell? ⟨bl, ol + i * 2, none⟩ = some (.int .i64 a) := ((bcell hS).1 _ _ hbl).trans e0
          have p1 : wr.cell? ⟨bl, ol + i * 2 + 1, none⟩ = some (.int .i64 b) := ((bcell hS).1 _ _ hbl).trans e1
          have x3 := hXr.c3
          have x4 := hXr.c4
          have i0' : (0 : Int) ≤ (i : Int) := by omega
          have i1' : (i : Int) < (D.w.length : Int) := by omega
          have i2' : (D.w.length : Int) ≤ 4 := by have := HYl.out; omega
          have HIL : Hid (i < D.w.length) := hil
          have HWi : Hid (D.w[i]? = some (a, b)) := hwi
          have hr4 : IntKind.i64.wrap ((i : Int) + 1) = (i : Int) + 1 := by go_unwrap
          clear e0 e1 hil hwi hi2
          cases hq : (m.c == a && m.d == b) with
          | false =>
            have HE2 : Hid _ := not_take_next HNt.out HWi.out hq
            have hq1 : ∀ W : World, (Op.equalIn 10000 42 (.agg #[.int .i64 a, .int .i64 b]) (.agg #[.int .i64 m.c, .int .i64 m.d])).run Tryz.prog W = .ok false W := fun W => by rw [eqWn, show (a == m.c && b == m.d) = false by rw [← hq, Bool.beq_comm, show (b == m.d) = (m.d == b) from Bool.beq_comm]]
            clear hq
            go_wp2_with fail
            go_quiet (fail)
            go_wp2_with fail
            go_roundg (D.w.length - (i + 1))
            case measure => have := HIL.out; omega
            case rel => exact ⟨i + 1, HIL.out, rfl, by simp, HE2, bdrewN hS _⟩
          | true =>
            have hq1 : ∀ W : World, (Op.equalIn 10000 42 (.agg #[.int .i64 a, .int .i64 b]) (.agg #[.int .i64 m.c, .int .i64 m.d])).run Tryz.prog W = .ok true W := fun W => by rw [eqWn, show (a == m.c && b == m.d) = true by rw [← hq, Bool.beq_comm, show (b == m.d) = (m.d == b) from Bool.beq_comm]]
            have hab : a = m.c ∧ b = m.d := by
              simp only [Bool.and_eq_true, beq_iff_eq] at hq
              exact ⟨hq.1.symm, hq.2.symm⟩
            have HWat : Hid (wantAt D.w m.c m.d = some i) := by
              have h1 := HWi.out
              rw [hab.1, hab.2] at h1
              exact wantAt_ix h1 HNt.out
            have HWi2 : Hid (D.w[i]? = some (m.c, m.d)) := by
              have h1 := HWi.out
              rw [hab.1, hab.2] at h1
              exact h1
            clear hq hab HNt HWi
            go_wp2_with fail
            go_quiet (fail)
            have hb5 := bdrewN hbr nq
            have hX5 := hXr.next (w1 := wr.drewN nq) (bdrewN (Below.refl _ _) _)
            have h45 := h4r.next (w1 := wr.drewN nq) (bdrewN (Below.refl _ _) _)
            have HY5 : Hid (NumsAt (wr.drewN nq) gy D.yes) := (HY4.out.below hS (Nat.le_refl _)).below (bdrewN (Below.refl _ _) _) (Nat.le_refl _)
            generalize (wr.drewN nq) = w5 at hb5 hX5 h45 HY5 ⊢
            clear hXr h4r hbr hS y0 p0 p1 x3 x4 hq1 HY4 hX4 h44 hb4 HW4
            have x5 := hX5.c5
            cases hy : m.yes with
            | false =>
              rw [hy] at x5
              have HE : Hid _ := hear_say_nay HD.out HK2.out H0.out HWat.out HS.out hy
              rw [hmk.out] at HE
              have y1 := h45.c1
              have yf := h45.fr
              have HT : Hid _ := bok_st HI.out HSub.out HR.out HkD.out hb5 2
              clear hy
              go_wp2_with fail
              exact bodyPost_ret (v := .tuple #[]) (by simp [results, Tryz.results73, go_sem]) rfl ⟨rfl, by rw [HE.out]; exact HT.out⟩
            | true =>
              rw [hy] at x5
              have HE : Hid _ := hear_say_yes HD.out HK2.out H0.out HWat.out HS.out hy
              rw [hmk.out] at HE
              clear hy
              have y2 := h45.c2
              have HIn : Hid _ := in_any gy D.yes.length capy D.yes (i : Int) w5 HY5.out rfl (by have := HYl.out; omega)
              go_wp2_with fail
              refine Calls.mono HIn.out ?_
              rintro e w5' ⟨rfl, rfl⟩
              clear HIn y2 x5
              obtain ⟨E, hE⟩ : ∃ E, E = ({ D with yes := addI D.yes (i : Int) } : Dl) := ⟨_, rfl⟩
              have HEE : Hid (E = ({ D with yes := addI D.yes (i : Int) } : Dl)) := hE
              clear hE
              have HEk : Hid ((putD B (k : Int) E).L[k]? = some E) := by
                show (B.L.set (k : Int).toNat E)[k]? = some E
                rw [Int.toNat_natCast]
                exact List.getElem?_set_self hk
              by_cases hm : (i : Int) ∈ D.yes
              case' pos =>
                rw [decide_eq_true hm]
                have hED : E = D := by rw [HEE.out, show addI D.yes (i : Int) = D.yes by unfold addI; rw [if_pos hm]]
                have HM : Hid (∃ gy6 capy6, SayMid O w w5' q g B.L.length cap k (putD B (k : Int) E) E ov ⟨.slice (some ⟨bl, ol, none⟩) D.w.length capw, .slice gy6 E.yes.length capy6, .slice go D.ov.length capo⟩ B0 m) := by
                  refine ⟨gy, capy, ⟨V, ?_, ?_, ?_⟩, HEk.out, .of_below hb5, fun j => hb5.cell (p := ⟨q, j, none⟩) HI.out.lt, (HI.out.next hb5).loose, hX5, Nat.lt_of_lt_of_le HI.out.lt hb5.size, by rw [hED]; exact h45⟩
                  · rw [hED, show putD B (k : Int) D = B by rw [← hmk.out]; exact put_self HD.out]
                    exact HR.out.save HI.out.lt (.of_below (O := fun _ => False) hb5) (fun q => q) (fun _ _ _ _ q => q)
                  · rw [hED]; exact HV.out
                  · intro u hu j hj
                    have h1 := HSub.out u hu j hj
                    have h2 := HI.out.own j h1
                    have h3 := hb5.size
                    exact ⟨.inl h1, by omega⟩
                clear hm hED hX5 h45 hb5 HY5
                go_upto_region 14 with fail
                generalize w5' = w6 at HM ⊢
              case' neg =>
                rw [decide_eq_false hm]
                have hEy : addI D.yes (i : Int) = D.yes ++ [(i : Int)] := by unfold addI; rw [if_neg hm]
                have HEy : Hid (E.yes = D.yes ++ [(i : Int)]) := by show _ = _; rw [HEE.out]; exact hEy
                obtain ⟨ii, hi, hz0, hz1, hz2⟩ := info_parts infoInt
                have HRy : Hid (w5'.ownsRow (q + 1) 3 1 (.slice gy D.yes.length capy) D.yes.length (D.yes.map (Value.int .i64))) := own_next ((HR.out.deal k D _ HkD.out HV.out).2.1) hb5
                have HNg : Hid (some g ≠ (.slice gy D.yes.length capy : Value).ownBlock) := fun e => HR.out.other _ (by simp [(mem_all HV.out).2.1]) g e.symm rfl
                have HNb : Hid (¬ (.slice gy D.yes.length capy : Value).ownBlock = some B0) := fun e => by
                  have h1 := HSub.out _ (by simp [(mem_all HV.out).2.1]) B0 e
                  have h2 := HI.out.own _ h1
                  have h3 := HB0.out
                  omega
                have y2 := h45.c2
                have hg5 := h45.lt
                have hf5 := h45.fr
                have hqq : q + 1 ≤ w5'.heap.size := by have := HI.out.lt; have := hb5.size; omega
                clear hm hEy
                go_upto_region 14 with (at_builtin; refine list_append_two rfl (.tmp 114) (.tmp 116) 57 rfl (q + 1) 3 ii (.int .i64 0) 1 8 Tryz.underlying57 hi hz0 hz1 hz2 rfl (by decide) (.slice gy D.yes.length capy) _ _ rfl (own_next HRy.out (by go_grown)) ⟨w5'.heap.size, 0, none⟩ 1 1 [.int .i64 (i : Int)] rfl rfl (num_new _ rfl) num_cell (by have := HYl.out; unfold maxLen; omega) (by have := HYl.out; omega) (by simp; omega) (by decide) ?_; intro v8 w8 hown8 hgrow8 hwh8; obtain ⟨ga8, cap8, rfl⟩ := own_sl hown8; have HO8 : Hid (w8.ownsRow (q + 1) 3 1 (.slice ga8 (D.yes.length + 1) cap8) (D.yes.length + 1) (D.yes.map (Value.int .i64) ++ [.int .i64 (i : Int)])) := hown8; clear hown8; have HW8 : Hid _ := hwh8; clear hwh8; have k8 : w8.cell? ⟨g, k * 4 + 2, none⟩ = some (.slice gy D.yes.length capy) := hgrow8.cell (by simp [go_sem, y2, hg5]) HNg.out; have f8 : ∀ j, w8.frozen? ⟨g, j, none⟩ = false := (fun j => (World.frozen?_of_block (hgrow8.block g (by simp; omega) HNg.out)).trans (by simp [go_sem, hf5, hg5])); have h8 : Hid (Save (fun j => (Value.slice gy D.yes.length capy).ownBlock = some j) w5' w8) := (Save.of_below (by go_grown)).grown hgrow8 (fun k e _ => e); clear hgrow8)
                have e8 : E.yes.length = D.yes.length + 1 := by rw [HEy.out]; simp
                have HM : Hid (∃ gy6 capy6, SayMid O w (w8.setCell ⟨g, k * 4 + 2, none⟩ (.slice ga8 (D.yes.length + 1) cap8)) q g B.L.length cap k (putD B (k : Int) E) E ov ⟨.slice (some ⟨bl, ol, none⟩) D.w.length capw, .slice gy6 E.yes.length capy6, .slice go D.ov.length capo⟩ B0 m) := by
                  have e9 : E.yes.map (Value.int .i64) = D.yes.map (Value.int .i64) ++ [.int .i64 (i : Int)] := by rw [HEy.out]; simp
                  have hEE : ({ D with yes := E.yes } : Dl) = E := by
                    have h1 := HEE.out
                    rw [h1]
                  obtain ⟨_, b2, b3, b4, b5, b6⟩ := bok_yes (l := E.yes) (v8 := .slice ga8 (D.yes.length + 1) cap8) HI.out HSub.out HR.out HkD.out HV.out hb5 h8.out (by rw [e8, e9]; exact HO8.out) (fun j hj => (HW8.out j hj).imp id (fun e => by rw [e]; simp))
                  rw [hEE] at b2
                  have hv6 : (V.set k { (⟨.slice (some ⟨bl, ol, none⟩) D.w.length capw, .slice gy D.yes.length capy, .slice go D.ov.length capo⟩ : DV) with y := .slice ga8 (D.yes.length + 1) cap8 })[k]? = some ⟨.slice (some ⟨bl, ol, none⟩) D.w.length capw, .slice ga8 (D.yes.length + 1) cap8, .slice go D.ov.length capo⟩ := List.getElem?_set_self (List.getElem?_eq_some_iff.1 HV.out).1
                  have hl9 : q < (w8.setCell ⟨g, k * 4 + 2, none⟩ (.slice ga8 (D.yes.length + 1) cap8)).heap.size := Nat.lt_of_lt_of_le HI.out.lt b3.size
                  refine ⟨ga8, cap8, ⟨_, b2, by rw [e8]; exact hv6, b4⟩, HEk.out, b3, b5, b6, (hX5.save h8.out HNb.out).save (O := fun b => b = g) (Save.setCell (O := fun b => b = g) (Save.refl _ _) (p := ⟨g, k * 4 + 2, none⟩) (fun _ => rfl) _) (fun e => HBg.out (by rw [HB0.out, e])), hl9, ?_⟩
                  obtain ⟨g', cap', v', eg, hv', h4', _, _⟩ := b2.deal4 HEk.out
                  have e1 : g = g' := by
                    simp only [Value.slice.injEq, Option.some.injEq, Addr.mk.injEq] at eg
                    exact eg.1.1
                  subst e1
                  rw [hv6] at hv'
                  rw [e8, Option.some.inj hv']
                  exact h4'
                clear h8 k8 f8 HO8 HW8 y2 hg5 hf5 hqq hX5 h45 hb5 HY5 e8 HEy HRy HNg HNb hi hz0 hz1 hz2
                generalize (w8.setCell ⟨g, k * 4 + 2, none⟩ (.slice ga8 (D.yes.length + 1) cap8)) = w6 at HM ⊢
              all_goals
                obtain ⟨gy6, capy6, hM⟩ := HM.out
                clear HM
                have y0 := hM.four.c0
                have y2 := hM.four.c2
                have HEy : Hid (E.yes = addI D.yes (i : Int)) := by show _ = _; rw [HEE.out]
                by_cases hl : E.yes.length = D.w.length
                · have hl' : ((E.yes.length : Int) == (D.w.length : Int)) = true := by simp [hl]
                  have HL : Hid ((addI D.yes (i : Int)).length = D.w.length) := by show _ = _; rw [← HEy.out]; exact hl
                  clear hl
                  go_quiet (fail)
                  have hM7 := hM.next (w7 := w6.drewN nq) (bdrewN (Below.refl _ _) _)
                  generalize (w6.drewN nq) = w7 at hM7 ⊢
                  clear hM y0 y2
                  have y1 := hM7.four.c1
                  have yf := hM7.four.fr
                  have yl := hM7.four.lt
                  obtain ⟨V6, hR6, hV6, hrw6⟩ := hM7.raw
                  have hR8 := hR6.st hM7.lt hM7.ek 1
                  have hS8 : Save (fun b => b = g) w7 (w7.setCell ⟨g, k * 4 + 1, none⟩ (.int .i64 1)) := Save.setCell (O := fun b => b = g) (Save.refl _ _) (p := ⟨g, k * 4 + 1, none⟩) (fun _ => rfl) _
                  have hqg : q ≠ g := by have := (hR6.row.lt g rfl).1; omega
                  have hX8 := hM7.box.save hS8 (fun e => HBg.out (by rw [HB0.out, e]))
                  have hl8 : q < (w7.setCell ⟨g, k * 4 + 1, none⟩ (.int .i64 1)).heap.size := by simpa using hM7.lt
                  have hf8 : ∀ j, (w7.setCell ⟨g, k * 4 + 1, none⟩ (.int .i64 1)).frozen? ⟨q, j, none⟩ = false := by simpa [go_sem] using hM7.frz
                  have hgO : O g := HSub.out _ List.mem_cons_self g rfl
                  have HSv8 : Hid (Save O w (w7.setCell ⟨g, k * 4 + 1, none⟩ (.int .i64 1))) := hM7.save.setCell (p := ⟨g, k * 4 + 1, none⟩) (fun _ => hgO) _
                  have HCl8 : Hid (∀ j, (w7.setCell ⟨g, k * 4 + 1, none⟩ (.int .i64 1)).cell? ⟨q, j, none⟩ = w.cell? ⟨q, j, none⟩) := fun j => (cell_set_block hqg).trans (hM7.cell j)
                  have HRw8 : Hid (∀ u ∈ (.slice (some ⟨g, 0, none⟩) B.L.length cap : Value) :: ov :: V6.flatMap DV.all, ∀ j, u.ownBlock = some j → (O j ∨ w.heap.size ≤ j) ∧ j < (w7.setCell ⟨g, k * 4 + 1, none⟩ (.int .i64 1)).heap.size) := fun u hu j hj => ⟨(hrw6 u hu j hj).1, by simpa using (hrw6 u hu j hj).2⟩
                  go_upto_region 16 with fail
                  generalize (w7.setCell ⟨g, k * 4 + 1, none⟩ (.int .i64 1)) = w8 at hR8 hX8 hl8 hf8 HSv8 HCl8 HRw8 ⊢
                  clear hS8 hM7 y1 yf yl hR6 hV6 hrw6 hqg hgO
                  have c1 : w8.cell? ⟨q, 1, none⟩ = some ov := hR8.c1
                  have hord : w8.ownsRow (q + 1) 3 1 ov B.ord.length (B.ord.map (Value.int .i64)) := hR8.ord
                  obtain ⟨gd, capd, rfl⟩ := own_sl hord
                  have HOrd : Hid (w8.ownsRow (q + 1) 3 1 (.slice gd B.ord.length capd) B.ord.length (B.ord.map (Value.int .i64))) := hord
                  have HR8 : Hid (BokRaw 107 42 3 w8 q 0 (putD (putD B (k : Int) E) (k : Int) { E with st := 1 }) (.slice (some ⟨g, 0, none⟩) B.L.length cap) (.slice gd B.ord.length capd) V6) := hR8
                  have HN1 : Hid (some q ≠ (.slice gd B.ord.length capd : Value).ownBlock) := fun e => by have := (HOrd.out.lt q e.symm).1; omega
                  have HLo : Hid (B.ord.length ≤ 8) := HInv.out.ordLen
                  have x1 := hX8.c1
                  have xl := hX8.lt
                  obtain ⟨ii, hi, hz0, hz1, hz2⟩ := info_parts infoInt
                  clear hR8 hord hX8
                  go_region_law
                    (first | (refine step_append_two (by rfl) (.tmp 138) (.tmp 141) 57 (by rfl) (q + 1) 3 ii (.int .i64 0) 1 8 Tryz.underlying57 hi hz0 hz1 hz2 rfl (by decide) (.slice gd B.ord.length capd) _ _ (by rfl) (own_next HOrd.out (by go_grown)) ⟨w8.heap.size, 0, none⟩ 1 1 [.int .i64 m.deal] (by rfl) rfl (num_lies (by simp [go_sem])) num_cell (by have := HLo.out; unfold maxLen; omega) (by have := HLo.out; omega) (by simp; omega) (by decide) ?_; intro v9 w9 hown9 hgrow9 hwh9; obtain ⟨ga9, cap9, rfl⟩ := own_sl hown9; have HO9 : Hid (w9.ownsRow (q + 1) 3 1 (.slice ga9 (B.ord.length + 1) cap9) (B.ord.length + 1) (B.ord.map (Value.int .i64) ++ [.int .i64 m.deal])) := hown9; clear hown9; have HW9 : Hid _ := hwh9; clear hwh9; have k9 : w9.cell? ⟨q, 1, none⟩ = some (.slice gd B.ord.length capd) := hgrow9.cell (by simp [go_sem, c1, hl8]) HN1.out; have f9 : ∀ k, w9.frozen? ⟨q, k, none⟩ = false := fun k => (World.frozen?_of_block (hgrow9.block q (by simp; omega) HN1.out)).trans (by simp [go_sem, hf8, hl8])))
                  all_goals
                    have h9 : Save (fun k => (Value.slice gd B.ord.length capd).ownBlock = some k) w8 w9 := (Save.of_below (by go_grown)).grown hgrow9 (fun k e _ => e)
                    have hW9 : ∀ k, (Value.slice ga9 (B.ord.length + 1) cap9).ownBlock = some k → (Value.slice gd B.ord.length capd).ownBlock = some k ∨ w8.heap.size ≤ k := fun k hk => (HW9.out k hk).imp id (fun e => by rw [e]; simp)
                    clear hgrow9 x1 c1
                    go_wp2_with fail
                    refine bodyPost_ret (v := .tuple #[]) (by simp [results, Tryz.results73, go_sem]) rfl ⟨rfl, ?_⟩
                    rw [HE.out, if_pos HL.out]
                    have e8 : (B.ord ++ [(k : Int)]).length = B.ord.length + 1 := by simp
                    have e9 : (B.ord ++ [(k : Int)]).map (Value.int .i64) = B.ord.map (Value.int .i64) ++ [.int .i64 m.deal] := by rw [hmk.out]; simp
                    have hR9 := HR8.out.ordr (l := B.ord ++ [(k : Int)]) (v8 := .slice ga9 (B.ord.length + 1) cap9) hl8 (fun u hu j hj => (HRw8.out u hu j hj).2) h9 (by rw [e8, e9]; exact HO9.out) hW9
                    have eB : ({ putD (putD B (k : Int) E) (k : Int) { E with st := 1 } with ord := B.ord ++ [(k : Int)] } : Bok) = { putD B (k : Int) { D with yes := addI D.yes (i : Int), st := 1 } with ord := B.ord ++ [(k : Int)] } := by
                      rw [HEE.out]
                      unfold putD
                      simp
                    rw [eB] at hR9
                    have hqo : ¬ (Value.slice gd B.ord.length capd).ownBlock = some q := fun e => HN1.out e.symm
                    refine bok_to HI.out.own HI.out.mine ?_ hR9 (by simpa [go_sem] using f9) ?_ (fun j _ hj => (cell_set_off hj).trans ((h9.cell (p := ⟨q, j, none⟩) hl8 hqo).trans (HCl8.out j)))
                    · have hOd : ∀ j, j < w.heap.size → (Value.slice gd B.ord.length capd).ownBlock = some j → O j := fun j hj e => HSub.out _ (by simp) j e
                      exact (HSv8.out.trans h9 hOd).setCell (p := ⟨q, 1, none⟩) (fun _ => HI.out.mine) _
                    · intro u hu j hj
                      have hsz : (w9.setCell (⟨q, 0 + 1, none⟩ : Addr) (.slice ga9 (B.ord.length + 1) cap9)).heap.size = w9.heap.size := by simp
                      show _ ∧ j < (w9.setCell (⟨q, 0 + 1, none⟩ : Addr) (.slice ga9 (B.ord.length + 1) cap9)).heap.size
                      rw [hsz]
                      have z1 := HSv8.out.size
                      have z8 := h9.size
                      have old : ∀ x ∈ (.slice (some ⟨g, 0, none⟩) B.L.length cap : Value) :: (.slice gd B.ord.length capd) :: V6.flatMap DV.all, x.ownBlock = some j → (O j ∨ w.heap.size ≤ j) ∧ j < w9.heap.size := fun x hx hj => ⟨(HRw8.out x hx j hj).1, by have := (HRw8.out x hx j hj).2; omega⟩
                      rcases List.mem_cons.1 hu with rfl | hu
                      · exact old _ (by simp) hj
                      · rcases List.mem_cons.1 hu with rfl | hu
                        · refine ⟨?_, (HO9.out.lt j hj).2⟩
                          rcases hW9 j hj with e | e
                          · exact (old _ (by simp) e).1
                          · exact .inr (by omega)
                        · exact old _ (List.mem_cons_of_mem _ (List.mem_cons_of_mem _ hu)) hj
                · have hl' : ((E.yes.length : Int) == (D.w.length : Int)) = false := by rw [beq_eq_false_iff_ne]; omega
                  have HL : Hid (¬ (addI D.yes (i : Int)).length = D.w.length) := by show ¬ _; rw [← HEy.out]; exact hl
                  clear hl
                  go_quiet (fail)
                  go_wp2_with fail
                  refine bodyPost_ret (v := .tuple #[]) (by simp [results, Tryz.results73, go_sem]) rfl ⟨rfl, ?_⟩
                  rw [HE.out, if_neg HL.out, ← HEE.out]
                  exact (hM.next (bdrewN (Below.refl _ _) _)).to HI.out
        · have hii : i = D.w.length := by omega
          subst hii
          have HE : Hid (hearR B m = B) := by
            refine hear_say_no HD.out HK2.out (.inr (.inl ?_))
            have q := HNt.out
            rw [List.take_of_length_le (Nat.le_refl _)] at q
            unfold wantAt
            rw [List.findIdx?_eq_none_iff]
            intro x hx
            simp only [Bool.and_eq_false_imp, beq_iff_eq, beq_eq_false_iff_ne, ne_eq]
            intro e1 e2
            exact q (by rw [← e1, ← e2]; exact hx)
          clear hi2 hil
          go_wp2_with fail
          exact bodyPost_end (v := .tuple #[]) (by simp [results, Tryz.results73, go_sem]) rfl ⟨rfl, by rw [HE.out]; exact BokTo.stay HI.out hbr⟩
    · have hs' : (shp m.c != m.shop) = true := by simpa using hs
      have HE : Hid _ := hear_say_no HD.out HK2.out (.inr (.inr hs))
      clear hs
      go_quiet ((go_at_call 80; exact Calls.quiet_of_same (shopOf_any _ _)))
      go_wp2_with fail
      exact bodyPost_ret (v := .tuple #[]) (by simp [results, Tryz.results73, go_sem]) rfl ⟨rfl, by rw [HE.out]; exact BokTo.stay HI.out (bdrewN hb3 _)⟩
  · have h0' : (D.st != 0) = true := by simpa using h0
    have HE : Hid _ := hear_say_no HD.out HK2.out (.inl h0)
    clear h0
    go_quiet (fail)
    go_wp2_with fail
    exact bodyPost_ret (v := .tuple #[]) (by simp [results, Tryz.results73, go_sem]) rfl ⟨rfl, by rw [HE.out]; exact BokTo.stay HI.out (bdrewN hb3 _)⟩

theorem qhear_any (O : Nat → Prop) (B : Bok) (q : Nat) (m : Ml) (w : World) (h : BokIn 107 42 3 O w q 0 B) (hI : BInv B) :
    Calls Tryz.prog 73 #[.pointer (some ⟨q, 0, none⟩), .agg #[.int .i64 m.kind, .int .i64 m.deal, .int .i64 m.shop, .int .i64 m.c, .int .i64 m.d, .bool m.yes]] w fun e w' => e = .returned (.tuple #[]) ∧ BokTo 107 42 3 O w w' q 0 (hearR B m) := by
  cases hd : dealAt B m.deal with
  | none => exact qhear_none O B q m w h hI hd
  | some D =>
    by_cases h2 : m.kind = 2
    · exact qhear_say O B q m D w h hI hd h2
    · by_cases h4 : m.kind = 4
      · exact qhear_over O B q m D w h hI hd h4
      · exact qhear_other O B q m D w h hI hd ⟨h2, h4⟩

end Go.Proofs.YtbgnajcmhmpjlacGreat

namespace Go.Proofs.YtbgnajcmhmpjlacGreat
open Go.RowKit

theorem BokRaw.none2 {w : World} {q g n cap k : Nat} {B : Bok} {ov : Value} {V : List DV} {D : Dl} {v : DV} (h : BokRaw 107 42 3 w q 0 B (.slice (some ⟨g, 0, none⟩) n cap) ov V) (hl : q < w.heap.size) (hall : ∀ u ∈ (.slice (some ⟨g, 0, none⟩) n cap : Value) :: ov :: V.flatMap DV.all, ∀ j, u.ownBlock = some j → j < w.heap.size) (hk : B.L[k]? = some D) (hv : V[k]? = some v) : BokRaw 107 42 3 ((w.setCell ⟨g, k * 4 + 2, none⟩ (.slice none 0 0)).setCell ⟨g, k * 4 + 3, none⟩ (.slice none 0 0)) q 0 (putD B (k : Int) { D with yes := [], ov := [] }) (.slice (some ⟨g, 0, none⟩) n cap) ov (V.set k { v with y := .slice none 0 0, o := .slice none 0 0 }) := by
  have nn : ∀ j, (Value.slice none 0 0).ownBlock = some j → False := fun j e => by simp [Value.ownBlock] at e
  have h1 := h.yes (l := []) (v8 := .slice none 0 0) hl hall hk hv (Save.refl _ _) (World.ownsRow_nil _ _ _ _) (fun j e => (nn j e).elim)
  have hkl := (List.getElem?_eq_some_iff.1 hk).1
  have hvl := (List.getElem?_eq_some_iff.1 hv).1
  have hk1 : (putD B (k : Int) { D with yes := [] }).L[k]? = some { D with yes := [] } := by
    show (B.L.set (k : Int).toNat _)[k]? = _
    rw [Int.toNat_natCast]
    exact List.getElem?_set_self hkl
  have hv1 : (V.set k { v with y := .slice none 0 0 })[k]? = some { v with y := .slice none 0 0 } := List.getElem?_set_self hvl
  have h2 := h1.ov' (l := []) (v8 := .slice none 0 0) (by simpa using hl) (fun u hu j hj => ?_) hk1 hv1 (Save.refl _ _) (World.ownsRow_nil _ _ _ _) (fun j e => (nn j e).elim)
  · have e1 : putD (putD B (k : Int) { D with yes := [] }) (k : Int) { D with yes := [], ov := [] } = putD B (k : Int) { D with yes := [], ov := [] } := by
      unfold putD
      simp
    have e2 : (V.set k { v with y := .slice none 0 0 }).set k { v with y := .slice none 0 0, o := .slice none 0 0 } = V.set k { v with y := .slice none 0 0, o := .slice none 0 0 } := by simp
    rw [← e1, ← e2]
    exact h2
  · rcases List.mem_cons.1 hu with rfl | hu
    · simpa using hall _ (by simp) j hj
    · rcases List.mem_cons.1 hu with rfl | hu
      · simpa using hall _ (by simp) j hj
      · rw [(all_y (.slice none 0 0) hv).1] at hu
        rcases mem_set hu with rfl | hu
        · exact (nn j hj).elim
        · simpa using hall u (by simp [hu]) j hj
theorem set_swap (w : World) (g a b : Nat) (hab : a ≠ b) (u v : Value) : (w.setCell ⟨g, a, none⟩ u).setCell ⟨g, b, none⟩ v = (w.setCell ⟨g, b, none⟩ v).setCell ⟨g, a, none⟩ u := by
  unfold World.setCell
  congr 1
  apply Array.ext_getElem?
  intro i
  simp only [Array.getElem?_modify]
  by_cases e : g = i
  · subst e
    simp only [if_true]
    cases h : w.heap[g]? with
    | none => rfl
    | some o =>
      cases o with
      | cells cs t fr =>
        simp only [Option.map_some]
        congr 1
        simp only [Option.isSome_none, Bool.false_eq_true, if_false]
        congr 1
        exact Array.setIfInBounds_comm _ _ hab
      | _ => rfl
  · simp [e]

set_option maxHeartbeats 4000000 in
set_option maxRecDepth 100000 in
theorem qcrash_any (O : Nat → Prop) (B : Bok) (q : Nat) (w : World) (h : BokIn 107 42 3 O w q 0 B) (hI : BInv B) :
    Calls Tryz.prog 40 #[.pointer (some ⟨q, 0, none⟩)] w fun e w' => e = .returned (.tuple #[]) ∧ BokTo 107 42 3 O w w' q 0 (crashR B) := by
  obtain ⟨rv, ov, V, hR, hsub⟩ := h.raw
  have HI : Hid (BokIn 107 42 3 O w q 0 B) := h
  have hql := h.lt
  have c0 := hR.c0
  have h8 : (B.L.length : Int) ≤ 8 := by have := hI.len; omega
  by_cases hne : B.L.length = 0
  · obtain ⟨ga, cap, rfl⟩ := own_sl hR.row
    have HE : Hid (crashR B = B) := by
      have : B.L = [] := List.length_eq_zero_iff.1 hne
      show _ = _
      unfold crashR
      rw [this]
      cases B
      simp_all
    have hn' : ¬ (0 : Int) < (B.L.length : Int) := by omega
    clear hR hsub h hI hne
    go_enter Tryz.func40, Tryz.ntmps40
    go_wp2_with fail
    go_loopg [2] 0 (fun _ s2 wr => s2 = .int .i64 0 ∧ w = wr)
    case atStart => exact ⟨rfl, rfl⟩
    case round =>
      obtain ⟨rfl, rfl⟩ := hrel
      go_wp2_with fail
      exact bodyPost_end (v := .tuple #[]) (by simp [results, Tryz.results40, go_sem]) rfl ⟨rfl, by rw [HE.out]; exact BokTo.stay HI.out (Below.refl _ _)⟩
  · obtain ⟨g, cap, rfl⟩ := own_any hR.row hne
    have HSub : Hid (∀ u ∈ (.slice (some ⟨g, 0, none⟩) B.L.length cap : Value) :: ov :: V.flatMap DV.all, ∀ k, u.ownBlock = some k → O k) := hsub
    have hqg : q ≠ g := by have := (hR.row.lt g rfl).1; omega
    clear h hI hne
    go_enter Tryz.func40, Tryz.ntmps40
    go_wp2_with fail
    go_loopg [2] B.L.length (fun gg s2 wr => ∃ (k : Nat) (V' : List DV), k ≤ B.L.length ∧ gg = B.L.length - k ∧ s2 = .int .i64 k ∧ BokRaw 107 42 3 wr q 0 ⟨crashTo B.L k, B.ord⟩ (.slice (some ⟨g, 0, none⟩) B.L.length cap) ov V' ∧ Hid (∀ u ∈ (.slice (some ⟨g, 0, none⟩) B.L.length cap : Value) :: ov :: V'.flatMap DV.all, ∀ k, u.ownBlock = some k → O k) ∧ Hid (Save (fun b => b = g) w wr))
    case atStart => exact ⟨0, V, Nat.zero_le _, rfl, rfl, by rw [crashTo_zero]; exact hR, hsub, Save.refl _ _⟩
    case round =>
      obtain ⟨k, V', hk, rfl, rfl, hRk, HSk, HSv⟩ := hrel
      clear hR c0 hsub
      have c0 := hRk.c0
      have hqr : q < wr.heap.size := Nat.lt_of_lt_of_le hql HSv.out.size
      by_cases hlt : k < B.L.length
      · obtain ⟨D, hkD⟩ : ∃ x, B.L[k]? = some x := ⟨_, List.getElem?_eq_getElem hlt⟩
        obtain ⟨g', cap', v, erv, hV', h4, _, _⟩ := hRk.deal4 (crashTo_at hkD)
        have e1 : g = g' := by
          simp only [Value.slice.injEq, Option.some.injEq, Addr.mk.injEq] at erv
          exact erv.1.1
        subst e1
        have j0 : (0 : Int) ≤ (k : Int) := by omega
        have j1 : (k : Int) < (B.L.length : Int) := by omega
        have hr4 : IntKind.i64.wrap ((k : Int) + 1) = (k : Int) + 1 := by go_unwrap
        obtain ⟨d0, d1, d2, d3, dl, df⟩ := h4
        have HRk : Hid (BokRaw 107 42 3 wr q 0 ⟨crashTo B.L k, B.ord⟩ (.slice (some ⟨g, 0, none⟩) B.L.length cap) ov V') := hRk
        have HV' : Hid (V'[k]? = some v) := hV'
        have HKL : Hid (k < B.L.length) := hlt
        have HkD : Hid _ := hkD
        have hall : ∀ u ∈ (.slice (some ⟨g, 0, none⟩) B.L.length cap : Value) :: ov :: V'.flatMap DV.all, ∀ j, u.ownBlock = some j → j < wr.heap.size := fun u hu j hj => Nat.lt_of_lt_of_le (HI.out.own j (HSk.out u hu j hj)) HSv.out.size
        have HAll : Hid _ := hall
        have HRel : Hid (∀ (x : Int) (w2 : World), x = (crashD D).st → BokRaw 107 42 3 w2 q 0 (putD ⟨crashTo B.L k, B.ord⟩ (k : Int) { D with st := x }) (.slice (some ⟨g, 0, none⟩) B.L.length cap) ov V' → Save (fun b => b = g) wr w2 → BokRaw 107 42 3 ((w2.setCell ⟨g, k * 4 + 2, none⟩ (.slice none 0 0)).setCell ⟨g, k * 4 + 3, none⟩ (.slice none 0 0)) q 0 ⟨crashTo B.L (k + 1), B.ord⟩ (.slice (some ⟨g, 0, none⟩) B.L.length cap) ov (V'.set k { v with y := .slice none 0 0, o := .slice none 0 0 }) ∧ Save (fun b => b = g) w ((w2.setCell ⟨g, k * 4 + 2, none⟩ (.slice none 0 0)).setCell ⟨g, k * 4 + 3, none⟩ (.slice none 0 0))) := fun x w2 hx h2 hs => by
          have hk2 : (putD ⟨crashTo B.L k, B.ord⟩ (k : Int) { D with st := x }).L[k]? = some { D with st := x } := by
            show ((crashTo B.L k).set (k : Int).toNat _)[k]? = _
            rw [Int.toNat_natCast]
            exact List.getElem?_set_self (by rw [crashTo_len]; exact HKL.out)
          have h3 := h2.none2 (Nat.lt_of_lt_of_le hqr hs.size) (fun u hu j hj => Nat.lt_of_lt_of_le (HAll.out u hu j hj) hs.size) hk2 HV'.out
          have e2 : putD (putD ⟨crashTo B.L k, B.ord⟩ (k : Int) { D with st := x }) (k : Int) { D with st := x, yes := [], ov := [] } = ⟨crashTo B.L (k + 1), B.ord⟩ := by
            rw [crashTo_next HkD.out, hx]
            unfold putD crashD
            simp
          rw [e2] at h3
          refine ⟨h3, ((HSv.out.trans hs (fun _ _ e => e)).setCell (p := ⟨g, k * 4 + 2, none⟩) (fun _ => rfl) _).setCell (p := ⟨g, k * 4 + 3, none⟩) (fun _ => rfl) _⟩
        have HSk2 : Hid (∀ u ∈ (.slice (some ⟨g, 0, none⟩) B.L.length cap : Value) :: ov :: (V'.set k { v with y := .slice none 0 0, o := .slice none 0 0 }).flatMap DV.all, ∀ k, u.ownBlock = some k → O k) := by
          intro u hu j hj
          rcases List.mem_cons.1 hu with rfl | hu
          · exact HSk.out _ (by simp) j hj
          · rcases List.mem_cons.1 hu with rfl | hu
            · exact HSk.out _ (by simp) j hj
            · obtain ⟨x, hx, hux⟩ := List.mem_flatMap.1 hu
              rcases mem_set hx with rfl | hx
              · simp only [DV.all, List.mem_cons, List.not_mem_nil, or_false] at hux
                rcases hux with rfl | rfl | rfl
                · exact HSk.out _ (by simp [(mem_all HV'.out).1]) j hj
                · simp [Value.ownBlock] at hj
                · simp [Value.ownBlock] at hj
              · exact HSk.out u (List.mem_cons_of_mem _ (List.mem_cons_of_mem _ (List.mem_flatMap.2 ⟨x, hx, hux⟩))) j hj
        have hgk : (k * 4 + 2) ≠ (k * 4 + 3) := by omega
        clear erv hV' hRk hlt hkD hk hall
        by_cases hst : D.st = 0
        · have hst' : (D.st == 0) = true := by simp [hst]
          have HRel2 : Hid _ := HRel.out 2 (wr.setCell ⟨g, k * 4 + 1, none⟩ (.int .i64 2)) (by simp [crashD, hst]) (HRk.out.st hqr (crashTo_at HkD.out) 2) (Save.setCell (O := fun b => b = g) (Save.refl _ _) (p := ⟨g, k * 4 + 1, none⟩) (fun _ => rfl) _)
          clear hst HRel
          go_upto_region 5 with fail
          go_region
          all_goals
            go_wp2_with fail
            go_roundg (B.L.length - (k + 1))
            case measure => have := HKL.out; omega
            case rel =>
              obtain ⟨r1, r2⟩ := HRel2.out
              have hb6 : ∀ W : World, Below W.heap.size W W.drew := fun W => (Below.refl _ _).drew
              have hl6 : ∀ W : World, Save (fun b => b = g) w W → q < W.heap.size := fun W hW => Nat.lt_of_lt_of_le hql hW.size
              have r5 := r1.save (hl6 _ r2) (.of_below (O := fun _ => False) (hb6 _)) (fun q => q) (fun _ _ _ _ q => q)
              have r7 : Hid _ := r2.next (hb6 _)
              have hk1 : k + 1 ≤ B.L.length := HKL.out
              first
                | with_reducible exact ⟨k + 1, _, hk1, rfl, by simp, r5, HSk2, r7⟩
                | (rw [set_swap _ _ _ _ hgk] at r5 r7
                   with_reducible exact ⟨k + 1, _, hk1, rfl, by simp, r5, HSk2, r7⟩)
        · have hst' : (D.st == 0) = false := by simpa using hst
          have HRel2 : Hid _ := HRel.out D.st wr (by simp [crashD, hst]) (by
            have : putD ⟨crashTo B.L k, B.ord⟩ (k : Int) { D with st := D.st } = ⟨crashTo B.L k, B.ord⟩ := put_self (by rw [dealAt_nat]; exact crashTo_at HkD.out)
            rw [this]
            exact HRk.out) (Save.refl _ _)
          clear hst HRel
          go_upto_region 5 with fail
          go_region
          all_goals
            go_wp2_with fail
            go_roundg (B.L.length - (k + 1))
            case measure => have := HKL.out; omega
            case rel =>
              obtain ⟨r1, r2⟩ := HRel2.out
              have hb6 : ∀ W : World, Below W.heap.size W W.drew := fun W => (Below.refl _ _).drew
              have hl6 : ∀ W : World, Save (fun b => b = g) w W → q < W.heap.size := fun W hW => Nat.lt_of_lt_of_le hql hW.size
              have r5 := r1.save (hl6 _ r2) (.of_below (O := fun _ => False) (hb6 _)) (fun q => q) (fun _ _ _ _ q => q)
              have r7 : Hid _ := r2.next (hb6 _)
              have hk1 : k + 1 ≤ B.L.length := HKL.out
              first
                | with_reducible exact ⟨k + 1, _, hk1, rfl, by simp, r5, HSk2, r7⟩
                | (rw [set_swap _ _ _ _ hgk] at r5 r7
                   with_reducible exact ⟨k + 1, _, hk1, rfl, by simp, r5, HSk2, r7⟩)
      · have hkk : k = B.L.length := by omega
        subst hkk
        have HT : Hid (BokTo 107 42 3 O w wr q 0 (crashR B)) := by
          rw [crashTo_all] at hRk
          have hgO : O g := HSub.out _ List.mem_cons_self g rfl
          refine bok_to HI.out.own HI.out.mine (HSv.out.mono (fun j _ e => by rw [e]; exact hgO)) hRk (fun j => (HSv.out.frozen (p := ⟨q, j, none⟩) hql hqg).trans (HI.out.loose j)) (fun u hu j hj => ?_) (fun j _ _ => HSv.out.cell (p := ⟨q, j, none⟩) hql hqg)
          have h1 := HSk.out u hu j hj
          exact ⟨.inl h1, Nat.lt_of_lt_of_le (HI.out.own j h1) HSv.out.size⟩
        clear hRk hk hlt
        go_wp2_with fail
        exact bodyPost_end (v := .tuple #[]) (by simp [results, Tryz.results40, go_sem]) rfl ⟨rfl, HT.out⟩

end Go.Proofs.YtbgnajcmhmpjlacGreat

namespace Go.Proofs.YtbgnajcmhmpjlacGreat
open Go.RowKit

theorem MailIn.beside {O Ob : Nat → Prop} {w w1 : World} {p o : Nat} {l : List Ml} (h : MailIn O w p o l) (hb : Save Ob w w1) (hn : ∀ k, O k → Ob k → k = p) (hc : w1.cell? ⟨p, o, none⟩ = w.cell? ⟨p, o, none⟩) (hf : ∀ k, w1.frozen? ⟨p, k, none⟩ = false) : MailIn O w1 p o l := by
  obtain ⟨mv, h1, h2, h3⟩ := h.raw
  refine ⟨fun k hk => Nat.lt_of_lt_of_le (h.own k hk) hb.size, h.mine, hf, mv, hc.trans h1, own_save h2 hb (fun k hk hk' => ?_), h3⟩
  have e := hn k (h3 k hk) hk'
  have := (h2.lt k hk).1
  omega
theorem BokIn.beside {tD tW tI : TypeId} {O Ob : Nat → Prop} {w w1 : World} {q o : Nat} {B : Bok} (h : BokIn tD tW tI O w q o B) (hb : Save Ob w w1) (hn : ∀ k, O k → Ob k → k = q) (hc : w1.cell? ⟨q, o, none⟩ = w.cell? ⟨q, o, none⟩) (hc1 : w1.cell? ⟨q, o + 1, none⟩ = w.cell? ⟨q, o + 1, none⟩) (hf : ∀ k, w1.frozen? ⟨q, k, none⟩ = false) : BokIn tD tW tI O w1 q o B := by
  obtain ⟨rv, ov, V, h1, h7⟩ := h.raw
  have out : ∀ {e s : Nat} {u : Value} {m : Nat} {xs : List Value}, u ∈ rv :: ov :: V.flatMap DV.all → w.ownsRow (q + 1) e s u m xs → w1.ownsRow (q + 1) e s u m xs := fun {e s u m xs} hu hr => own_save hr hb (fun k hk hk' => by
    have e := hn k (h7 u hu k hk) hk'
    have := (hr.lt k hk).1
    omega)
  refine ⟨fun k hk => Nat.lt_of_lt_of_le (h.own k hk) hb.size, h.mine, hf, rv, ov, V, ⟨h1.len, hc.trans h1.c0, hc1.trans h1.c1, out (by simp) h1.row, out (by simp) h1.ord, fun k D v hD hv => ?_, h1.apart⟩, h7⟩
  obtain ⟨a, b, c⟩ := h1.deal k D v hD hv
  obtain ⟨m1, m2, m3⟩ := mem_all hv
  exact ⟨out (by simp [m1]) a, out (by simp [m2]) b, out (by simp [m3]) c⟩

end Go.Proofs.YtbgnajcmhmpjlacGreat

namespace Go.Proofs.YtbgnajcmhmpjlacGreat
open Go.RowKit

structure Stands (A : (Nat → Prop) → World → Prop) : Prop where
  own : ∀ {O w}, A O w → ∀ k, O k → k < w.heap.size
  save : ∀ {O O' w w1}, A O w → Save O' w w1 → (∀ k, O k → ¬ O' k) → A O w1
theorem Stands.next {A : (Nat → Prop) → World → Prop} (hA : Stands A) {O : Nat → Prop} {w w1 : World} (h : A O w) (hb : Below w.heap.size w w1) : A O w1 := hA.save (O' := fun _ => False) h (.of_below hb) (fun _ _ q => q)
def To (A : (Nat → Prop) → World → Prop) (O : Nat → Prop) (w w' : World) : Prop := ∃ O', A O' w' ∧ Save O w w' ∧ Moved O O' w
theorem To.stay {A : (Nat → Prop) → World → Prop} (hA : Stands A) {O : Nat → Prop} {w w' : World} (h : A O w) (hb : Below w.heap.size w w') : To A O w w' := ⟨O, hA.next h hb, .of_below hb, .refl _ _⟩
theorem To.behind {A : (Nat → Prop) → World → Prop} {O : Nat → Prop} {w w1 w' : World} (hb : Below w.heap.size w w1) (hs : To A O w1 w') : To A O w w' := by
  obtain ⟨O', h1, h2, h3⟩ := hs
  exact ⟨O', h1, (Save.of_below hb).trans h2 (fun _ _ hj => hj), fun k hk => (h3 k hk).imp id (fun q => Nat.le_trans hb.size q)⟩
theorem To.next {A : (Nat → Prop) → World → Prop} (hA : Stands A) {O : Nat → Prop} {w w1 w' : World} (hs : To A O w w1) (hb : Below w1.heap.size w1 w') : To A O w w' := by
  obtain ⟨O', h1, h2, h3⟩ := hs
  exact ⟨O', hA.next h1 hb, h2.next hb, h3⟩
theorem To.trans {A B : (Nat → Prop) → World → Prop} {O : Nat → Prop} {w w1 w' : World} (hs : To A O w w1) (hk : ∀ O1, A O1 w1 → To B O1 w1 w') : To B O w w' := by
  obtain ⟨O1, h1, h2, h3⟩ := hs
  obtain ⟨O2, k1, k2, k3⟩ := hk O1 h1
  refine ⟨O2, k1, h2.trans k2 (fun j hj hj1 => (h3 j hj1).elim id (fun q => by omega)), fun k hk => ?_⟩
  rcases k3 k hk with q | q
  · exact h3 k q
  · exact .inr (Nat.le_trans h2.size q)
theorem To.mono {A B : (Nat → Prop) → World → Prop} {O : Nat → Prop} {w w' : World} (hs : To A O w w') (hk : ∀ O1, A O1 w' → B O1 w') : To B O w w' := by
  obtain ⟨O1, h1, h2, h3⟩ := hs
  exact ⟨O1, hk O1 h1, h2, h3⟩

structure Beside (n : Nat) (A : Nat → (Nat → Prop) → World → Prop) (O : Nat → Prop) (w : World) : Prop where
  own : ∀ k, O k → k < w.heap.size
  raw : ∃ Q : Nat → Nat → Prop, (∀ i, i < n → A i (Q i) w) ∧ (∀ i, i < n → ∀ k, Q i k → O k) ∧ ∀ i j, i < n → j < n → i ≠ j → ∀ k, Q i k → ¬ Q j k
theorem Beside.stands {n : Nat} {A : Nat → (Nat → Prop) → World → Prop} (hA : ∀ i, i < n → Stands (A i)) : Stands (Beside n A) := by
  refine ⟨fun h => h.own, fun {O O' w w1} h hb hn => ?_⟩
  obtain ⟨Q, h1, h2, h3⟩ := h.raw
  exact ⟨fun k hk => Nat.lt_of_lt_of_le (h.own k hk) hb.size, Q, fun i hi => (hA i hi).save (h1 i hi) hb (fun k hk => hn k (h2 i hi k hk)), h2, h3⟩
def putQ (Q : Nat → Nat → Prop) (i : Nat) (O1 : Nat → Prop) : Nat → Nat → Prop := fun j => if j = i then O1 else Q j
theorem putQ_at (Q : Nat → Nat → Prop) (i : Nat) (O1 : Nat → Prop) : putQ Q i O1 i = O1 := by unfold putQ; rw [if_pos rfl]
theorem putQ_off (Q : Nat → Nat → Prop) {i j : Nat} (O1 : Nat → Prop) (h : j ≠ i) : putQ Q i O1 j = Q j := by unfold putQ; rw [if_neg h]
def putA (A : Nat → (Nat → Prop) → World → Prop) (i : Nat) (B : (Nat → Prop) → World → Prop) : Nat → (Nat → Prop) → World → Prop := fun j => if j = i then B else A j
theorem putA_at (A : Nat → (Nat → Prop) → World → Prop) (i : Nat) (B : (Nat → Prop) → World → Prop) : putA A i B i = B := by unfold putA; rw [if_pos rfl]
theorem putA_off (A : Nat → (Nat → Prop) → World → Prop) {i j : Nat} (B : (Nat → Prop) → World → Prop) (h : j ≠ i) : putA A i B j = A j := by unfold putA; rw [if_neg h]
theorem Beside.step {n : Nat} {A : Nat → (Nat → Prop) → World → Prop} (hA : ∀ i, i < n → Stands (A i)) {O : Nat → Prop} {w : World} (h : Beside n A O w) {i : Nat} (hi : i < n) : ∃ Oi, A i Oi w ∧ (∀ k, Oi k → O k) ∧ ∀ (w' : World) (B : (Nat → Prop) → World → Prop), Stands B → To B Oi w w' → To (Beside n (putA A i B)) O w w' := by
  obtain ⟨Q, h1, h2, h3⟩ := h.raw
  refine ⟨Q i, h1 i hi, h2 i hi, fun w' B hB ⟨O1, b1, b2, b3⟩ => ?_⟩
  have off : ∀ k, O1 k → k < w.heap.size → Q i k := fun k a b => (b3 k a).elim id (fun q => by omega)
  have lt : ∀ j, j < n → ∀ k, Q j k → k < w.heap.size := fun j hj k hk => h.own k (h2 j hj k hk)
  refine ⟨fun k => O k ∨ O1 k, ⟨fun k hk => hk.elim (fun q => Nat.lt_of_lt_of_le (h.own k q) b2.size) (hB.own b1 k), putQ Q i O1, fun j hj => ?_, fun j hj k hk => ?_, fun j l hj hl hjl k hk => ?_⟩, b2.mono (fun j _ hj => h2 i hi j hj), fun k hk => ?_⟩
  · by_cases e : j = i
    · subst e
      rw [putQ_at, putA_at]
      exact b1
    · rw [putQ_off _ _ e, putA_off _ _ e]
      exact (hA j hj).save (h1 j hj) b2 (fun k a b => h3 j i hj hi e k a b)
  · by_cases e : j = i
    · subst e
      rw [putQ_at] at hk
      exact .inr hk
    · rw [putQ_off _ _ e] at hk
      exact .inl (h2 j hj k hk)
  · by_cases e : j = i
    · subst e
      rw [putQ_at] at hk
      rw [putQ_off _ _ (fun a => hjl a.symm)]
      exact fun a => h3 j l hj hl hjl k (off k hk (lt l hl k a)) a
    · rw [putQ_off _ _ e] at hk
      by_cases e' : l = i
      · subst e'
        rw [putQ_at]
        exact fun a => h3 j l hj hl hjl k hk (off k a (lt j hj k hk))
      · rw [putQ_off _ _ e']
        exact h3 j l hj hl hjl k hk
  · rcases hk with a | a
    · exact .inl a
    · exact (b3 k a).imp (h2 i hi k) id
theorem Beside.same {n : Nat} {A B : Nat → (Nat → Prop) → World → Prop} {O : Nat → Prop} {w : World} (h : Beside n A O w) (he : ∀ i, i < n → ∀ Q, A i Q w → B i Q w) : Beside n B O w := by
  obtain ⟨Q, h1, h2, h3⟩ := h.raw
  exact ⟨h.own, Q, fun i hi => he i hi (Q i) (h1 i hi), h2, h3⟩
theorem Beside.none (A : Nat → (Nat → Prop) → World → Prop) (w : World) : Beside 0 A (fun _ => False) w := ⟨fun _ q => q.elim, fun _ _ => False, fun i hi => absurd hi (by omega), fun i hi => absurd hi (by omega), fun i _ hi => absurd hi (by omega)⟩
theorem Beside.more {n : Nat} {A : Nat → (Nat → Prop) → World → Prop} (hA : ∀ i, i < n + 1 → Stands (A i)) {O O1 : Nat → Prop} {w w1 : World} (h : Beside n A O w) (hb : Below w.heap.size w w1) (h1 : A n O1 w1) (hn : ∀ k, O1 k → w.heap.size ≤ k) : Beside (n + 1) A (fun k => O k ∨ O1 k) w1 := by
  obtain ⟨Q, q1, q2, q3⟩ := h.raw
  have lt : ∀ j, j < n → ∀ k, Q j k → k < w.heap.size := fun j hj k hk => h.own k (q2 j hj k hk)
  refine ⟨fun k hk => hk.elim (fun q => Nat.lt_of_lt_of_le (h.own k q) hb.size) ((hA n (by omega)).own h1 k), putQ Q n O1, fun j hj => ?_, fun j hj k hk => ?_, fun j l hj hl hjl k hk => ?_⟩
  · by_cases e : j = n
    · subst e
      rw [putQ_at]
      exact h1
    · rw [putQ_off _ _ e]
      exact (hA j hj).next (q1 j (by omega)) hb
  · by_cases e : j = n
    · subst e
      rw [putQ_at] at hk
      exact .inr hk
    · rw [putQ_off _ _ e] at hk
      exact .inl (q2 j (by omega) k hk)
  · by_cases e : j = n
    · subst e
      rw [putQ_at] at hk
      rw [putQ_off _ _ (fun a => hjl a.symm)]
      intro a
      have := lt l (by omega) k a
      have := hn k hk
      omega
    · rw [putQ_off _ _ e] at hk
      by_cases e' : l = n
      · subst e'
        rw [putQ_at]
        intro a
        have := lt j (by omega) k hk
        have := hn k a
        omega
      · rw [putQ_off _ _ e']
        exact q3 j l (by omega) (by omega) hjl k hk

def Cells (b : Nat) (vs : List Value) (O : Nat → Prop) (w : World) : Prop := (∀ k, O k → k < w.heap.size) ∧ O b ∧ (∀ k, w.frozen? ⟨b, k, Option.none⟩ = false) ∧ ∀ j u, vs[j]? = some u → w.cell? ⟨b, j, Option.none⟩ = some u
theorem cells_stands (b : Nat) (vs : List Value) : Stands (Cells b vs) := by
  refine ⟨fun h => h.1, fun {O O' w w1} h hb hn => ?_⟩
  obtain ⟨h1, h2, h3, h4⟩ := h
  have hl := h1 b h2
  exact ⟨fun k hk => Nat.lt_of_lt_of_le (h1 k hk) hb.size, h2, fun k => (hb.frozen (p := ⟨b, k, Option.none⟩) hl (hn b h2)).trans (h3 k), fun j u hj => (hb.cell (p := ⟨b, j, Option.none⟩) hl (hn b h2)).trans (h4 j u hj)⟩

end Go.Proofs.YtbgnajcmhmpjlacGreat

namespace Go.Proofs.YtbgnajcmhmpjlacGreat
open Go.RowKit

def sumD (f : Int → Int) : List Int → Int
  | [] => 0
  | n :: r => f n + sumD f r
theorem sumD_append (f : Int → Int) (a b : List Int) : sumD f (a ++ b) = sumD f a + sumD f b := by
  induction a with
  | nil => simp [sumD]
  | cons x r ih => simp only [List.cons_append, sumD, ih]; omega
theorem sumD_congr {f g : Int → Int} {l : List Int} (h : ∀ n ∈ l, f n = g n) : sumD f l = sumD g l := by
  induction l with
  | nil => rfl
  | cons x r ih => simp only [sumD]; rw [h x (by simp), ih (fun n hn => h n (by simp [hn]))]
theorem sumD_add (f g : Int → Int) (l : List Int) : sumD (fun n => f n + g n) l = sumD f l + sumD g l := by
  induction l with
  | nil => rfl
  | cons x r ih => simp only [sumD, ih]; omega
theorem sumD_zero {f : Int → Int} {l : List Int} (h : ∀ n ∈ l, f n = 0) : sumD f l = 0 := by
  induction l with
  | nil => rfl
  | cons x r ih => simp only [sumD]; rw [h x (by simp), ih (fun n hn => h n (by simp [hn]))]; rfl
theorem sum_gainOf (h : H3) (c : Int) {ks : List Int} (hn : ks.Nodup) : sumD (fun k => gainOf k true h c) ks = if h.1 ∈ ks ∧ h.2.1 = c then h.2.2 else 0 := by
  induction ks with
  | nil => simp [sumD]
  | cons k r ih =>
    obtain ⟨h1, h2⟩ := List.nodup_cons.1 hn
    simp only [sumD]
    rw [ih h2]
    unfold gainOf
    by_cases hc : h.2.1 = c
    · by_cases hk : h.1 = k
      · subst hk
        simp [hc, h1]
      · simp [hc, hk]
    · simp [hc]
theorem gain_bounds (hs : List H3) (c : Int) {ks : List Int} (hn : ks.Nodup) : - outs hs c ≤ sumD (fun k => gain k true hs c) ks ∧ sumD (fun k => gain k true hs c) ks ≤ inns hs c := by
  induction hs with
  | nil => rw [sumD_zero (f := fun k => gain k true [] c) (fun n _ => rfl)]; simp [outs, inns]
  | cons h r ih =>
    have e : sumD (fun k => gain k true (h :: r) c) ks = sumD (fun k => gainOf k true h c) ks + sumD (fun k => gain k true r c) ks := by
      rw [← sumD_add]
      rfl
    rw [e, sum_gainOf h c hn]
    simp only [outs, inns]
    unfold outOf innOf
    by_cases hc : h.2.1 = c
    · by_cases hk : h.1 ∈ ks
      · by_cases h0 : h.2.2 < 0
        · simp only [hc, hk, h0, and_self, if_true]; omega
        · simp only [hc, hk, h0, and_self, if_true, if_false]; omega
      · by_cases h0 : h.2.2 < 0
        · simp only [hc, hk, h0, false_and, if_true, if_false]; omega
        · simp only [hc, hk, h0, false_and, if_true, if_false]; omega
    · simp only [hc, and_false, if_false]; omega

def Apart (hs : List H3) : Prop := hs.Pairwise (fun x y => ¬ (x.1 = y.1 ∧ x.2.1 = y.2.1))
theorem apart_snoc {hs : List H3} {n c d : Int} (h : Apart hs) (hf : hs.find? (same n c) = none) : Apart (hs ++ [(n, c, d)]) := by
  unfold Apart
  rw [List.pairwise_append]
  refine ⟨h, by simp, ?_⟩
  intro x hx y hy
  rw [List.mem_singleton.1 hy]
  rintro ⟨e1, e2⟩
  have := (List.find?_eq_none.1 hf) x hx
  unfold same at this
  simp only at e1 e2
  simp [e1, e2] at this
theorem apart_filter {hs : List H3} (h : Apart hs) (q : H3 → Bool) : Apart (hs.filter q) := List.Pairwise.filter _ h
theorem apart_tell {A : Bk} (h : Apart A.hs) (r : Stp) : Apart (tellR A r).2.hs := by
  unfold tellR
  split
  · split
    · rcases holdR_cases A r.deal r.c r.d with ⟨_, e⟩ | ⟨_, m, _, _, ⟨y, _, e⟩ | ⟨_, _, e⟩ | ⟨hf, _, e⟩⟩
      · rw [e]; exact h
      · rw [e]; exact h
      · rw [e]; exact h
      · rw [e]; exact apart_snoc h hf
    · rcases endR_cases A r.deal r.done with ⟨_, e⟩ | ⟨_, _, ⟨b, _, e⟩ | ⟨_, e⟩⟩
      · rw [e]; exact h
      · rw [e]; exact h
      · rw [e]; exact apart_filter h _
  · exact h
theorem gain_none {n c : Int} {hs : List H3} (h : ∀ x ∈ hs, ¬ (x.1 = n ∧ x.2.1 = c)) : gain n true hs c = 0 := by
  induction hs with
  | nil => rfl
  | cons x r ih =>
    simp only [gain]
    rw [ih (fun y hy => h y (by simp [hy]))]
    unfold gainOf
    rw [if_neg (fun q => h x (by simp) ⟨q.1, q.2.1⟩)]
    rfl
theorem gain_one {n c d : Int} {hs : List H3} (ha : Apart hs) (hm : (n, c, d) ∈ hs) : gain n true hs c = d := by
  induction hs with
  | nil => simp at hm
  | cons x r ih =>
    obtain ⟨h1, h2⟩ := List.pairwise_cons.1 ha
    simp only [gain]
    rcases List.mem_cons.1 hm with e | hm
    · subst e
      rw [gain_none (fun y hy q => h1 y hy ⟨q.1.symm, q.2.symm⟩)]
      simp [gainOf]
    · rw [ih h2 hm]
      unfold gainOf
      rw [if_neg (fun q => h1 _ hm ⟨q.1, q.2.1⟩)]
      omega
theorem gain_wants {n : Int} {k : Nat} {hs : List H3} {w : List (Int × Int)} (ha : Apart hs) (hw : w.Pairwise (fun x y => x.1 ≠ y.1)) (h1 : ∀ d, ((k : Int), d) ∈ w → (n, (k : Int), d) ∈ hs) (h2 : ∀ d, (n, (k : Int), d) ∈ hs → ((k : Int), d) ∈ w) : gain n true hs (k : Int) = dOf w k := by
  by_cases h : ∃ d, ((k : Int), d) ∈ w
  · obtain ⟨d, hd⟩ := h
    rw [gain_one ha (h1 d hd), dOf_one hw hd rfl]
  · rw [dOf_none (fun x hx e => h ⟨x.2, by rw [← e]; exact hx⟩), gain_none]
    rintro ⟨a, b, d⟩ hx ⟨e1, e2⟩
    simp only at e1 e2
    subst e1
    subst e2
    exact h ⟨d, h2 d hx⟩

end Go.Proofs.YtbgnajcmhmpjlacGreat

namespace Go.Proofs.YtbgnajcmhmpjlacGreat
open Go.RowKit

structure Twn where
  B : Bok
  P : Nat → Kb
  M : List Ml
def updP (P : Nat → Kb) (s : Nat) (K : Kb) : Nat → Kb := fun j => if j = s then K else P j
def MailOk (B : Bok) (P : Nat → Kb) (m : Ml) : Prop := 0 ≤ m.shop ∧ m.shop < 3 ∧ ∃ D, dealAt B m.deal = some D ∧
  ((m.kind = 1 ∧ (m.c, m.d) ∈ D.w ∧ m.shop = shp m.c) ∨
   (m.kind = 2 ∧ (m.c, m.d) ∈ D.w ∧ m.shop = shp m.c ∧ (m.yes = true → (m.deal, m.c, m.d) ∈ (P m.shop.toNat).A.hs ∨ (over (P m.shop.toNat).A.es m.deal).isSome = true)) ∨
   (m.kind = 3 ∧ D.st ≠ 0 ∧ m.yes = (D.st == 1) ∧ m.shop ∈ shopsL D.w) ∨
   (m.kind = 4 ∧ D.st ≠ 0 ∧ m.shop ∈ shopsL D.w ∧ (over (P m.shop.toNat).A.es m.deal).isSome = true))
def Later (B B' : Bok) : Prop := ∀ n D, dealAt B n = some D → ∃ D', dealAt B' n = some D' ∧ D'.w = D.w ∧ (D.st ≠ 0 → D'.st = D.st)
theorem Later.refl (B : Bok) : Later B B := fun _ D h => ⟨D, h, rfl, fun _ => rfl⟩
theorem later_put {B : Bok} {n : Int} {D D' : Dl} (h : dealAt B n = some D) (hw : D'.w = D.w) (hs : D.st ≠ 0 → D'.st = D.st) : Later B (putD B n D') := by
  intro j E hE
  rw [dealAt_put h]
  by_cases e : j = n
  · subst e
    rw [h] at hE
    obtain rfl := Option.some.inj hE
    exact ⟨D', by rw [if_pos rfl], hw, hs⟩
  · exact ⟨E, by rw [if_neg e]; exact hE, rfl, fun _ => rfl⟩
def Keeps (K K' : Kb) : Prop := (∀ n c d, (n, c, d) ∈ K.A.hs → (n, c, d) ∈ K'.A.hs ∨ (over K'.A.es n).isSome = true) ∧ ∀ n b, over K.A.es n = some b → over K'.A.es n = some b
theorem Keeps.refl (K : Kb) : Keeps K K := ⟨fun _ _ _ h => .inl h, fun _ _ h => h⟩
theorem Keeps.some {K K' : Kb} (h : Keeps K K') {n : Int} (ho : (over K.A.es n).isSome = true) : (over K'.A.es n).isSome = true := by
  obtain ⟨b, hb⟩ := Option.isSome_iff_exists.1 ho
  rw [h.2 n b hb]; rfl
theorem MailOk.later {B B' : Bok} {P P' : Nat → Kb} {m : Ml} (h : MailOk B P m) (hB : Later B B') (hP : ∀ s, Keeps (P s) (P' s)) : MailOk B' P' m := by
  obtain ⟨h0, h3, D, hD, hc⟩ := h
  obtain ⟨D', hD', hw, hs⟩ := hB _ D hD
  refine ⟨h0, h3, D', hD', ?_⟩
  rw [hw]
  rcases hc with ⟨a, b, c⟩ | ⟨a, b, c, d⟩ | ⟨a, b, c, d⟩ | ⟨a, b, c, d⟩
  · exact .inl ⟨a, b, c⟩
  · refine .inr (.inl ⟨a, b, c, fun hy => ?_⟩)
    rcases d hy with q | q
    · exact (hP _).1 _ _ _ q
    · exact .inr ((hP _).some q)
  · rw [hs b]
    exact .inr (.inr (.inl ⟨a, b, c, d⟩))
  · rw [hs b]
    exact .inr (.inr (.inr ⟨a, b, c, (hP _).some d⟩))

def valT (T : Twn) (k : Nat) : Int := (T.P (k / 2)).A.val (k % 2)
def doneAt (T : Twn) (k : Nat) (n : Int) : Int := if over (T.P (k / 2)).A.es n = some true then dOf (wantsR T.B n) k else 0
structure Inv (w0 : Nat → Int) (T : Twn) : Prop where
  pens : ∀ s : Nat, s < 3 → GoodK (book0 (s : Int) w0) (T.P s)
  apart : ∀ s : Nat, s < 3 → Apart (T.P s).A.hs
  len : T.B.L.length ≤ 8
  fit : ∀ D ∈ T.B.L, Fit D.w
  st : ∀ D ∈ T.B.L, D.st = 0 ∨ D.st = 1 ∨ D.st = 2
  nd : T.B.ord.Nodup
  ord : ∀ n, n ∈ T.B.ord ↔ ∃ D, dealAt T.B n = some D ∧ D.st = 1
  ynd : ∀ D ∈ T.B.L, D.yes.Nodup
  hold : ∀ s : Nat, s < 3 → ∀ n c d, (n, c, d) ∈ (T.P s).A.hs → ∃ D, dealAt T.B n = some D ∧ (c, d) ∈ D.w
  ovd : ∀ s : Nat, s < 3 → ∀ n b, over (T.P s).A.es n = some b → ∃ D, dealAt T.B n = some D ∧ D.st ≠ 0 ∧ b = (D.st == 1)
  yes : ∀ n D, dealAt T.B n = some D → ∀ i ∈ D.yes, ∃ (k : Nat) (c d : Int), i = (k : Int) ∧ D.w[k]? = some (c, d) ∧ (D.st = 0 → (n, c, d) ∈ (T.P (shp c).toNat).A.hs)
  done : ∀ n D, dealAt T.B n = some D → D.st = 1 → ∀ c d, (c, d) ∈ D.w → (n, c, d) ∈ (T.P (shp c).toNat).A.hs ∨ over (T.P (shp c).toNat).A.es n = some true
  ovs : ∀ n D, dealAt T.B n = some D → ∀ s ∈ D.ov, 0 ≤ s ∧ s < 3 ∧ (over (T.P s.toNat).A.es n).isSome = true
  mail : ∀ m ∈ T.M, MailOk T.B T.P m
  mlen : T.M.length ≤ 40
  vals : ∀ k : Nat, k < 6 → valT T k = w0 k + sumD (doneAt T k) T.B.ord

theorem Fit.shop {w : List (Int × Int)} (h : Fit w) {c d : Int} (hm : (c, d) ∈ w) : 0 ≤ c ∧ c < 6 ∧ 0 ≤ shp c ∧ shp c < 3 ∧ shp c = c / 2 := by
  obtain ⟨a, b, _⟩ := wnt_ok (h.each (c, d) hm)
  have e := shp_eq a b
  exact ⟨a, b, by rw [e]; omega, by rw [e]; omega, e⟩
theorem inv_new {w0 : Nat → Int} (h : ∀ s : Nat, s < 3 → newOk (s : Int) w0 = true) : Inv w0 ⟨⟨[], []⟩, fun s => ⟨book0 (s : Int) w0, []⟩, []⟩ := by
  have hd : ∀ n, dealAt (⟨[], []⟩ : Bok) n = none := fun n => by unfold dealAt; split <;> simp
  refine ⟨fun s hs => goodK_new (good_new (h s hs)) rfl rfl, fun s _ => List.Pairwise.nil, by simp, by simp, by simp, List.nodup_nil, fun n => ⟨fun q => by simp at q, fun ⟨D, q, _⟩ => absurd q (by rw [hd]; simp)⟩, by simp, fun s _ n c d q => by simp [book0] at q, fun s _ n b q => by simp [book0, over] at q, fun n D q => absurd q (by rw [hd]; simp), fun n D q => absurd q (by rw [hd]; simp), fun n D q => absurd q (by rw [hd]; simp), by simp, by simp, ?_⟩
  intro k hk
  show (book0 ((k / 2 : Nat) : Int) w0).val (k % 2) = w0 k + 0
  have : k = 0 ∨ k = 1 ∨ k = 2 ∨ k = 3 ∨ k = 4 ∨ k = 5 := by omega
  rcases this with rfl | rfl | rfl | rfl | rfl | rfl <;> simp [book0, Bk.val]

end Go.Proofs.YtbgnajcmhmpjlacGreat

namespace Go.Proofs.YtbgnajcmhmpjlacGreat
open Go.RowKit

theorem Inv.less {w0 : Nat → Int} {T : Twn} {M' : List Ml} (h : Inv w0 T) (hm : ∀ m ∈ M', MailOk T.B T.P m) (hl : M'.length ≤ 40) : Inv w0 { T with M := M' } :=
  ⟨h.pens, h.apart, h.len, h.fit, h.st, h.nd, h.ord, h.ynd, h.hold, h.ovd, h.yes, h.done, h.ovs, hm, hl, h.vals⟩
theorem wants_later {B B' : Bok} (hL : Later B B') {n : Int} {D : Dl} (h : dealAt B n = some D) : wantsR B' n = wantsR B n := by
  obtain ⟨D', hD', hw, _⟩ := hL n D h
  rw [wantsR_some h, wantsR_some hD', hw]
theorem Inv.book {w0 : Nat → Int} {T : Twn} {B' : Bok} (h : Inv w0 T) (hL : Later T.B B') (len : B'.L.length ≤ 8) (fit : ∀ D ∈ B'.L, Fit D.w) (st : ∀ D ∈ B'.L, D.st = 0 ∨ D.st = 1 ∨ D.st = 2)
    (ord : ∀ n, n ∈ B'.ord ↔ ∃ D, dealAt B' n = some D ∧ D.st = 1) (ynd : ∀ D ∈ B'.L, D.yes.Nodup)
    (yes : ∀ n D, dealAt B' n = some D → ∀ i ∈ D.yes, ∃ (k : Nat) (c d : Int), i = (k : Int) ∧ D.w[k]? = some (c, d) ∧ (D.st = 0 → (n, c, d) ∈ (T.P (shp c).toNat).A.hs))
    (done : ∀ n D, dealAt B' n = some D → D.st = 1 → ∀ c d, (c, d) ∈ D.w → (n, c, d) ∈ (T.P (shp c).toNat).A.hs ∨ over (T.P (shp c).toNat).A.es n = some true)
    (ovs : ∀ n D, dealAt B' n = some D → ∀ s ∈ D.ov, 0 ≤ s ∧ s < 3 ∧ (over (T.P s.toNat).A.es n).isSome = true)
    (hord : B'.ord = T.B.ord ∨ ∃ n0 D0, B'.ord = T.B.ord ++ [n0] ∧ dealAt T.B n0 = some D0 ∧ D0.st = 0) : Inv w0 { T with B := B' } := by
  have hnone : ∀ n0 D0, dealAt T.B n0 = some D0 → D0.st = 0 → ∀ s : Nat, s < 3 → over (T.P s).A.es n0 = none := by
    intro n0 D0 h1 h2 s hs
    cases ho : over (T.P s).A.es n0 with
    | none => rfl
    | some b =>
      obtain ⟨D, hD, h3, _⟩ := h.ovd s hs n0 b ho
      rw [h1] at hD
      obtain rfl := Option.some.inj hD
      exact absurd h2 h3
  refine ⟨h.pens, h.apart, len, fit, st, ?_, ord, ynd, ?_, ?_, yes, done, ovs, fun m hm => (h.mail m hm).later hL (fun s => Keeps.refl _), h.mlen, ?_⟩
  · rcases hord with e | ⟨n0, D0, e, h1, h2⟩
    · show B'.ord.Nodup; rw [e]; exact h.nd
    · show B'.ord.Nodup
      rw [e]
      refine List.nodup_append.2 ⟨h.nd, by simp, ?_⟩
      intro a ha b hb
      rw [List.mem_singleton.1 hb]
      intro q
      subst q
      obtain ⟨D, hD, h3⟩ := (h.ord a).1 ha
      rw [h1] at hD
      obtain rfl := Option.some.inj hD
      omega
  · intro s hs n c d hm
    obtain ⟨D, hD, hw⟩ := h.hold s hs n c d hm
    obtain ⟨D', hD', e, _⟩ := hL n D hD
    exact ⟨D', hD', by rw [e]; exact hw⟩
  · intro s hs n b ho
    obtain ⟨D, hD, h1, h2⟩ := h.ovd s hs n b ho
    obtain ⟨D', hD', _, e⟩ := hL n D hD
    exact ⟨D', hD', by rw [e h1]; exact h1, by rw [e h1]; exact h2⟩
  · intro k hk
    show valT T k = w0 k + sumD (doneAt { T with B := B' } k) B'.ord
    have hc : sumD (doneAt { T with B := B' } k) T.B.ord = sumD (doneAt T k) T.B.ord := sumD_congr (fun n hn => by
      obtain ⟨D, hD, _⟩ := (h.ord n).1 hn
      show (if over (T.P (k / 2)).A.es n = some true then dOf (wantsR B' n) k else 0) = _
      rw [wants_later hL hD]
      rfl)
    rw [h.vals k hk]
    rcases hord with e | ⟨n0, D0, e, h1, h2⟩
    · rw [e, hc]
    · rw [e, sumD_append, hc]
      have : doneAt { T with B := B' } k n0 = 0 := by
        show (if over (T.P (k / 2)).A.es n0 = some true then dOf (wantsR B' n0) k else 0) = 0
        rw [hnone n0 D0 h1 h2 (k / 2) (by omega), if_neg (by simp)]
      simp only [sumD]
      omega
theorem put_mem {B : Bok} {n : Int} {D' E : Dl} (h : E ∈ (putD B n D').L) : E ∈ B.L ∨ E = D' := by
  unfold putD at h
  exact List.mem_or_eq_of_mem_set h
theorem put_all {B : Bok} {n : Int} {D D' : Dl} {R : Int → Dl → Prop} (hd : dealAt B n = some D) (h : ∀ j E, dealAt B j = some E → R j E) (hn : R n D') : ∀ j E, dealAt (putD B n D') j = some E → R j E := by
  intro j E hE
  rw [dealAt_put hd] at hE
  by_cases e : j = n
  · rw [if_pos e] at hE
    obtain rfl := Option.some.inj hE
    rw [e]; exact hn
  · rw [if_neg e] at hE
    exact h j E hE
theorem Inv.put {w0 : Nat → Int} {T : Twn} {n : Int} {D D' : Dl} (h : Inv w0 T) (hd : dealAt T.B n = some D) (hw : D'.w = D.w) (hs : D.st ≠ 0 → D'.st = D.st) (h2 : D.st = 0 → D'.st = 0 ∨ D'.st = 2) (hy : D'.yes.Nodup)
    (yes : ∀ i ∈ D'.yes, ∃ (k : Nat) (c d : Int), i = (k : Int) ∧ D'.w[k]? = some (c, d) ∧ (D'.st = 0 → (n, c, d) ∈ (T.P (shp c).toNat).A.hs))
    (ovs : ∀ s ∈ D'.ov, 0 ≤ s ∧ s < 3 ∧ (over (T.P s.toNat).A.es n).isSome = true) : Inv w0 { T with B := putD T.B n D' } := by
  have hm := dealAt_mem hd
  have hs1 : D'.st = 1 ↔ D.st = 1 := by
    by_cases e : D.st = 0
    · have := h2 e; omega
    · rw [hs e]
  refine h.book (later_put hd hw hs) (by rw [put_len]; exact h.len) ?_ ?_ ?_ ?_ (put_all hd h.yes yes) (put_all (R := fun j E => E.st = 1 → ∀ c d, (c, d) ∈ E.w → (j, c, d) ∈ (T.P (shp c).toNat).A.hs ∨ over (T.P (shp c).toNat).A.es j = some true) hd h.done ?_) (put_all (R := fun j E => ∀ s ∈ E.ov, 0 ≤ s ∧ s < 3 ∧ (over (T.P s.toNat).A.es j).isSome = true) hd h.ovs ovs) (.inl rfl)
  · intro E hE
    rcases put_mem hE with q | q
    · exact h.fit E q
    · rw [q, hw]; exact h.fit D hm
  · intro E hE
    rcases put_mem hE with q | q
    · exact h.st E q
    · rw [q]
      by_cases e : D.st = 0
      · have := h2 e; omega
      · rw [hs e]; exact h.st D hm
  · intro j
    rw [put_ord, h.ord j]
    constructor
    · rintro ⟨E, hE, h1⟩
      by_cases e : j = n
      · subst e
        rw [hd] at hE
        obtain rfl := Option.some.inj hE
        exact ⟨D', by rw [dealAt_put hd, if_pos rfl], hs1.2 h1⟩
      · exact ⟨E, by rw [dealAt_put hd, if_neg e]; exact hE, h1⟩
    · rintro ⟨E, hE, h1⟩
      rw [dealAt_put hd] at hE
      by_cases e : j = n
      · rw [if_pos e] at hE
        obtain rfl := Option.some.inj hE
        exact ⟨D, by rw [e]; exact hd, hs1.1 h1⟩
      · rw [if_neg e] at hE
        exact ⟨E, hE, h1⟩
  · intro E hE
    rcases put_mem hE with q | q
    · exact h.ynd E q
    · rw [q]; exact hy
  · intro h1 c d hcd
    rw [hw] at hcd
    exact h.done n D hd (hs1.1 h1) c d hcd
theorem Inv.quit {w0 : Nat → Int} {T : Twn} (h : Inv w0 T) (n : Int) : Inv w0 { T with B := (quitR T.B n).2 } := by
  unfold quitR
  cases hd : dealAt T.B n with
  | none => exact h
  | some D =>
    simp only
    by_cases h0 : D.st = 0
    · rw [if_pos h0]
      exact h.put hd rfl (fun q => absurd h0 q) (fun _ => .inr rfl) (h.ynd D (dealAt_mem hd)) (fun i hi => by
        obtain ⟨k, c, d, e1, e2, _⟩ := h.yes n D hd i hi
        exact ⟨k, c, d, e1, e2, fun q => absurd (show (2 : Int) = 0 from q) (by decide)⟩) (h.ovs n D hd)
    · rw [if_neg h0]; exact h
theorem dealAt_crashT (B : Bok) (n : Int) : dealAt (crashR B) n = (dealAt B n).map crashD := by
  unfold dealAt crashR
  split
  · rfl
  · simp
theorem Inv.crash {w0 : Nat → Int} {T : Twn} (h : Inv w0 T) : Inv w0 { T with B := crashR T.B } := by
  have key : ∀ {n D'}, dealAt (crashR T.B) n = some D' → ∃ D, dealAt T.B n = some D ∧ D' = crashD D := fun {n D'} q => by
    rw [dealAt_crashT] at q
    obtain ⟨D, h1, h2⟩ := Option.map_eq_some_iff.1 q
    exact ⟨D, h1, h2.symm⟩
  have hmem : ∀ {E}, E ∈ (crashR T.B).L → ∃ D ∈ T.B.L, E = crashD D := fun {E} q => by
    obtain ⟨D, h1, h2⟩ := List.mem_map.1 q
    exact ⟨D, h1, h2.symm⟩
  have hst : ∀ D : Dl, (crashD D).st = 1 ↔ D.st = 1 := fun D => by
    unfold crashD
    simp only
    split <;> omega
  refine h.book ?_ (by show (T.B.L.map crashD).length ≤ 8; rw [List.length_map]; exact h.len) ?_ ?_ ?_ ?_ ?_ ?_ ?_ (.inl rfl)
  · intro n D hD
    refine ⟨crashD D, by rw [dealAt_crashT, hD]; rfl, rfl, fun q => ?_⟩
    unfold crashD
    simp only
    rw [if_neg q]
  · intro E hE
    obtain ⟨D, h1, rfl⟩ := hmem hE
    exact h.fit D h1
  · intro E hE
    obtain ⟨D, h1, rfl⟩ := hmem hE
    have := h.st D h1
    unfold crashD
    simp only
    split <;> omega
  · intro n
    show n ∈ T.B.ord ↔ _
    rw [h.ord n]
    constructor
    · rintro ⟨D, h1, h2⟩
      exact ⟨crashD D, by rw [dealAt_crashT, h1]; rfl, (hst D).2 h2⟩
    · rintro ⟨E, h1, h2⟩
      obtain ⟨D, h3, rfl⟩ := key h1
      exact ⟨D, h3, (hst D).1 h2⟩
  · intro E hE
    obtain ⟨D, h1, rfl⟩ := hmem hE
    exact List.nodup_nil
  · intro n E hE i hi
    obtain ⟨D, h1, rfl⟩ := key hE
    simp [crashD] at hi
  · intro n E hE h1 c d hcd
    obtain ⟨D, h2, rfl⟩ := key hE
    exact h.done n D h2 ((hst D).1 h1) c d hcd
  · intro n E hE s hs
    obtain ⟨D, h1, rfl⟩ := key hE
    simp [crashD] at hs
theorem dealAt_begin (B : Bok) (E : Dl) (n : Int) : dealAt { B with L := B.L ++ [E] } n = if n = (B.L.length : Int) then some E else dealAt B n := by
  unfold dealAt
  simp only
  by_cases e : n = (B.L.length : Int)
  · rw [if_pos e, if_neg (by omega), e]
    simp
  · rw [if_neg e]
    by_cases hn : n < 0
    · rw [if_pos hn, if_pos hn]
    · rw [if_neg hn, if_neg hn, List.getElem?_append]
      split
      · rfl
      · rename_i q
        rw [List.getElem?_eq_none (by simp; omega), List.getElem?_eq_none (by omega)]
theorem Inv.start {w0 : Nat → Int} {T : Twn} (h : Inv w0 T) (l : List (Int × Int)) : Inv w0 { T with B := (beginR T.B l).2.2 } := by
  unfold beginR
  by_cases hf : (chkW l).1 = 0
  · rw [if_pos hf]
    by_cases h8 : 8 ≤ T.B.L.length
    · rw [if_pos h8]; exact h
    · rw [if_neg h8]
      have hno : dealAt T.B (T.B.L.length : Int) = none := by rw [dealAt_nat]; exact List.getElem?_eq_none (Nat.le_refl _)
      have hne : ∀ n D, dealAt T.B n = some D → n ≠ (T.B.L.length : Int) := fun n D q e => by rw [e, hno] at q; cases q
      have hall : ∀ {R : Int → Dl → Prop}, (∀ n D, dealAt T.B n = some D → R n D) → R (T.B.L.length : Int) ⟨l, 0, [], []⟩ → ∀ n D, dealAt { T.B with L := T.B.L ++ [⟨l, 0, [], []⟩] } n = some D → R n D := fun {R} h1 h2 n D q => by
        rw [dealAt_begin] at q
        by_cases e : n = (T.B.L.length : Int)
        · rw [if_pos e] at q
          obtain rfl := Option.some.inj q
          rw [e]; exact h2
        · rw [if_neg e] at q
          exact h1 n D q
      have hmem : ∀ {E}, E ∈ T.B.L ++ [(⟨l, 0, [], []⟩ : Dl)] → E ∈ T.B.L ∨ E = ⟨l, 0, [], []⟩ := fun {E} q => by
        rcases List.mem_append.1 q with q | q
        · exact .inl q
        · exact .inr (List.mem_singleton.1 q)
      refine h.book ?_ (by simp; omega) ?_ ?_ ?_ ?_ (hall h.yes (fun i hi => by simp at hi)) (hall (R := fun j E => E.st = 1 → ∀ c d, (c, d) ∈ E.w → (j, c, d) ∈ (T.P (shp c).toNat).A.hs ∨ over (T.P (shp c).toNat).A.es j = some true) h.done (fun q => absurd (show (0 : Int) = 1 from q) (by decide))) (hall (R := fun j E => ∀ s ∈ E.ov, 0 ≤ s ∧ s < 3 ∧ (over (T.P s.toNat).A.es j).isSome = true) h.ovs (fun s hs => by simp at hs)) (.inl rfl)
      · intro n D hD
        exact ⟨D, by rw [dealAt_begin, if_neg (hne n D hD)]; exact hD, rfl, fun _ => rfl⟩
      · intro E hE
        rcases hmem hE with q | q
        · exact h.fit E q
        · rw [q]; exact fit_iff.1 hf
      · intro E hE
        rcases hmem hE with q | q
        · exact h.st E q
        · rw [q]; exact .inl rfl
      · intro n
        show n ∈ T.B.ord ↔ _
        rw [h.ord n]
        constructor
        · rintro ⟨D, h1, h2⟩
          exact ⟨D, by rw [dealAt_begin, if_neg (hne n D h1)]; exact h1, h2⟩
        · rintro ⟨D, h1, h2⟩
          rw [dealAt_begin] at h1
          by_cases e : n = (T.B.L.length : Int)
          · rw [if_pos e] at h1
            obtain rfl := Option.some.inj h1
            exact absurd (show (0 : Int) = 1 from h2) (by decide)
          · rw [if_neg e] at h1
            exact ⟨D, h1, h2⟩
      · intro E hE
        rcases hmem hE with q | q
        · exact h.ynd E q
        · rw [q]; exact List.nodup_nil
  · rw [if_neg hf]; exact h

end Go.Proofs.YtbgnajcmhmpjlacGreat

namespace Go.Proofs.YtbgnajcmhmpjlacGreat
open Go.RowKit

theorem Inv.decide {w0 : Nat → Int} {T : Twn} {n : Int} {D : Dl} {ys : List Int} (h : Inv w0 T) (hd : dealAt T.B n = some D) (h0 : D.st = 0) (hy : ys.Nodup) (hl : ys.length = D.w.length)
    (yes : ∀ i ∈ ys, ∃ (k : Nat) (c d : Int), i = (k : Int) ∧ D.w[k]? = some (c, d) ∧ (n, c, d) ∈ (T.P (shp c).toNat).A.hs) :
    Inv w0 { T with B := { putD T.B n { D with yes := ys, st := 1 } with ord := T.B.ord ++ [n] } } ∧ ∀ c d, (c, d) ∈ D.w → (n, c, d) ∈ (T.P (shp c).toNat).A.hs := by
  have hall : ∀ c d, (c, d) ∈ D.w → (n, c, d) ∈ (T.P (shp c).toNat).A.hs := by
    intro c d hm
    obtain ⟨i, hi, e⟩ := List.getElem_of_mem hm
    have hin := all_of_length hy (fun x hx => by
      obtain ⟨k, c', d', e1, e2, _⟩ := yes x hx
      have := (List.getElem?_eq_some_iff.1 e2).1
      omega) hl i hi
    obtain ⟨k, c', d', e1, e2, e3⟩ := yes _ hin
    obtain rfl : i = k := by omega
    rw [List.getElem?_eq_getElem hi, e] at e2
    have := Option.some.inj e2
    simp only [Prod.mk.injEq] at this
    rw [this.1, this.2]; exact e3
  refine ⟨?_, hall⟩
  have hm := dealAt_mem hd
  have hda : ∀ j, dealAt { putD T.B n { D with yes := ys, st := 1 } with ord := T.B.ord ++ [n] } j = dealAt (putD T.B n { D with yes := ys, st := 1 }) j := fun j => rfl
  have hput : ∀ {R : Int → Dl → Prop}, (∀ j E, dealAt T.B j = some E → R j E) → R n { D with yes := ys, st := 1 } → ∀ j E, dealAt { putD T.B n { D with yes := ys, st := 1 } with ord := T.B.ord ++ [n] } j = some E → R j E := fun {R} q1 q2 => put_all hd q1 q2
  refine h.book ?_ (by show (putD T.B n _).L.length ≤ 8; rw [put_len]; exact h.len) ?_ ?_ ?_ ?_ (hput h.yes (fun i hi => ?_)) (hput (R := fun j E => E.st = 1 → ∀ c d, (c, d) ∈ E.w → (j, c, d) ∈ (T.P (shp c).toNat).A.hs ∨ over (T.P (shp c).toNat).A.es j = some true) h.done (fun _ c d hcd => .inl (hall c d hcd))) (hput (R := fun j E => ∀ s ∈ E.ov, 0 ≤ s ∧ s < 3 ∧ (over (T.P s.toNat).A.es j).isSome = true) h.ovs (h.ovs n D hd)) (.inr ⟨n, D, rfl, hd, h0⟩)
  · exact later_put hd rfl (fun q => absurd h0 q)
  · intro E hE
    rcases put_mem hE with q | q
    · exact h.fit E q
    · rw [q]; exact h.fit D hm
  · intro E hE
    rcases put_mem hE with q | q
    · exact h.st E q
    · rw [q]; exact .inr (.inl rfl)
  · intro j
    show j ∈ T.B.ord ++ [n] ↔ _
    rw [List.mem_append, List.mem_singleton, h.ord j]
    constructor
    · rintro (⟨E, hE, h1⟩ | e)
      · have : j ≠ n := fun e => by
          rw [e, hd] at hE
          obtain rfl := Option.some.inj hE
          omega
        exact ⟨E, by rw [hda, dealAt_put hd, if_neg this]; exact hE, h1⟩
      · exact ⟨{ D with yes := ys, st := 1 }, by rw [hda, dealAt_put hd, if_pos e], rfl⟩
    · rintro ⟨E, hE, h1⟩
      rw [hda, dealAt_put hd] at hE
      by_cases e : j = n
      · exact .inr e
      · rw [if_neg e] at hE
        exact .inl ⟨E, hE, h1⟩
  · intro E hE
    rcases put_mem hE with q | q
    · exact h.ynd E q
    · rw [q]; exact hy
  · obtain ⟨k, c, d, e1, e2, _⟩ := yes i hi
    exact ⟨k, c, d, e1, e2, fun q => absurd (show (1 : Int) = 0 from q) (by decide)⟩
theorem Inv.open_none {w0 : Nat → Int} {T : Twn} (h : Inv w0 T) {n : Int} {D : Dl} (hd : dealAt T.B n = some D) (h0 : D.st = 0) {s : Nat} (hs : s < 3) : over (T.P s).A.es n = none := by
  cases ho : over (T.P s).A.es n with
  | none => rfl
  | some b =>
    obtain ⟨D', hD, h3, _⟩ := h.ovd s hs n b ho
    rw [hd] at hD
    obtain rfl := Option.some.inj hD
    exact absurd h0 h3
theorem Inv.hear {w0 : Nat → Int} {T : Twn} (h : Inv w0 T) {m : Ml} (hm : MailOk T.B T.P m) : Inv w0 { T with B := hearR T.B m } := by
  rcases hearR_cases T.B m with e | ⟨D, i, hd, h0, hk, hs, hw, hc⟩ | ⟨D, hd, h0, hk, hs, ho, e⟩
  · rw [e]; exact h
  · have hmem : (m.c, m.d) ∈ D.w := List.mem_of_getElem? hw
    obtain ⟨_, _, s0, s3, _⟩ := (h.fit D (dealAt_mem hd)).shop hmem
    have hheld : m.yes = true → (m.deal, m.c, m.d) ∈ (T.P (shp m.c).toNat).A.hs := by
      intro hy
      obtain ⟨q0, q3, D', hD', hcs⟩ := hm
      rcases hcs with ⟨a, _⟩ | ⟨_, _, q, hq⟩ | ⟨a, _⟩ | ⟨a, _⟩
      · omega
      · rcases hq hy with r | r
        · rw [hs]; exact r
        · rw [h.open_none hd h0 (by omega)] at r; cases r
      · omega
      · omega
    rcases hc with ⟨_, e⟩ | ⟨hy, _, e⟩ | ⟨hy, hl, e⟩
    · rw [e]
      exact h.put hd rfl (fun q => absurd h0 q) (fun _ => .inr rfl) (h.ynd D (dealAt_mem hd)) (fun i hi => by
        obtain ⟨k, c, d, e1, e2, _⟩ := h.yes _ D hd i hi
        exact ⟨k, c, d, e1, e2, fun q => absurd (show (2 : Int) = 0 from q) (by decide)⟩) (h.ovs _ D hd)
    · rw [e]
      refine h.put hd rfl (fun q => absurd h0 q) (fun _ => .inl h0) (addI_nodup (h.ynd D (dealAt_mem hd)) _) (fun j hj => ?_) (h.ovs _ D hd)
      rcases addI_mem.1 hj with q | q
      · exact h.yes _ D hd j q
      · exact ⟨i, m.c, m.d, q, hw, fun _ => hheld hy⟩
    · rw [e]
      refine (h.decide hd h0 (addI_nodup (h.ynd D (dealAt_mem hd)) _) hl (fun j hj => ?_)).1
      rcases addI_mem.1 hj with q | q
      · obtain ⟨k, c, d, e1, e2, e3⟩ := h.yes _ D hd j q
        exact ⟨k, c, d, e1, e2, e3 h0⟩
      · exact ⟨i, m.c, m.d, q, hw, hheld hy⟩
  · rw [e]
    refine h.put hd rfl (fun _ => rfl) (fun q => absurd q h0) (h.ynd D (dealAt_mem hd)) (h.yes _ D hd) (fun s hsm => ?_)
    rcases List.mem_append.1 hsm with q | q
    · exact h.ovs _ D hd s q
    · rw [List.mem_singleton.1 q]
      obtain ⟨q0, q3, D', hD', hcs⟩ := hm
      rcases hcs with ⟨a, _⟩ | ⟨a, _⟩ | ⟨a, _⟩ | ⟨_, _, _, r⟩
      · omega
      · omega
      · omega
      · exact ⟨q0, q3, r⟩

theorem updP_same (P : Nat → Kb) (s : Nat) (K : Kb) : updP P s K s = K := by unfold updP; rw [if_pos rfl]
theorem updP_other (P : Nat → Kb) (s : Nat) (K : Kb) {j : Nat} (h : j ≠ s) : updP P s K j = P j := by unfold updP; rw [if_neg h]
theorem Inv.pen {w0 : Nat → Int} {T : Twn} {s : Nat} {K' : Kb} (h : Inv w0 T) (good : GoodK (book0 (s : Int) w0) K') (apart : Apart K'.A.hs) (keeps : Keeps (T.P s) K')
    (hold : ∀ n c d, (n, c, d) ∈ K'.A.hs → ∃ D, dealAt T.B n = some D ∧ (c, d) ∈ D.w) (ovd : ∀ n b, over K'.A.es n = some b → ∃ D, dealAt T.B n = some D ∧ D.st ≠ 0 ∧ b = (D.st == 1))
    (vals : ∀ k : Nat, k < 6 → k / 2 = s → K'.A.val (k % 2) = w0 k + sumD (fun n => if over K'.A.es n = some true then dOf (wantsR T.B n) k else 0) T.B.ord) : Inv w0 { T with P := updP T.P s K' } := by
  have hk : ∀ j, Keeps (T.P j) (updP T.P s K' j) := fun j => by
    by_cases e : j = s
    · rw [e, updP_same]; exact keeps
    · rw [updP_other _ _ _ e]; exact Keeps.refl _
  have hov : ∀ j : Nat, j < 3 → ∀ n b, over (updP T.P s K' j).A.es n = some b → ∃ D, dealAt T.B n = some D ∧ D.st ≠ 0 ∧ b = (D.st == 1) := fun j hj n b q => by
    by_cases e : j = s
    · rw [e, updP_same] at q; exact ovd n b q
    · rw [updP_other _ _ _ e] at q; exact h.ovd j hj n b q
  refine ⟨?_, ?_, h.len, h.fit, h.st, h.nd, h.ord, h.ynd, ?_, hov, ?_, ?_, ?_, fun m hm => (h.mail m hm).later (Later.refl _) hk, h.mlen, ?_⟩
  · intro j hj
    show GoodK _ (updP T.P s K' j)
    by_cases e : j = s
    · rw [e, updP_same]; exact good
    · rw [updP_other _ _ _ e]; exact h.pens j hj
  · intro j hj
    show Apart (updP T.P s K' j).A.hs
    by_cases e : j = s
    · rw [e, updP_same]; exact apart
    · rw [updP_other _ _ _ e]; exact h.apart j hj
  · intro j hj n c d hm
    have hm' : (n, c, d) ∈ (updP T.P s K' j).A.hs := hm
    by_cases e : j = s
    · rw [e, updP_same] at hm'; exact hold n c d hm'
    · rw [updP_other _ _ _ e] at hm'; exact h.hold j hj n c d hm'
  · intro n D hd i hi
    obtain ⟨k, c, d, e1, e2, e3⟩ := h.yes n D hd i hi
    refine ⟨k, c, d, e1, e2, fun h0 => ?_⟩
    obtain ⟨_, _, s0, s3, _⟩ := (h.fit D (dealAt_mem hd)).shop (List.mem_of_getElem? e2)
    rcases (hk (shp c).toNat).1 n c d (e3 h0) with q | q
    · exact q
    · obtain ⟨b, hb⟩ := Option.isSome_iff_exists.1 q
      obtain ⟨D', hD', q1, _⟩ := hov (shp c).toNat (by omega) n b hb
      have hD2 : dealAt T.B n = some D := hd
      rw [hD2] at hD'
      obtain rfl := Option.some.inj hD'
      exact absurd h0 q1
  · intro n D hd h1 c d hcd
    obtain ⟨_, _, s0, s3, _⟩ := (h.fit D (dealAt_mem hd)).shop hcd
    rcases h.done n D hd h1 c d hcd with q | q
    · rcases (hk (shp c).toNat).1 n c d q with r | r
      · exact .inl r
      · right
        obtain ⟨b, hb⟩ := Option.isSome_iff_exists.1 r
        obtain ⟨D', hD', _, q2⟩ := hov (shp c).toNat (by omega) n b hb
        have hD2 : dealAt T.B n = some D := hd
        rw [hD2] at hD'
        obtain rfl := Option.some.inj hD'
        rw [h1] at q2
        show over (updP T.P s K' (shp c).toNat).A.es n = some true
        rw [hb, q2]; rfl
    · exact .inr ((hk _).2 n true q)
  · intro n D hd j hj
    obtain ⟨a, b, c⟩ := h.ovs n D hd j hj
    exact ⟨a, b, (hk _).some c⟩
  · intro k hk6
    show (updP T.P s K' (k / 2)).A.val (k % 2) = w0 k + sumD (fun n => if over (updP T.P s K' (k / 2)).A.es n = some true then dOf (wantsR T.B n) k else 0) T.B.ord
    by_cases e : k / 2 = s
    · rw [e, updP_same]
      exact vals k hk6 e
    · rw [updP_other _ _ _ e]
      exact h.vals k hk6

end Go.Proofs.YtbgnajcmhmpjlacGreat

namespace Go.Proofs.YtbgnajcmhmpjlacGreat
open Go.RowKit

theorem ask_book (K : Kb) (m : Ml) : (doR K (askS m)).2.A = K.A ∨ ((doR K (askS m)).2.A = more1 K.A m.deal m.c m.d ∧ K.A.hs.find? (same m.deal m.c) = none) := by
  rw [doR_book, tellR_hold (r := askS m) (by rfl) (by rfl)]
  rcases holdR_cases K.A (askS m).deal (askS m).c (askS m).d with ⟨_, e⟩ | ⟨_, k, _, _, ⟨y, _, e⟩ | ⟨_, _, e⟩ | ⟨hf, _, e⟩⟩
  · rw [e]; exact .inl rfl
  · rw [e]; exact .inl rfl
  · rw [e]; exact .inl rfl
  · rw [e]; exact .inr ⟨rfl, hf⟩
theorem fin_book (K : Kb) (m : Ml) : (doR K (endS m)).2.A = K.A ∨ ((doR K (endS m)).2.A = endA K.A m.deal m.yes ∧ over K.A.es m.deal = none) := by
  rw [doR_book, tellR_end (r := endS m) (by rfl) (by show (2 : Int) ≠ 1; decide)]
  rcases endR_cases K.A (endS m).deal (endS m).done with ⟨_, e⟩ | ⟨_, _, ⟨b, _, e⟩ | ⟨hn, e⟩⟩
  · rw [e]; exact .inl rfl
  · rw [e]; exact .inl rfl
  · rw [e]; exact .inr ⟨rfl, hn⟩
theorem more1_val (A : Bk) (n c d : Int) (k : Nat) : (more1 A n c d).val k = A.val k := by unfold more1 Bk.val; cases k <;> rfl
theorem Inv.ask {w0 : Nat → Int} {T : Twn} (h : Inv w0 T) {m : Ml} (hm : MailOk T.B T.P m) (hk : m.kind = 1) : Inv w0 { T with P := updP T.P m.shop.toNat (doR (T.P m.shop.toNat) (askS m)).2 } := by
  obtain ⟨s0, s3, D, hD, hc⟩ := hm
  have hw : (m.c, m.d) ∈ D.w := by
    rcases hc with ⟨_, a, _⟩ | ⟨a, _⟩ | ⟨a, _⟩ | ⟨a, _⟩
    · exact a
    · omega
    · omega
    · omega
  have hs : m.shop.toNat < 3 := by omega
  have hgk := goodK_do (h.pens _ hs) (askS m)
  have hap := apart_tell (h.apart _ hs) (askS m)
  rw [← doR_book] at hap
  rcases ask_book (T.P m.shop.toNat) m with e | ⟨e, _⟩
  · refine h.pen hgk hap ⟨fun n c d q => .inl (by rw [e]; exact q), fun n b q => by rw [e]; exact q⟩ (fun n c d q => h.hold _ hs n c d (by rw [e] at q; exact q)) (fun n b q => h.ovd _ hs n b (by rw [e] at q; exact q)) (fun k hk6 e2 => ?_)
    rw [e, ← e2]
    exact h.vals k hk6
  · refine h.pen hgk hap ⟨fun n c d q => .inl (by rw [e]; exact List.mem_append_left _ q), fun n b q => by rw [e]; exact q⟩ (fun n c d q => ?_) (fun n b q => h.ovd _ hs n b (by rw [e] at q; exact q)) (fun k hk6 e2 => ?_)
    · rw [e] at q
      rcases List.mem_append.1 q with q | q
      · exact h.hold _ hs n c d q
      · have := List.mem_singleton.1 q
        simp only [Prod.mk.injEq] at this
        obtain ⟨rfl, rfl, rfl⟩ := this
        exact ⟨D, hD, hw⟩
    · rw [e, more1_val, ← e2]
      exact h.vals k hk6
theorem gain_false (n : Int) (hs : List H3) (c : Int) : gain n false hs c = 0 := by
  induction hs with
  | nil => rfl
  | cons x r ih =>
    simp only [gain]
    rw [ih]
    simp [gainOf]
theorem endA_val (A : Bk) (n : Int) (b : Bool) {k : Nat} (hk : k < 2) : (endA A n b).val k = A.val k + gain n b A.hs (A.no * 2 + k) := by
  have : k = 0 ∨ k = 1 := by omega
  rcases this with rfl | rfl
  · show A.v0 + gain n b A.hs (A.no * 2) = A.v0 + gain n b A.hs (A.no * 2 + ((0 : Nat) : Int))
    simp
  · rfl
theorem over_snoc {es : List (Int × Bool)} {n j : Int} {b : Bool} (hn : over es n = none) : over (es ++ [(n, b)]) j = if j = n then some b else over es j := by
  rw [over_append]
  by_cases e : j = n
  · subst e
    rw [hn, if_pos rfl]
    simp [over]
  · rw [if_neg e]
    cases over es j with
    | some b' => rfl
    | none => simp [over, Ne.symm e]
theorem sum_one {f g : Int → Int} {n : Int} {x : Int} {l : List Int} (hn : l.Nodup) (hm : n ∈ l) (he : ∀ j ∈ l, j ≠ n → g j = f j) (h1 : g n = f n + x) : sumD g l = sumD f l + x := by
  induction l with
  | nil => simp at hm
  | cons j r ih =>
    obtain ⟨q1, q2⟩ := List.nodup_cons.1 hn
    simp only [sumD]
    by_cases e : j = n
    · subst e
      rw [h1, sumD_congr (f := g) (g := f) (fun k hk => he k (by simp [hk]) (fun e => q1 (e ▸ hk)))]
      omega
    · have hm' : n ∈ r := by
        rcases List.mem_cons.1 hm with q | q
        · exact absurd q.symm e
        · exact q
      rw [he j (by simp) e, ih q2 hm' (fun k hk => he k (by simp [hk]))]
      omega
theorem Inv.fin {w0 : Nat → Int} {T : Twn} (h : Inv w0 T) {m : Ml} (hm : MailOk T.B T.P m) (hk : m.kind = 3) : Inv w0 { T with P := updP T.P m.shop.toNat (doR (T.P m.shop.toNat) (endS m)).2 } := by
  obtain ⟨s0, s3, D, hD, hc⟩ := hm
  obtain ⟨h0, hy⟩ : D.st ≠ 0 ∧ m.yes = (D.st == 1) := by
    rcases hc with ⟨a, _⟩ | ⟨a, _⟩ | ⟨_, a, b, _⟩ | ⟨a, _⟩
    · omega
    · omega
    · exact ⟨a, b⟩
    · omega
  have hs : m.shop.toNat < 3 := by omega
  have hgk := goodK_do (h.pens _ hs) (endS m)
  have hap := apart_tell (h.apart _ hs) (endS m)
  rw [← doR_book] at hap
  rcases fin_book (T.P m.shop.toNat) m with e | ⟨e, hn⟩
  · refine h.pen hgk hap ⟨fun n c d q => .inl (by rw [e]; exact q), fun n b q => by rw [e]; exact q⟩ (fun n c d q => h.hold _ hs n c d (by rw [e] at q; exact q)) (fun n b q => h.ovd _ hs n b (by rw [e] at q; exact q)) (fun k hk6 e2 => ?_)
    rw [e, ← e2]
    exact h.vals k hk6
  · have hes : ∀ j, over (doR (T.P m.shop.toNat) (endS m)).2.A.es j = if j = m.deal then some m.yes else over (T.P m.shop.toNat).A.es j := fun j => by
      rw [e]; exact over_snoc hn
    have hhs : (doR (T.P m.shop.toNat) (endS m)).2.A.hs = (T.P m.shop.toNat).A.hs.filter (fun x => x.1 != m.deal) := by rw [e]; rfl
    refine h.pen hgk hap ⟨fun n c d q => ?_, fun n b q => ?_⟩ (fun n c d q => ?_) (fun n b q => ?_) (fun k hk6 e2 => ?_)
    · by_cases en : n = m.deal
      · right; rw [hes, if_pos en]; rfl
      · left; rw [hhs]; exact List.mem_filter.2 ⟨q, by simpa using en⟩
    · rw [hes, if_neg (fun en => by rw [en, hn] at q; cases q)]; exact q
    · rw [hhs] at q
      exact h.hold _ hs n c d (List.mem_filter.1 q).1
    · rw [hes] at q
      by_cases en : n = m.deal
      · rw [if_pos en] at q
        exact ⟨D, by rw [en]; exact hD, h0, by rw [← Option.some.inj q, hy]⟩
      · rw [if_neg en] at q
        exact h.ovd _ hs n b q
    · have hno : (T.P m.shop.toNat).A.no = (m.shop.toNat : Int) := (h.pens _ hs).no
      have hkc : (T.P m.shop.toNat).A.no * 2 + ((k % 2 : Nat) : Int) = (k : Int) := by rw [hno]; omega
      rw [e, endA_val _ _ _ (by omega), hkc]
      have hv := h.vals k hk6
      unfold valT at hv
      rw [e2] at hv
      rw [hv]
      have hsum : sumD (doneAt T k) T.B.ord = sumD (fun n => if over (T.P m.shop.toNat).A.es n = some true then dOf (wantsR T.B n) k else 0) T.B.ord := by
        unfold doneAt
        rw [e2]
      rw [hsum, ← e]
      by_cases h1 : D.st = 1
      · have hyt : m.yes = true := by rw [hy, h1]; rfl
        have hin : m.deal ∈ T.B.ord := (h.ord _).2 ⟨D, hD, h1⟩
        have hfit := h.fit D (dealAt_mem hD)
        have hg : gain m.deal m.yes (T.P m.shop.toNat).A.hs (k : Int) = dOf D.w k := by
          rw [hyt]
          refine gain_wants (h.apart _ hs) hfit.apart (fun d hd => ?_) (fun d hd => ?_)
          · have hsh : (shp (k : Int)).toNat = m.shop.toNat := by
              obtain ⟨_, _, _, _, q⟩ := hfit.shop hd
              rw [q]; omega
            rcases h.done _ D hD h1 _ d hd with q | q
            · rw [hsh] at q; exact q
            · rw [hsh, hn] at q; cases q
          · obtain ⟨D', hD', q⟩ := h.hold _ hs _ _ _ hd
            rw [hD] at hD'
            obtain rfl := Option.some.inj hD'
            exact q
        have hA : sumD (fun n => if over (doR (T.P m.shop.toNat) (endS m)).2.A.es n = some true then dOf (wantsR T.B n) k else 0) T.B.ord = sumD (fun n => if over (T.P m.shop.toNat).A.es n = some true then dOf (wantsR T.B n) k else 0) T.B.ord + dOf D.w k := by
          refine sum_one h.nd hin (fun j _ hj => ?_) ?_
          · rw [hes, if_neg hj]
          · rw [hes, if_pos rfl, hn, hyt, wantsR_some hD]
            simp
        rw [hg, hA]
        omega
      · have hyf : m.yes = false := by rw [hy]; simpa using h1
        have hnin : ∀ j ∈ T.B.ord, j ≠ m.deal := fun j hj ej => by
          obtain ⟨D', hD', q⟩ := (h.ord j).1 hj
          rw [ej, hD] at hD'
          obtain rfl := Option.some.inj hD'
          exact h1 q
        have hA : sumD (fun n => if over (doR (T.P m.shop.toNat) (endS m)).2.A.es n = some true then dOf (wantsR T.B n) k else 0) T.B.ord = sumD (fun n => if over (T.P m.shop.toNat).A.es n = some true then dOf (wantsR T.B n) k else 0) T.B.ord := sumD_congr (fun j hj => by rw [hes, if_neg (hnin j hj)])
        rw [hyf, gain_false, hA]
        omega

end Go.Proofs.YtbgnajcmhmpjlacGreat

namespace Go.Proofs.YtbgnajcmhmpjlacGreat
open Go.RowKit

def comeR (T : Twn) (x : Ml) : Twn :=
  if x.kind = 2 ∨ x.kind = 4 then { T with B := hearR T.B x }
  else if 0 ≤ x.shop ∧ x.shop < 3 then { T with P := updP T.P x.shop.toNat (ansR x.shop (T.P x.shop.toNat) x).2.2, M := if (ansR x.shop (T.P x.shop.toNat) x).2.1 = true then (sendR T.M (ansR x.shop (T.P x.shop.toNat) x).1).2 else T.M }
  else T
def delivR (T : Twn) (n : Int) : Int × Twn := if (takeR T.M n).2.1 = true then (0, comeR { T with M := (takeR T.M n).2.2 } (takeR T.M n).1) else (7, T)
def sendAll (l : List Ml) : List Ml → List Ml
  | [] => l
  | m :: r => sendAll (sendR l m).2 r
def tickR (T : Twn) : Twn := { T with M := sendAll T.M (dueR T.B) }
structure TSp where
  kind : Int
  n : Int
  w : List (Int × Int)
def townR (T : Twn) (x : TSp) : Int × Twn :=
  if x.kind = 1 then ((beginR T.B x.w).2.1, { T with B := (beginR T.B x.w).2.2 })
  else if x.kind = 2 then (0, tickR T)
  else if x.kind = 3 then delivR T x.n
  else if x.kind = 4 then (if (takeR T.M x.n).2.1 = true then 0 else 7, { T with M := (takeR T.M x.n).2.2 })
  else if x.kind = 5 then (if T.M.length = 0 then 7 else if (dblR T.M x.n).1 = true then 0 else 6, { T with M := (dblR T.M x.n).2 })
  else if x.kind = 6 then ((quitR T.B x.n).1, { T with B := (quitR T.B x.n).2 })
  else if x.kind = 7 then (if x.n < 0 then 1 else if 3 ≤ x.n then 1 else 0, T)
  else if x.kind = 8 then (0, { T with B := crashR T.B })
  else (10, T)

theorem send_ok {B : Bok} {P : Nat → Kb} {l : List Ml} {m : Ml} (h : ∀ x ∈ l, MailOk B P x) (hm : MailOk B P m) : ∀ x ∈ (sendR l m).2, MailOk B P x := by
  unfold sendR
  split
  · exact h
  · intro x hx
    rcases List.mem_append.1 hx with q | q
    · exact h x q
    · rw [List.mem_singleton.1 q]; exact hm
theorem all_ok {B : Bok} {P : Nat → Kb} {r : List Ml} : ∀ {l : List Ml}, (∀ x ∈ l, MailOk B P x) → (∀ x ∈ r, MailOk B P x) → ∀ x ∈ sendAll l r, MailOk B P x := by
  induction r with
  | nil => intro l h _; exact h
  | cons m r ih => intro l h1 h2; exact ih (send_ok h1 (h2 m (by simp))) (fun x hx => h2 x (by simp [hx]))
theorem all_len {r : List Ml} : ∀ {l : List Ml}, l.length ≤ 40 → (sendAll l r).length ≤ 40 := by
  induction r with
  | nil => intro l h; exact h
  | cons m r ih => intro l h; exact ih (sendR_len l m h)
theorem take_ok {B : Bok} {P : Nat → Kb} {l : List Ml} (h : ∀ x ∈ l, MailOk B P x) (n : Int) : (∀ x ∈ (takeR l n).2.2, MailOk B P x) ∧ ((takeR l n).2.1 = true → MailOk B P (takeR l n).1) := by
  by_cases hne : l = []
  · subst hne
    exact ⟨by rw [takeR_nil]; simp, fun q => by rw [takeR_nil] at q; cases q⟩
  · obtain ⟨m, hm⟩ := rnd_some n hne
    rw [takeR_some hm]
    exact ⟨fun x hx => h x (List.mem_of_mem_eraseIdx hx), fun _ => h m (List.mem_of_getElem? hm)⟩
theorem dbl_ok {B : Bok} {P : Nat → Kb} {l : List Ml} (h : ∀ x ∈ l, MailOk B P x) (n : Int) : ∀ x ∈ (dblR l n).2, MailOk B P x := by
  by_cases hne : l = []
  · subst hne; rw [dblR_nil]; simp
  · obtain ⟨m, hm⟩ := rnd_some n hne
    rw [dblR_some hm]
    exact send_ok h (h m (List.mem_of_getElem? hm))
theorem Inv.due {w0 : Nat → Int} {T : Twn} (h : Inv w0 T) : ∀ m ∈ dueR T.B, MailOk T.B T.P m := by
  intro m hm
  obtain ⟨n, D, hD, hd⟩ := due_mem hm
  unfold dueD at hd
  split at hd
  · obtain ⟨c, d, h1, rfl⟩ := asks_mem hd
    obtain ⟨_, _, s0, s3, _⟩ := (h.fit D (dealAt_mem hD)).shop h1
    exact ⟨s0, s3, D, hD, .inl ⟨rfl, h1, rfl⟩⟩
  · rename_i h0
    unfold endsR at hd
    obtain ⟨s, hs, rfl⟩ := List.mem_map.1 hd
    obtain ⟨h1, _⟩ := List.mem_filter.1 hs
    obtain ⟨s0, s3⟩ := shopsL_range h1
    exact ⟨s0, s3, D, hD, .inr (.inr (.inl ⟨rfl, h0, rfl, h1⟩))⟩
theorem Inv.tick {w0 : Nat → Int} {T : Twn} (h : Inv w0 T) : Inv w0 (tickR T) := h.less (all_ok h.mail h.due) (all_len h.mlen)
theorem Inv.fin_code {w0 : Nat → Int} {T : Twn} (h : Inv w0 T) {m : Ml} (hm : MailOk T.B T.P m) (hk : m.kind = 3) : (doR (T.P m.shop.toNat) (endS m)).1 = 0 := by
  obtain ⟨s0, s3, D, hD, hc⟩ := hm
  obtain ⟨h0, hy⟩ : D.st ≠ 0 ∧ m.yes = (D.st == 1) := by
    rcases hc with ⟨a, _⟩ | ⟨a, _⟩ | ⟨_, a, b, _⟩ | ⟨a, _⟩
    · omega
    · omega
    · exact ⟨a, b⟩
    · omega
  obtain ⟨k, hk1, hk2, _⟩ := dealAt_some hD
  have hl := h.len
  rw [doR_fst, tellR_end (r := endS m) (by rfl) (by show (2 : Int) ≠ 1; decide)]
  rcases endR_cases (T.P m.shop.toNat).A (endS m).deal (endS m).done with ⟨q, _⟩ | ⟨_, _, ⟨b, hb, e⟩ | ⟨_, e⟩⟩
  · have q' : m.deal < 0 ∨ 8 ≤ m.deal := q
    omega
  · rw [e]
    obtain ⟨D', hD', _, q⟩ := h.ovd _ (by omega) _ b hb
    have hD2 : dealAt T.B (endS m).deal = some D := hD
    rw [hD2] at hD'
    obtain rfl := Option.some.inj hD'
    show (if b = m.yes then (0 : Int) else 9) = 0
    rw [q, hy, if_pos rfl]
  · rw [e]
theorem fin_over {K : Kb} {m : Ml} (hz : (doR K (endS m)).1 = 0) : over (doR K (endS m)).2.A.es m.deal = some m.yes := by
  rw [doR_fst] at hz
  rw [doR_book]
  have h := wrote_new hz
  exact h.2.2 (by show (2 : Int) ≠ 1; decide)
theorem Inv.come {w0 : Nat → Int} {T : Twn} (h : Inv w0 T) {x : Ml} (hx : MailOk T.B T.P x) : Inv w0 (comeR T x) := by
  have hx' := hx
  obtain ⟨s0, s3, D, hD, hc⟩ := hx'
  unfold comeR
  rcases hc with ⟨hk, hw, hsh⟩ | ⟨hk, _⟩ | ⟨hk, h0, hy, hsl⟩ | ⟨hk, _⟩
  · rw [if_neg (by omega), if_pos ⟨s0, s3⟩, ans_ask rfl hk]
    simp only [if_true]
    have h1 := h.ask hx hk
    refine h1.less (send_ok h1.mail ⟨s0, s3, D, hD, .inr (.inl ⟨rfl, hw, hsh, fun q => .inl ?_⟩)⟩) (sendR_len _ _ h.mlen)
    have hz : (doR (T.P x.shop.toNat) (askS x)).1 = 0 := by simpa using q
    show (x.deal, x.c, x.d) ∈ (updP T.P x.shop.toNat _ x.shop.toNat).A.hs
    rw [updP_same]
    exact (ask_yes hz).1
  · rw [if_pos (.inl hk)]
    exact h.hear hx
  · rw [if_neg (by omega), if_pos ⟨s0, s3⟩]
    have hz := h.fin_code hx hk
    rw [ans_end rfl hk hz]
    simp only [if_true]
    have h1 := h.fin hx hk
    refine h1.less (send_ok h1.mail ⟨s0, s3, D, hD, .inr (.inr (.inr ⟨rfl, h0, hsl, ?_⟩))⟩) (sendR_len _ _ h.mlen)
    show (over (updP T.P x.shop.toNat _ x.shop.toNat).A.es x.deal).isSome = true
    rw [updP_same, fin_over hz]
    rfl
  · rw [if_pos (.inr hk)]
    exact h.hear hx
theorem Inv.deliv {w0 : Nat → Int} {T : Twn} (h : Inv w0 T) (n : Int) : Inv w0 (delivR T n).2 := by
  unfold delivR
  obtain ⟨h1, h2⟩ := take_ok h.mail n
  by_cases ht : (takeR T.M n).2.1 = true
  · rw [if_pos ht]
    exact (h.less h1 (takeR_len T.M n h.mlen)).come (h2 ht)
  · rw [if_neg ht]; exact h
theorem Inv.step {w0 : Nat → Int} {T : Twn} (h : Inv w0 T) (x : TSp) : Inv w0 (townR T x).2 := by
  unfold townR
  split
  · exact h.start x.w
  · split
    · exact h.tick
    · split
      · exact h.deliv x.n
      · split
        · exact h.less (take_ok h.mail x.n).1 (takeR_len T.M x.n h.mlen)
        · split
          · exact h.less (dbl_ok h.mail x.n) (dblR_len T.M x.n h.mlen)
          · split
            · exact h.quit x.n
            · split
              · exact h
              · split
                · exact h.crash
                · exact h

end Go.Proofs.YtbgnajcmhmpjlacGreat

namespace Go.Proofs.YtbgnajcmhmpjlacGreat
open Go.RowKit

structure MktRaw (tD tW tI : TypeId) (OB OM : Nat → Prop) (OP : Nat → Nat → Prop) (q : Nat → Nat) (w : World) (p : Nat) (F : Nat → Int) (T : Twn) : Prop where
  book : BokIn tD tW tI OB w p 0 T.B
  bag : MailIn OM w p 11 T.M
  fr : ∀ k, k < 6 → w.cell? ⟨p, 2 + k, none⟩ = some (.int .i64 (F k))
  ptr : ∀ s, s < 3 → w.cell? ⟨p, 8 + s, none⟩ = some (.pointer (some ⟨q s, 0, none⟩))
  pen : ∀ s, s < 3 → PenIn (OP s) w (q s) (T.P s)
  two : ∀ k, OB k → OM k → k = p
  ap : ∀ s, s < 3 → ∀ k, OP s k → ¬ OB k ∧ ¬ OM k
  pp : ∀ s t, s < 3 → t < 3 → s ≠ t → ∀ k, OP s k → ¬ OP t k
structure MktIn (tD tW tI : TypeId) (O : Nat → Prop) (w : World) (p : Nat) (F : Nat → Int) (T : Twn) : Prop where
  own : ∀ k, O k → k < w.heap.size
  mine : O p
  raw : ∃ OB OM OP q, MktRaw tD tW tI OB OM OP q w p F T ∧ (∀ k, OB k → O k) ∧ (∀ k, OM k → O k) ∧ ∀ s, s < 3 → ∀ k, OP s k → O k
def MktTo (tD tW tI : TypeId) (O : Nat → Prop) (w w' : World) (p : Nat) (F : Nat → Int) (T' : Twn) : Prop := ∃ O', MktIn tD tW tI O' w' p F T' ∧ Save O w w' ∧ Moved O O' w

theorem MktIn.lt {tD tW tI : TypeId} {O : Nat → Prop} {w : World} {p : Nat} {F : Nat → Int} {T : Twn} (h : MktIn tD tW tI O w p F T) : p < w.heap.size := h.own p h.mine
theorem MktIn.save {tD tW tI : TypeId} {O : Nat → Prop} {w w1 : World} {p : Nat} {F : Nat → Int} {T : Twn} {O' : Nat → Prop} (h : MktIn tD tW tI O w p F T) (hb : Save O' w w1) (hn : ∀ k, O k → ¬ O' k) : MktIn tD tW tI O w1 p F T := by
  obtain ⟨OB, OM, OP, q, r, hB, hM, hP⟩ := h.raw
  have hl := h.lt
  have hc : ∀ j, w1.cell? ⟨p, j, none⟩ = w.cell? ⟨p, j, none⟩ := fun j => hb.cell (p := ⟨p, j, none⟩) hl (hn p h.mine)
  exact ⟨fun k hk => Nat.lt_of_lt_of_le (h.own k hk) hb.size, h.mine, OB, OM, OP, q, ⟨r.book.save hb (fun k hk => hn k (hB k hk)), r.bag.save hb (fun k hk => hn k (hM k hk)), fun k hk => (hc _).trans (r.fr k hk), fun s hs => (hc _).trans (r.ptr s hs), fun s hs => (r.pen s hs).save hb (fun k hk => hn k (hP s hs k hk)), r.two, r.ap, r.pp⟩, hB, hM, hP⟩
theorem MktIn.next {tD tW tI : TypeId} {O : Nat → Prop} {w w1 : World} {p : Nat} {F : Nat → Int} {T : Twn} (h : MktIn tD tW tI O w p F T) (hb : Below w.heap.size w w1) : MktIn tD tW tI O w1 p F T :=
  h.save (O' := fun _ => False) (.of_below hb) (fun _ _ q => q)
theorem MktTo.stay {tD tW tI : TypeId} {O : Nat → Prop} {w w' : World} {p : Nat} {F : Nat → Int} {T : Twn} (h : MktIn tD tW tI O w p F T) (hb : Below w.heap.size w w') : MktTo tD tW tI O w w' p F T := ⟨O, h.next hb, .of_below hb, .refl _ _⟩
theorem MktTo.behind {tD tW tI : TypeId} {O : Nat → Prop} {w w1 w' : World} {p : Nat} {F : Nat → Int} {T : Twn} (hb : Below w.heap.size w w1) (hs : MktTo tD tW tI O w1 w' p F T) : MktTo tD tW tI O w w' p F T := by
  obtain ⟨O', h1, h2, h3⟩ := hs
  exact ⟨O', h1, (Save.of_below hb).trans h2 (fun _ _ hj => hj), fun k hk => (h3 k hk).imp id (fun q => Nat.le_trans hb.size q)⟩
theorem MktTo.next {tD tW tI : TypeId} {O : Nat → Prop} {w w1 w' : World} {p : Nat} {F : Nat → Int} {T : Twn} (hs : MktTo tD tW tI O w w1 p F T) (hb : Below w1.heap.size w1 w') : MktTo tD tW tI O w w' p F T := by
  obtain ⟨O', h1, h2, h3⟩ := hs
  exact ⟨O', h1.next hb, h2.next hb, h3⟩
theorem MktTo.trans {tD tW tI : TypeId} {O : Nat → Prop} {w w1 w' : World} {p : Nat} {F : Nat → Int} {T : Twn} {T1 : Twn} (hs : MktTo tD tW tI O w w1 p F T1) (hk : ∀ O1, MktIn tD tW tI O1 w1 p F T1 → MktTo tD tW tI O1 w1 w' p F T) : MktTo tD tW tI O w w' p F T := by
  obtain ⟨O1, h1, h2, h3⟩ := hs
  obtain ⟨O2, k1, k2, k3⟩ := hk O1 h1
  refine ⟨O2, k1, h2.trans k2 (fun j hj hj1 => (h3 j hj1).elim id (fun q => by omega)), fun k hk => ?_⟩
  rcases k3 k hk with q | q
  · exact h3 k q
  · exact .inr (Nat.le_trans h2.size q)

theorem MktIn.book {tD tW tI : TypeId} {O : Nat → Prop} {w : World} {p : Nat} {F : Nat → Int} {T : Twn} (h : MktIn tD tW tI O w p F T) : ∃ OB, BokIn tD tW tI OB w p 0 T.B ∧ (∀ k, OB k → O k) ∧ ∀ w' B', BokTo tD tW tI OB w w' p 0 B' → MktTo tD tW tI O w w' p F { T with B := B' } := by
  obtain ⟨OB, OM, OP, q, r, hB, hM, hP⟩ := h.raw
  refine ⟨OB, r.book, hB, fun w' B' ⟨OB', b1, b2, b3, b4⟩ => ?_⟩
  have hl := h.lt
  have hp : OB p := r.book.mine
  refine ⟨fun k => O k ∨ OB' k, ⟨fun k hk => hk.elim (fun q => Nat.lt_of_lt_of_le (h.own k q) b2.size) (b1.own k), .inl h.mine, OB', OM, OP, q, ⟨b1, r.bag.beside b2 (fun k a b => r.two k b a) (b4 11 (by omega) (by omega)) b1.loose, fun k hk => (b4 _ (by omega) (by omega)).trans (r.fr k hk), fun s hs => (b4 _ (by omega) (by omega)).trans (r.ptr s hs), fun s hs => (r.pen s hs).save b2 (fun k hk => (r.ap s hs k hk).1), ?_, ?_, r.pp⟩, fun k hk => .inr hk, fun k hk => .inl (hM k hk), fun s hs k hk => .inl (hP s hs k hk)⟩, b2.mono (fun j _ hj => hB j hj), ?_⟩
  · intro k hk hm
    rcases b3 k hk with a | a
    · exact r.two k a hm
    · have := r.bag.own k hm; omega
  · intro s hs k hk
    refine ⟨fun hb => ?_, (r.ap s hs k hk).2⟩
    rcases b3 k hb with a | a
    · exact (r.ap s hs k hk).1 a
    · have := (r.pen s hs).own k hk; omega
  · intro k hk
    rcases hk with a | a
    · exact .inl a
    · exact (b3 k a).imp (hB k) id
theorem MktIn.bag {tD tW tI : TypeId} {O : Nat → Prop} {w : World} {p : Nat} {F : Nat → Int} {T : Twn} (h : MktIn tD tW tI O w p F T) : ∃ OM, MailIn OM w p 11 T.M ∧ (∀ k, OM k → O k) ∧ ∀ w' l', Sent OM w w' p 11 l' → MktTo tD tW tI O w w' p F { T with M := l' } := by
  obtain ⟨OB, OM, OP, q, r, hB, hM, hP⟩ := h.raw
  refine ⟨OM, r.bag, hM, fun w' l' ⟨OM', b1, b2, b3, b4⟩ => ?_⟩
  have hl := h.lt
  refine ⟨fun k => O k ∨ OM' k, ⟨fun k hk => hk.elim (fun q => Nat.lt_of_lt_of_le (h.own k q) b2.size) (b1.own k), .inl h.mine, OB, OM', OP, q, ⟨r.book.beside b2 (fun k a b => r.two k a b) (b4 0 (by omega)) (b4 1 (by omega)) b1.loose, b1, fun k hk => (b4 _ (by omega)).trans (r.fr k hk), fun s hs => (b4 _ (by omega)).trans (r.ptr s hs), fun s hs => (r.pen s hs).save b2 (fun k hk => (r.ap s hs k hk).2), ?_, ?_, r.pp⟩, fun k hk => .inl (hB k hk), fun k hk => .inr hk, fun s hs k hk => .inl (hP s hs k hk)⟩, b2.mono (fun j _ hj => hM j hj), ?_⟩
  · intro k hk hm
    rcases b3 k hm with a | a
    · exact r.two k hk a
    · have := r.book.own k hk; omega
  · intro s hs k hk
    refine ⟨(r.ap s hs k hk).1, fun hb => ?_⟩
    rcases b3 k hb with a | a
    · exact (r.ap s hs k hk).2 a
    · have := (r.pen s hs).own k hk; omega
  · intro k hk
    rcases hk with a | a
    · exact .inl a
    · exact (b3 k a).imp (hM k) id
theorem MktIn.pen {tD tW tI : TypeId} {O : Nat → Prop} {w : World} {p : Nat} {F : Nat → Int} {T : Twn} (h : MktIn tD tW tI O w p F T) {s : Nat} (hs : s < 3) : ∃ OP q, w.cell? ⟨p, 8 + s, none⟩ = some (.pointer (some ⟨q, 0, none⟩)) ∧ PenIn OP w q (T.P s) ∧ (∀ k, OP k → O k) ∧ ¬ OP p ∧ ∀ w' K', PenTo OP w w' q K' → MktTo tD tW tI O w w' p F { T with P := updP T.P s K' } := by
  obtain ⟨OB, OM, OP, q, r, hB, hM, hP⟩ := h.raw
  have hl := h.lt
  have hnp : ¬ OP s p := fun hh => (r.ap s hs p hh).1 r.book.mine
  refine ⟨OP s, q s, r.ptr s hs, r.pen s hs, hP s hs, hnp, fun w' K' ⟨O1, b1, b2, b3⟩ => ?_⟩
  have hc : ∀ j, w'.cell? ⟨p, j, none⟩ = w.cell? ⟨p, j, none⟩ := fun j => b2.cell (p := ⟨p, j, none⟩) hl hnp
  have off : ∀ k, O1 k → k < w.heap.size → OP s k := fun k a b => (b3 k a).elim id (fun q => by omega)
  refine ⟨fun k => O k ∨ O1 k, ⟨fun k hk => hk.elim (fun q => Nat.lt_of_lt_of_le (h.own k q) b2.size) (b1.own k), .inl h.mine, OB, OM, putQ OP s O1, q, ⟨r.book.save b2 (fun k a b => (r.ap s hs k b).1 a), r.bag.save b2 (fun k a b => (r.ap s hs k b).2 a), fun k hk => (hc _).trans (r.fr k hk), fun j hj => (hc _).trans (r.ptr j hj), ?_, r.two, ?_, ?_⟩, fun k hk => .inl (hB k hk), fun k hk => .inl (hM k hk), ?_⟩, b2.mono (fun j _ hj => hP s hs j hj), ?_⟩
  · intro j hj
    by_cases e : j = s
    · subst e
      show PenIn (putQ OP j O1 j) w' (q j) (updP T.P j K' j)
      rw [putQ_at, updP_same]
      exact b1
    · show PenIn (putQ OP s O1 j) w' (q j) (updP T.P s K' j)
      rw [putQ_off _ _ e, updP_other _ _ _ e]
      exact (r.pen j hj).save b2 (fun k a b => r.pp j s hj hs e k a b)
  · intro j hj k hk
    by_cases e : j = s
    · subst e
      rw [putQ_at] at hk
      exact ⟨fun a => (r.ap j hs k (off k hk (r.book.own k a))).1 a, fun a => (r.ap j hs k (off k hk (r.bag.own k a))).2 a⟩
    · rw [putQ_off _ _ e] at hk
      exact r.ap j hj k hk
  · intro i j hi hj hij k hk
    by_cases e : i = s
    · subst e
      rw [putQ_at] at hk
      rw [putQ_off _ _ (fun a => hij a.symm)]
      exact fun a => r.pp i j hi hj hij k (off k hk ((r.pen j hj).own k a)) a
    · rw [putQ_off _ _ e] at hk
      by_cases e' : j = s
      · subst e'
        rw [putQ_at]
        exact fun a => r.pp i j hi hj hij k hk (off k a ((r.pen i hi).own k hk))
      · rw [putQ_off _ _ e']
        exact r.pp i j hi hj hij k hk
  · intro j hj k hk
    by_cases e : j = s
    · subst e
      rw [putQ_at] at hk
      exact .inr hk
    · rw [putQ_off _ _ e] at hk
      exact .inl (hP j hj k hk)
  · intro k hk
    rcases hk with a | a
    · exact .inl a
    · exact (b3 k a).imp (hP s hs k) id

end Go.Proofs.YtbgnajcmhmpjlacGreat

namespace Go.Proofs.YtbgnajcmhmpjlacGreat
open Go.RowKit

theorem mkt_stands (tD tW tI : TypeId) (p : Nat) (F : Nat → Int) (T : Twn) : Stands (fun O w => MktIn tD tW tI O w p F T) := ⟨fun h => h.own, fun h hb hn => h.save hb hn⟩

theorem pen_again {O O2 : Nat → Prop} {w w1 : World} {s q2 : Nat} {K : Kb} (h : PenIn O w s K) (hb : Below w.heap.size w w1) (hB : BoothIn O2 w1 q2 K.A) (hn : ∀ k, O2 k → w.heap.size ≤ k) : PenTo O w (w1.setCell ⟨s, 0, none⟩ (.pointer (some ⟨q2, 0, none⟩))) s K := by
  obtain ⟨Os, q, rv, h1, _, _, _, h5, h6⟩ := (h.next hb).raw
  have hl := h.own s h.mine
  have hs : Save (fun k => k = s) w1 (w1.setCell ⟨s, 0, none⟩ (.pointer (some ⟨q2, 0, none⟩))) := (Save.refl (fun k => k = s) w1).setCell (p := ⟨s, 0, none⟩) (fun _ => rfl) _
  have n2 : ∀ k, k < w.heap.size → ¬ O2 k := fun k hk hk' => by have := hn k hk'; omega
  refine ⟨fun k => O k ∨ O2 k, ⟨fun k hk => ?_, .inl h.mine, O2, q2, rv, ⟨by simpa using h1.lt, cell_set_same h1.c0, (cell_set_off (by omega)).trans h1.c1, by simpa [go_sem] using h1.loose⟩, hB.save hs (fun k hk e => n2 k (by omega) hk), fun k hk => .inr hk, n2 s hl, own_save h5 hs (fun k hk e => by have := (h5.lt k hk).1; omega), fun k hk => ⟨.inl (h6 k hk).1, n2 k (h.own k (h6 k hk).1)⟩⟩, ((Save.of_below hb).trans hs (fun j _ e => by rw [e]; exact h.mine)), fun k hk => hk.imp id (hn k)⟩
  rcases hk with hk | hk
  · have := h.own k hk
    have hz := hb.size
    have hk' : k < w1.heap.size := by omega
    simpa using hk'
  · have := hB.own k hk
    simpa using this

theorem MktIn.vals {tD tW tI : TypeId} {O : Nat → Prop} {w : World} {p : Nat} {F : Nat → Int} {T : Twn} (h : MktIn tD tW tI O w p F T) {s : Nat} (hs : s < 3) : ∃ c q, w.cell? ⟨p, 8 + s, none⟩ = some (.pointer (some ⟨c, 0, none⟩)) ∧ w.cell? ⟨c, 0, none⟩ = some (.pointer (some ⟨q, 0, none⟩)) ∧ w.cell? ⟨q, 1, none⟩ = some (.int .i64 (valT T (s * 2))) ∧ w.cell? ⟨q, 2, none⟩ = some (.int .i64 (valT T (s * 2 + 1))) := by
  obtain ⟨_, _, _, c, r, _⟩ := h.raw
  obtain ⟨_, q, _, k1, k2, _⟩ := (r.pen s hs).raw
  obtain ⟨_, _, _, b, _⟩ := k2.raw
  refine ⟨c s, q, r.ptr s hs, k1.c0, ?_, ?_⟩
  · rw [b.c1]
    unfold valT
    rw [show s * 2 / 2 = s by omega, show s * 2 % 2 = 0 by omega]
    rfl
  · rw [b.c2]
    unfold valT
    rw [show (s * 2 + 1) / 2 = s by omega, show (s * 2 + 1) % 2 = 1 by omega]
    rfl
theorem MktIn.fr {tD tW tI : TypeId} {O : Nat → Prop} {w : World} {p : Nat} {F : Nat → Int} {T : Twn} (h : MktIn tD tW tI O w p F T) {k : Nat} (hk : k < 6) : w.cell? ⟨p, 2 + k, none⟩ = some (.int .i64 (F k)) := by
  obtain ⟨_, _, _, _, r, _⟩ := h.raw
  exact r.fr k hk

structure MktPre (Q : Nat → Nat → Prop) (q : Nat → Nat) (w : World) (n0 p : Nat) (F ws : Nat → Int) (k : Nat) : Prop where
  ge : n0 ≤ p
  lt : p < w.heap.size
  loose : ∀ j, w.frozen? ⟨p, j, none⟩ = false
  c0 : w.cell? ⟨p, 0, none⟩ = some (.slice none 0 0)
  c1 : w.cell? ⟨p, 1, none⟩ = some (.slice none 0 0)
  fr : ∀ j, j < 6 → w.cell? ⟨p, 2 + j, none⟩ = some (.int .i64 (F j))
  here : ∀ s, s < 3 → (w.cell? ⟨p, 8 + s, none⟩).isSome = true
  c11 : w.cell? ⟨p, 11, none⟩ = some (.slice none 0 0)
  ptr : ∀ s, s < k → w.cell? ⟨p, 8 + s, none⟩ = some (.pointer (some ⟨q s, 0, none⟩))
  pen : ∀ s, s < k → PenIn (Q s) w (q s) ⟨book0 (s : Int) ws, []⟩
  new : ∀ s, s < k → ∀ j, Q s j → n0 ≤ j ∧ j ≠ p
  ap : ∀ s t, s < k → t < k → s ≠ t → ∀ j, Q s j → ¬ Q t j
def MktNew (w : World) (n0 p : Nat) (F ws : Nat → Int) (k : Nat) : Prop := ∃ Q q, MktPre Q q w n0 p F ws k
theorem MktNew.next {w w1 : World} {n0 p : Nat} {F ws : Nat → Int} {k : Nat} (h : MktNew w n0 p F ws k) (hb : Below w.heap.size w w1) : MktNew w1 n0 p F ws k := by
  obtain ⟨Q, q, r⟩ := h
  have hc : ∀ j, w1.cell? ⟨p, j, none⟩ = w.cell? ⟨p, j, none⟩ := fun j => hb.cell (p := ⟨p, j, none⟩) r.lt
  exact ⟨Q, q, r.ge, Nat.lt_of_lt_of_le r.lt hb.size, fun j => ((Save.of_below (O := fun _ => False) hb).frozen (p := ⟨p, j, none⟩) r.lt (fun z => z)).trans (r.loose j), (hc _).trans r.c0, (hc _).trans r.c1, fun j hj => (hc _).trans (r.fr j hj), fun s hs => by rw [hc]; exact r.here s hs, (hc _).trans r.c11, fun s hs => (hc _).trans (r.ptr s hs), fun s hs => (r.pen s hs).next hb, r.new, r.ap⟩
theorem MktNew.pen {w w1 : World} {n0 p q1 : Nat} {F ws : Nat → Int} {k : Nat} {O1 : Nat → Prop} (h : MktNew w n0 p F ws k) (hk : k < 3) (hb : Below w.heap.size w w1) (h1 : PenIn O1 w1 q1 ⟨book0 (k : Int) ws, []⟩) (hn : ∀ j, O1 j → w.heap.size ≤ j) : MktNew (w1.setCell ⟨p, 8 + k, none⟩ (.pointer (some ⟨q1, 0, none⟩))) n0 p F ws (k + 1) := by
  have hold := h
  obtain ⟨Q0, q0, r0⟩ := h
  have lt0 : ∀ s, s < k → ∀ j, Q0 s j → j < w.heap.size := fun s hs => (r0.pen s hs).own
  have r : MktPre Q0 q0 w1 n0 p F ws k := by
    have hc : ∀ j, w1.cell? ⟨p, j, none⟩ = w.cell? ⟨p, j, none⟩ := fun j => hb.cell (p := ⟨p, j, none⟩) r0.lt
    exact ⟨r0.ge, Nat.lt_of_lt_of_le r0.lt hb.size, fun j => ((Save.of_below (O := fun _ => False) hb).frozen (p := ⟨p, j, none⟩) r0.lt (fun z => z)).trans (r0.loose j), (hc _).trans r0.c0, (hc _).trans r0.c1, fun j hj => (hc _).trans (r0.fr j hj), fun s hs => by rw [hc]; exact r0.here s hs, (hc _).trans r0.c11, fun s hs => (hc _).trans (r0.ptr s hs), fun s hs => (r0.pen s hs).next hb, r0.new, r0.ap⟩
  clear hold
  have hS : Save (fun j => j = p) w1 (w1.setCell ⟨p, 8 + k, none⟩ (.pointer (some ⟨q1, 0, none⟩))) := (Save.refl (fun j => j = p) w1).setCell (p := ⟨p, 8 + k, none⟩) (fun _ => rfl) _
  have np : ¬ O1 p := fun hp => by have := hn p hp; have := r0.lt; omega
  obtain ⟨v, hv⟩ := Option.isSome_iff_exists.1 (r.here k hk)
  refine ⟨putQ Q0 k O1, fun s => if s = k then q1 else q0 s, r.ge, by simpa using r.lt, by simpa [go_sem] using r.loose, (cell_set_off (by omega)).trans r.c0, (cell_set_off (by omega)).trans r.c1, fun j hj => (cell_set_off (by omega)).trans (r.fr j hj), fun s hs => ?_, (cell_set_off (by omega)).trans r.c11, fun s hs => ?_, fun s hs => ?_, fun s hs j hj => ?_, fun s t hs ht hst j hj => ?_⟩
  · by_cases e : s = k
    · subst e; rw [cell_set_same hv]; rfl
    · rw [cell_set_off (by omega)]; exact r.here s hs
  · by_cases e : s = k
    · subst e
      rw [if_pos rfl]
      exact cell_set_same hv
    · rw [if_neg e]
      exact (cell_set_off (by omega)).trans (r.ptr s (by omega))
  · by_cases e : s = k
    · subst e
      rw [putQ_at, if_pos rfl]
      exact h1.save hS (fun j hj e => np (e ▸ hj))
    · rw [putQ_off _ _ e, if_neg e]
      exact (r.pen s (by omega)).save hS (fun j hj e => (r.new s (by omega) j hj).2 e)
  · by_cases e : s = k
    · subst e
      rw [putQ_at] at hj
      have := hn j hj
      have := r0.lt
      have := r0.ge
      exact ⟨by omega, by omega⟩
    · rw [putQ_off _ _ e] at hj
      exact r.new s (by omega) j hj
  · by_cases e : s = k
    · subst e
      rw [putQ_at] at hj
      rw [putQ_off _ _ (fun a => hst a.symm)]
      intro a
      have := lt0 t (by omega) j a
      have := hn j hj
      omega
    · rw [putQ_off _ _ e] at hj
      by_cases e' : t = k
      · subst e'
        rw [putQ_at]
        intro a
        have := lt0 s (by omega) j hj
        have := hn j a
        omega
      · rw [putQ_off _ _ e']
        exact r.ap s t (by omega) (by omega) hst j hj
theorem MktNew.done {tD tW tI : TypeId} {w : World} {n0 p : Nat} {F ws : Nat → Int} (h : MktNew w n0 p F ws 3) : ∃ O, MktIn tD tW tI O w p F ⟨⟨[], []⟩, fun s => ⟨book0 (s : Int) ws, []⟩, []⟩ ∧ ∀ j, O j → n0 ≤ j := by
  obtain ⟨Q, q, r⟩ := h
  refine ⟨fun j => j = p ∨ ∃ s, s < 3 ∧ Q s j, ⟨fun j hj => ?_, .inl rfl, fun j => j = p, fun j => j = p, Q, q, ⟨⟨fun j hj => by rw [hj]; exact r.lt, rfl, r.loose, .slice none 0 0, .slice none 0 0, [], ⟨rfl, r.c0, r.c1, World.ownsRow_nil _ _ _ _, World.ownsRow_nil _ _ _ _, fun k D v hk => by simp at hk, ?_⟩, ?_⟩, ⟨fun j hj => by rw [hj]; exact r.lt, rfl, r.loose, .slice none 0 0, r.c11, World.ownsRow_nil _ _ _ _, fun k hk => by simp [Value.ownBlock] at hk⟩, r.fr, r.ptr, r.pen, fun j hj _ => hj, fun s hs j hj => ⟨(r.new s hs j hj).2, (r.new s hs j hj).2⟩, fun s t hs ht hst => r.ap s t hs ht hst⟩, fun j hj => .inl hj, fun j hj => .inl hj, fun s hs j hj => .inr ⟨s, hs, hj⟩⟩, fun j hj => ?_⟩
  · rcases hj with rfl | ⟨s, hs, hj⟩
    · exact r.lt
    · exact (r.pen s hs).own j hj
  · unfold ApartV
    simp [Value.ownBlock]
  · intro u hu k hk
    simp only [List.flatMap_nil, List.mem_cons, List.not_mem_nil, or_false, or_self] at hu
    rw [hu] at hk
    simp [Value.ownBlock] at hk
  · rcases hj with rfl | ⟨s, hs, hj⟩
    · exact r.ge
    · exact (r.new s hs j hj).1

end Go.Proofs.YtbgnajcmhmpjlacGreat
