/- The contract of broker's Begin. -/
import Derived.Test.YtndggiefgpdiiacRGet
import Derived.Deep.RegionLaw
import Derived.BigQuiet
namespace Go.Proofs.Ytndggiefgpdiiac
open Go.RowKit

theorem wants_cells {w : World} {b off : Nat} {l : List (Int × Int)} (h : WantsAt w (some ⟨b, off, none⟩) l) : ∀ j u, (flat l)[j]? = some u → w.cell? ((⟨b, off, none⟩ : Addr).add j) = some u := by
  intro j u hj
  have hl : j < l.length * 2 := by have := (List.getElem?_eq_some_iff.1 hj).1; rwa [flat_length] at this
  obtain ⟨⟨c, d⟩, hk⟩ : ∃ x, l[j / 2]? = some x := ⟨_, List.getElem?_eq_getElem (by omega)⟩
  obtain ⟨b', o', e, hlt, h0, h1⟩ := h _ c d hk
  obtain ⟨rfl, rfl⟩ : b = b' ∧ off = o' := by simpa using e
  obtain ⟨f0, f1⟩ := flat_at l _ c d hk
  have ha : (⟨b, off, none⟩ : Addr).add j = ⟨b, off + j, none⟩ := by unfold Addr.add; split <;> simp_all
  rw [ha]
  rcases Nat.mod_two_eq_zero_or_one j with e | e
  · have ej : j / 2 * 2 = j := by omega
    rw [ej] at f0 h0
    rw [f0] at hj
    rw [h0, ← hj]
  · have ej : j / 2 * 2 + 1 = j := by omega
    rw [ej] at f1
    rw [Nat.add_assoc, ej] at h1
    rw [f1] at hj
    rw [h1, ← hj]
theorem infoDeal : (Try.prog.info? 53).map (fun i => (i.zero, i.size, i.bytes)) = some (some (.agg #[.slice none 0 0, .int .i64 0, .bool false, .bool false, .bool false, .bool false, .bool false, .bool false, .bool false]), 9, 40) := by kernel_rfl
theorem deal_lies {W : World} {H : Nat} {a b c d e f g h i : Value} (h0 : W.cell? ⟨H, 0, none⟩ = some a) (h1 : W.cell? ⟨H, 1, none⟩ = some b) (h2 : W.cell? ⟨H, 2, none⟩ = some c) (h3 : W.cell? ⟨H, 3, none⟩ = some d) (h4 : W.cell? ⟨H, 4, none⟩ = some e) (h5 : W.cell? ⟨H, 5, none⟩ = some f) (h6 : W.cell? ⟨H, 6, none⟩ = some g) (h7 : W.cell? ⟨H, 7, none⟩ = some h) (h8 : W.cell? ⟨H, 8, none⟩ = some i) : ∀ j u, [a, b, c, d, e, f, g, h, i][j]? = some u → W.cell? ((⟨H, 0, none⟩ : Addr).add j) = some u := by
  intro j u hj
  match j, hj with
  | 0, hj => simp at hj; subst hj; simpa [Addr.add] using h0
  | 1, hj => simp at hj; subst hj; simpa [Addr.add] using h1
  | 2, hj => simp at hj; subst hj; simpa [Addr.add] using h2
  | 3, hj => simp at hj; subst hj; simpa [Addr.add] using h3
  | 4, hj => simp at hj; subst hj; simpa [Addr.add] using h4
  | 5, hj => simp at hj; subst hj; simpa [Addr.add] using h5
  | 6, hj => simp at hj; subst hj; simpa [Addr.add] using h6
  | 7, hj => simp at hj; subst hj; simpa [Addr.add] using h7
  | 8, hj => simp at hj; subst hj; simpa [Addr.add] using h8
  | j + 9, hj => simp at hj
theorem deal_cell {ga : Option Addr} {n c : Nat} : ∀ u ∈ [Value.slice ga n c, .int .i64 0, .bool false, .bool false, .bool false, .bool false, .bool false, .bool false, .bool false], u.oneCell' = true := by
  intro u hu
  simp only [List.mem_cons, List.not_mem_nil, or_false] at hu
  rcases hu with rfl | rfl | rfl | rfl | rfl | rfl | rfl | rfl | rfl <;> rfl
theorem beginR_bad {B : Bok} {l : List (Int × Int)} (h : (chkW l).1 ≠ 0) : beginR B l = (0, (chkW l).1, B) := by unfold beginR; rw [if_neg h]
theorem beginR_full {B : Bok} {l : List (Int × Int)} (h : (chkW l).1 = 0) (h8 : 8 ≤ B.L.length) : beginR B l = (0, 6, B) := by unfold beginR; rw [if_pos h, if_pos h8]
theorem beginR_ok {B : Bok} {l : List (Int × Int)} (h : (chkW l).1 = 0) (h8 : ¬ 8 ≤ B.L.length) : beginR B l = ((B.L.length : Int), 0, { B with L := B.L ++ [⟨l, 0, [], []⟩] }) := by unfold beginR; rw [if_pos h, if_neg h8]

set_option maxHeartbeats 4000000 in
set_option maxRecDepth 100000 in
theorem rbegin_any (O : Nat → Prop) (B : Bok) (q : Nat) (la : Option Addr) (ll lc : Nat) (l : List (Int × Int)) (w : World) (h : BrkIn O w q B) (hI : BInv B) (hl : WantsAt w la l) (hll : l.length = ll) :
    Calls Try.prog 6 #[.pointer (some ⟨q, 0, none⟩), .slice la ll lc] w fun e w' => e = .returned (.tuple #[.int .i64 (beginR B l).1, .int .i64 (beginR B l).2.1]) ∧ BrkTo O w w' q (beginR B l).2.2 := by
  have HC := pcheck_any la ll lc l w hl hll
  have HI : Hid (BrkIn O w q B) := h
  by_cases hc : (chkW l).1 = 0
  · have hc' : ((chkW l).1 != 0) = false := by simp [hc]
    have hF := fit_iff.1 hc
    obtain ⟨rv, dv, P, hR, hsub⟩ := h.raw
    have c0 := hR.c0
    obtain ⟨ga, cap, rfl⟩ := own_sl hR.row
    rw [← hR.len] at c0
    have hql := h.lt
    by_cases h8 : 8 ≤ B.L.length
    · rw [beginR_full hc h8]
      have h8' : (8 : Int) ≤ (B.L.length : Int) := by omega
      clear hR hsub h hc h8 hI hF
      go_enter Try.func6, Try.ntmps6
      go_wp2_with fail
      refine HC.mono ?_
      rintro e w1 ⟨rfl, hb1⟩
      have c0' : w1.cell? ⟨q, 0, none⟩ = some (.slice ga B.L.length cap) := ((bcell hb1).1 _ _ hql).trans c0
      have hql1 : q < w1.heap.size := Nat.lt_of_lt_of_le hql hb1.size
      clear c0
      go_wp2_with fail
      go_ret2
      exact ⟨rfl, BrkTo.stay HI.out (after hb1 (by go_grown) hb1.size)⟩
    · rw [beginR_ok hc h8]
      have h8' : ¬ (8 : Int) ≤ (B.L.length : Int) := by omega
      obtain ⟨i0, hi, hz0, hz1, hz2⟩ := info_parts infoWant
      obtain ⟨j0, hj, hy0, hy1, hy2⟩ := info_parts infoDeal
      have hpos := hF.pos
      have HLen : Hid (l.length ≤ 4) := hF.few
      obtain ⟨⟨c, d⟩, hk0⟩ : ∃ x, l[0]? = some x := ⟨_, List.getElem?_eq_getElem hpos⟩
      obtain ⟨b, off, rfl, hbl, _, _⟩ := hl 0 c d hk0
      have HR : Hid (BrkRaw w q B (.slice ga P.length cap) dv P) := hR
      have HSub : Hid (∀ u ∈ (.slice ga P.length cap : Value) :: dv :: P.map Prod.snd, ∀ k, u.ownBlock = some k → O k) := hsub
      have HPl : Hid (P.length = B.L.length) := hR.len.symm
      have HLn8 : Hid (B.L.length ≤ 8) := hI.len
      have HW : Hid (WantsAt w (some ⟨b, off, none⟩) l) := hl
      have HFl : Hid ((flat l).length = l.length * 2) := flat_length l
      subst hll
      clear hR hsub h hc h8 hI hF hl hk0
      go_enter Try.func6, Try.ntmps6
      go_wp2_with fail
      refine HC.mono ?_
      rintro e w1 ⟨rfl, hb1⟩
      go_upto_region 2 with fail
      have hb2 : Below w.heap.size w (w1.alloc (.cells #[.int .i64 (chkW l).1, .int .i64 (chkW l).2] 48)) := after hb1 (by go_grown) hb1.size
      have hX := BoxAt.new w1 [.int .i64 (chkW l).1, .int .i64 (chkW l).2] 48
      have x0 := hX.2 0 _ rfl
      change (w1.alloc (.cells #[.int .i64 (chkW l).1, .int .i64 (chkW l).2] 48)).cell? _ = _ at x0
      generalize (w1.alloc (.cells #[.int .i64 (chkW l).1, .int .i64 (chkW l).2] 48)) = w2 at hb2 x0 ⊢
      generalize w1.heap.size = B1 at x0 ⊢
      have c0' : w2.cell? ⟨q, 0, none⟩ = some (.slice ga B.L.length cap) := ((bcell hb2).1 _ _ hql).trans c0
      have hql2 : q < w2.heap.size := Nat.lt_of_lt_of_le hql hb2.size
      have hf2 : ∀ k, w2.frozen? ⟨q, k, none⟩ = false := (HI.out.next hb2).loose
      have HR2 : Hid (BrkRaw w2 q B (.slice ga P.length cap) dv P) := HR.out.save hql (.of_below (O := fun _ => False) hb2) (fun q => q) (fun _ _ _ _ q => q)
      have HWc : Hid (∀ j u, (flat l)[j]? = some u → w2.cell? ((⟨b, off, none⟩ : Addr).add j) = some u) := wants_cells (HW.out.below hb2 (Nat.le_refl _))
      have HB2 : Hid _ := hb2
      clear c0 hb1 hX HC hb2 hbl
      go_upto_region 7 with fail
      have HRow : Hid (w2.ownsRow (q + 1) 53 9 (.slice ga B.L.length cap) B.L.length (flatB P)) := by
        have := HR2.out.row
        rw [HPl.out] at this
        exact this
      have HN1 : Hid (some q ≠ (.slice ga B.L.length cap : Value).ownBlock) := fun e => by have := (HRow.out.lt q e.symm).1; omega
      go_region_law
        (first | (refine step_append_two (by rfl) (.const (.slice none 0 0)) (.tmp 27) 22 (by rfl) w2.heap.size 35 i0 (.agg #[.int .i64 0, .int .i64 0]) 2 16 Try.underlying22 hi hz0 hz1 hz2 rfl (by decide) (.slice none 0 0) 0 [] (by rfl) (World.ownsRow_nil _ _ _ _) ⟨b, off, none⟩ l.length lc (flat l) (by rfl) HFl.out (fun j u hj => HWc.out j u hj) (flat_one _) (by have := HLen.out; unfold maxLen; omega) (by have := HLen.out; omega) (by simp) hpos ?_; intro v7 w7 hown7 hgrow7 hwh7; have hown7' : w7.ownsRow w2.heap.size 35 2 v7 l.length (flat l) := (by simpa using hown7); clear hown7; obtain ⟨ga7, cap7, rfl⟩ := own_sl hown7'; have HO7 : Hid (w7.ownsRow w2.heap.size 35 2 (.slice ga7 l.length cap7) l.length (flat l)) := hown7'; clear hown7' hwh7; have HB7 : Hid (Below w2.heap.size w2 w7) := (((Below.refl _ _).drew).grown hgrow7 (by simp) (fun k e => by simp [Value.ownBlock] at e)); have hz7 : w2.heap.size ≤ w7.heap.size := HB7.out.size; have hq7 : q < w7.heap.size := Nat.lt_of_lt_of_le hql2 hz7; have k7 : w7.cell? ⟨q, 0, none⟩ = some (.slice ga B.L.length cap) := ((bcell HB7.out).1 _ _ hql2).trans c0'; have f7 : ∀ k, w7.frozen? ⟨q, k, none⟩ = false := loose q HB7.out hql2 hf2; clear hgrow7) | (refine step_append_two (by rfl) (.tmp 26) (.tmp 30) 44 (by rfl) (q + 1) 53 j0 (.agg #[.slice none 0 0, .int .i64 0, .bool false, .bool false, .bool false, .bool false, .bool false, .bool false, .bool false]) 9 40 Try.underlying44 hj hy0 hy1 hy2 rfl (by decide) (.slice ga B.L.length cap) _ _ (by rfl) (own_next (own_next HRow.out HB7.out) ((Below.refl _ _).alloc (Nat.le_refl _) _)) ⟨w7.heap.size, 0, none⟩ 1 1 [.slice ga7 l.length cap7, .int .i64 0, .bool false, .bool false, .bool false, .bool false, .bool false, .bool false, .bool false] (by rfl) rfl (deal_lies (by simp [go_sem]) (by simp [go_sem]) (by simp [go_sem]) (by simp [go_sem]) (by simp [go_sem]) (by simp [go_sem]) (by simp [go_sem]) (by simp [go_sem]) (by simp [go_sem])) deal_cell (by have := HLn8.out; unfold maxLen; omega) (by have := HLn8.out; omega) (by simp; omega) (by decide) ?_; intro v8 w8 hown8 hgrow8 hwh8; obtain ⟨ga8, cap8, rfl⟩ := own_sl hown8; have HO8 : Hid (w8.ownsRow (q + 1) 53 9 (.slice ga8 (B.L.length + 1) cap8) (B.L.length + 1) (flatB P ++ [.slice ga7 l.length cap7, .int .i64 0, .bool false, .bool false, .bool false, .bool false, .bool false, .bool false, .bool false])) := hown8; clear hown8; have HW8 : Hid _ := hwh8; clear hwh8; have k8 : w8.cell? ⟨q, 0, none⟩ = some (.slice ga B.L.length cap) := hgrow8.cell (by simp [go_sem, k7, hq7]) HN1.out; have f8 : ∀ k, w8.frozen? ⟨q, k, none⟩ = false := fun k => (World.frozen?_of_block (hgrow8.block q (by simp; omega) HN1.out)).trans (by simp [go_sem, f7, hq7])))
      all_goals
        go_wp2_with fail
        go_ret2
        have hr7 : w7.ownsRow (q + 1) 35 2 (.slice ga7 l.length cap7) l.length (flat l) := by
          refine ⟨HO7.out.1, HO7.out.2.imp id ?_⟩
          rintro ⟨g, cap, cur, h1, h2, h3⟩
          exact ⟨g, cap, cur, h1, by omega, h3⟩
        have hB0 : Below w.heap.size w w7 := after HB2.out HB7.out HB2.out.size
        have h8 : Save (fun k => (Value.slice ga B.L.length cap).ownBlock = some k) w7 w8 := (Save.of_below (by go_grown)).grown hgrow8 (fun k e _ => e)
        have hR9 := HR.out.begin (l := l) (v7 := .slice ga7 l.length cap7) (v8 := .slice ga8 (B.L.length + 1) cap8) hql (HI.out.rows HSub.out) hB0 hr7 (fun j hj => ⟨Nat.le_trans HB2.out.size (HO7.out.lt j hj).1, (HO7.out.lt j hj).2⟩) (by rw [HPl.out]; exact h8) (by rw [HPl.out]; exact HO8.out) (fun j hj => by rw [HPl.out]; exact (HW8.out j hj).imp id (fun e => by rw [e]; simp))
        refine ⟨rfl, brk_to HI.out.own HI.out.mine ?_ hR9 (by simpa [go_sem] using f8) ?_⟩
        · exact (((Save.of_below hB0).trans h8 (fun j _ e => HSub.out _ List.mem_cons_self j (by rw [HPl.out]; exact e)))).setCell (p := ⟨q, 0, none⟩) (fun _ => HI.out.mine) _
        · intro u hu k hk
          have hsz : (w8.setCell (⟨q, 0, none⟩ : Addr) (.slice ga8 (B.L.length + 1) cap8)).heap.size = w8.heap.size := by simp
          rw [hsz]
          have z1 := hB0.size
          have z8 := h8.size
          have old : ∀ x ∈ (.slice ga P.length cap : Value) :: dv :: P.map Prod.snd, x.ownBlock = some k → (O k ∨ w.heap.size ≤ k) ∧ k < w8.heap.size := fun x hx hk => ⟨.inl (HSub.out x hx k hk), by have := HI.out.own k (HSub.out x hx k hk); omega⟩
          rw [List.map_append] at hu
          rcases List.mem_cons.1 hu with rfl | hu
          · refine ⟨?_, (HO8.out.lt k hk).2⟩
            rcases HW8.out k hk with e | e
            · exact (old _ List.mem_cons_self (by rw [HPl.out]; exact e)).1
            · right
              simp at e
              omega
          · rcases List.mem_cons.1 hu with rfl | hu
            · exact old _ (by simp) hk
            · rcases List.mem_append.1 hu with hu | hu
              · exact old _ (by simp [hu]) hk
              · simp at hu
                subst hu
                have := HO7.out.lt k hk
                have := HB2.out.size
                exact ⟨.inr (by omega), by omega⟩
  · rw [beginR_bad hc]
    have hc' : ((chkW l).1 != 0) = true := by simpa using hc
    clear h hc hI
    go_enter Try.func6, Try.ntmps6
    go_wp2_with fail
    refine HC.mono ?_
    rintro e w1 ⟨rfl, hb1⟩
    go_wp2_with fail
    go_quiet (fail)
    go_wp2_with fail
    go_ret2
    exact ⟨rfl, BrkTo.stay HI.out (bdrewN (after hb1 (by go_grown) hb1.size) _)⟩

end Go.Proofs.Ytndggiefgpdiiac
