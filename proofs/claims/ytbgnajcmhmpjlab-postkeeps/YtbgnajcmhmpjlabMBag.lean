/- The contracts of the bag's Take and Double. -/
import Derived.Test.YtbgnajcmhmpjlabMTake
namespace Go.Proofs.Ytbgnajcmhmpjlab
open Go.RowKit

theorem step_append_six {P : Program} {w : World} {ops : Array Oper} {o : Oper} {a : Act} {K : Act → World → Prop} {Q : Exit → Act → World → Prop} {E : Prop} (hgd : o.guard = none) (s x : Operand) (t : TypeId)
    (ho : o.op = .call { callee := .builtin .append, args := #[s, x], argTypes := #[t, t] })
    (base : Nat) (e : TypeId) (i : TypeInfo) (z : Value) (size bytes : Nat) (ht : P.underlying t = some (.slice e)) (hi : P.info? e = some i) (hz : i.zero = some z)
    (hsize : i.size = size) (hby : i.bytes = bytes) (hzs : z.cells.size = size) (hsz : 0 < size)
    (v : Value) (n : Nat) (xs : List Value) (hs : a.eval s = v) (hown : w.ownsRow base e size v n xs)
    (ad : Addr) (m c : Nat) (news : List Value) (hx : a.eval x = .slice (some ad) m c) (hl : news.length = m * size) (hnews : ∀ j u, news[j]? = some u → w.cell? (ad.add j) = some u) (h1 : ∀ u ∈ news, u.oneCell' = true)
    (h63 : n + m ≤ maxLen) (hbytes : (n + m) * bytes ≤ 140737488355328) (hbase : base ≤ w.heap.size) (q : Nat) (hq : n + m = q) (ys : List Value) (hy : xs ++ news = ys)
    (h : ∀ v' w', w'.ownsRow base e size v' q ys → w.grownBy w' v.ownBlock → K (a.put o.dst v') w') : if Region.wanted o (yielded ops a.tmps) = true then Oper.wp P o a w K Q else E := by
  subst hq
  subst hy
  have hw : Region.wanted o (yielded ops a.tmps) = true := by simp [Region.wanted, hgd]
  rw [if_pos hw]
  exact wp_append_own w s x t ho base e i z size bytes ht hi hz hsize hby hzs hsz v n xs hs hown ad m c news hx hl hnews h1 h63 hbytes hbase fun v' w' h2 h3 _ => h v' w' h2 h3
theorem own_up {w : World} {B C e s n : Nat} {v : Value} {xs : List Value} (h : w.ownsRow C e s v n xs) (hB : B ≤ C) : w.ownsRow B e s v n xs := by
  refine ⟨h.1, h.2.imp id ?_⟩
  rintro ⟨g, cap, cur, h1, h2, h3⟩
  exact ⟨g, cap, cur, h1, Nat.le_trans hB h2, h3⟩

set_option maxHeartbeats 1000000 in
theorem gtake_none (O : Nat → Prop) (p o : Nat) (n : Int) (w : World) (h : MailIn O w p o []) :
    Calls Try.prog 35 #[.pointer (some ⟨p, o, none⟩), .int .i64 n] w fun e w' => e = .returned (.tuple #[mlV noMl, .bool false]) ∧ Below w.heap.size w w' := by
  obtain ⟨mv, g0, hrow, _⟩ := h.raw
  obtain ⟨ga, cap, rfl⟩ := own_slice6 hrow
  have hpl := h.lt
  have hk2 : ((([] : List Ml).length : Int) == 0) = true := rfl
  clear h hrow
  go_enter Try.func35, Try.ntmps35
  go_upto_region 1 with fail
  have hw1 : Below w.heap.size w (w.alloc (.cells #[.int .i64 0, .int .i64 0, .int .i64 0, .int .i64 0, .int .i64 0, .bool false] 71)) := (Below.refl _ _).alloc (Nat.le_refl _) _
  have hX := Box6.zero w
  have g1 : (w.alloc (.cells #[.int .i64 0, .int .i64 0, .int .i64 0, .int .i64 0, .int .i64 0, .bool false] 71)).cell? ⟨p, o, none⟩ = some (.slice ga ([] : List Ml).length cap) := ((bcell hw1).1 _ _ hpl).trans g0
  generalize (w.alloc (.cells #[.int .i64 0, .int .i64 0, .int .i64 0, .int .i64 0, .int .i64 0, .bool false] 71)) = w1 at *
  obtain ⟨lt, c0, c1, c2, c3, c4, c5, lo⟩ := hX
  generalize hB : w.heap.size = B at lt c0 c1 c2 c3 c4 c5 lo ⊢
  have HB : Hid (w.heap.size ≤ B) := Nat.le_of_eq hB
  clear hB g0
  go_wp2_with fail
  exact bodyPost_ret (v := .tuple #[mlV noMl, .bool false]) (by simp [results, Try.results35, go_sem, c0, c1, c2, c3, c4, c5, mlV, noMl]) rfl ⟨rfl, below_put6 (m := noMl) hw1 HB.out⟩

set_option maxHeartbeats 4000000 in
theorem gtake_some (O : Nat → Prop) (l : List Ml) (p o : Nat) (n : Int) (m : Ml) (w : World) (h : MailIn O w p o l) (hl : l.length < 1000) (hm : l[rnd n l.length]? = some m) :
    Calls Try.prog 35 #[.pointer (some ⟨p, o, none⟩), .int .i64 n] w fun e w' => e = .returned (.tuple #[mlV m, .bool true]) ∧ Sent O w w' p o (l.eraseIdx (rnd n l.length)) := by
  have HI : Hid (MailIn O w p o l) := h
  have HL : Hid (l.length < 1000) := hl
  have hk := (List.getElem?_eq_some_iff.1 hm).1
  have HM : Hid _ := hm
  clear h hl hm
  go_enter Try.func35, Try.ntmps35
  have hne : ((l.length : Int) == 0) = false := by rw [beq_eq_false_iff_ne]; omega
  obtain ⟨mv0, c9, hrow9, _⟩ := HI.out.raw
  obtain ⟨ga9, cap9, rfl⟩ := own_slice6 hrow9
  have hpl9 := HI.out.lt
  clear hrow9
  go_wp2_with fail
  refine Calls.mono (gat_any O l p o n _ (HI.out.next (by go_grown)) HL.out (by intro e; rw [e] at hk; simp at hk)) ?_
  clear c9 hpl9
  rintro e w1 ⟨rfl, hb1⟩
  have hX := (Box6.zero w).next hb1
  have hw1 : Below w.heap.size w w1 := after (by go_grown) hb1 (by simp)
  have hI1 := HI.out.next hw1
  obtain ⟨mv, c0, hrow, hsub⟩ := hI1.raw
  obtain ⟨g, cap, rfl⟩ := own_some hrow (by omega)
  obtain ⟨_, hR, hnc, _, hcell⟩ := own_row hrow
  have hfl := flat6_at l _ m HM.out
  have HRow : Hid (w1.ownsRow (p + 1) 71 6 (.slice (some ⟨g, 0, none⟩) l.length cap) l.length (flat6 l)) := hrow
  generalize hkk : rnd n l.length = k at *
  have p0 : w1.cell? ⟨g, k * 6, none⟩ = some (.int .i64 m.kind) := hcell _ _ (hfl 0 _ rfl)
  have p1 : w1.cell? ⟨g, k * 6 + 1, none⟩ = some (.int .i64 m.deal) := hcell _ _ (hfl 1 _ rfl)
  have p2 : w1.cell? ⟨g, k * 6 + 2, none⟩ = some (.int .i64 m.shop) := hcell _ _ (hfl 2 _ rfl)
  have p3 : w1.cell? ⟨g, k * 6 + 3, none⟩ = some (.int .i64 m.c) := hcell _ _ (hfl 3 _ rfl)
  have p4 : w1.cell? ⟨g, k * 6 + 4, none⟩ = some (.int .i64 m.d) := hcell _ _ (hfl 4 _ rfl)
  have p5 : w1.cell? ⟨g, k * 6 + 5, none⟩ = some (.bool m.yes) := hcell _ _ (hfl 5 _ rfl)
  have j0 : (0 : Int) ≤ (k : Int) := by omega
  have j1 : (k : Int) < (l.length : Int) := by omega
  have hgl := hR.lt
  have hpl := hI1.lt
  have HOwn1 : Hid (∀ k, O k → k < w.heap.size) := HI.out.own
  have HMine : Hid (O p) := HI.out.mine
  have HSub : Hid (∀ k, (Value.slice (some ⟨g, 0, none⟩) l.length cap).ownBlock = some k → O k) := hsub
  have HX : Hid (Box6 w1 w.heap.size noMl) := hX
  have HI1 : Hid (MailIn O w1 p o l) := hI1
  generalize hB : w.heap.size = B at hX HX ⊢
  have HB : Hid (w.heap.size = B) := hB
  have HW1 : Hid _ := hw1
  have HKK : Hid _ := hkk
  clear hb1 hB hw1 hI1 hrow hsub hR hcell hfl hX hkk
  go_upto_region 5 with fail
  have hb2 : Below w1.heap.size w1 (w1.alloc (.cells #[.int .i64 m.kind, .int .i64 m.deal, .int .i64 m.shop, .int .i64 m.c, .int .i64 m.d, .bool m.yes] 71)) := (Below.refl _ _).alloc (Nat.le_refl _) _
  have hX2 := Box6.new w1 m
  have hX1 := HX.out.next hb2
  have hI2 := HI1.out.next hb2
  have HRow2 : Hid ((w1.alloc (.cells #[.int .i64 m.kind, .int .i64 m.deal, .int .i64 m.shop, .int .i64 m.c, .int .i64 m.d, .bool m.yes] 71)).ownsRow (p + 1) 71 6 (.slice (some ⟨g, 0, none⟩) l.length cap) l.length (flat6 l)) := own_next HRow.out hb2
  have g0 : (w1.alloc (.cells #[.int .i64 m.kind, .int .i64 m.deal, .int .i64 m.shop, .int .i64 m.c, .int .i64 m.d, .bool m.yes] 71)).cell? ⟨p, o, none⟩ = some (.slice (some ⟨g, 0, none⟩) l.length cap) := ((bcell hb2).1 _ _ hpl).trans c0
  have hw2 := after HW1.out hb2 HW1.out.size
  have HB2 : Hid (B ≤ w1.heap.size ∧ g < w1.heap.size) := ⟨by have := HW1.out.size; have := HB.out; omega, hgl⟩
  generalize (w1.alloc (.cells #[.int .i64 m.kind, .int .i64 m.deal, .int .i64 m.shop, .int .i64 m.c, .int .i64 m.d, .bool m.yes] 71)) = w2 at *
  generalize w1.heap.size = B2 at hX2 HB2 ⊢
  have HX2 : Hid (Box6 w2 B2 m) := hX2
  have HX1 : Hid (Box6 w2 B noMl) := hX1
  have HW2 : Hid (Below w.heap.size w w2) := hw2
  have hf2 := hI2.loose
  have hpl2 := hI2.lt
  have HG : Hid (O g) := HSub.out g rfl
  have HGP : Hid (p + 1 ≤ g) := (HRow2.out.lt g rfl).1
  clear HX HI1 HRow c0 p0 p1 p2 p3 p4 p5 HW1 hX1 hX2 hw2 hb2 hgl hpl hI2
  have j2 : (l.length : Int) < 1000 := by have := HL.out; omega
  obtain ⟨i0, hi, hz0, hz1, hz2⟩ := info_parts infoMail
  obtain ⟨_, _, _, _, hcell2⟩ := own_row HRow2.out
  have hgl2 := (HRow2.out.lt g rfl).2
  have HT : Hid _ := (own_row (own_take HRow2.out rfl (Nat.le_of_lt hk))).2.2.2.2
  have HTl : Hid ((flat6 (l.take k)).length = k * 6) := by show _ = _; rw [flat6_length, List.length_take, Nat.min_eq_left (by omega)]
  have HD : Hid _ := cells_drop hcell2 (show k + 1 ≤ l.length by omega)
  have HDl : Hid ((flat6 (l.drop (k + 1))).length = (l.length - (k + 1)) * 6) := by show _ = _; rw [flat6_length, List.length_drop]
  have HE : Hid (flat6 (l.take k) ++ flat6 (l.drop (k + 1)) = flat6 (l.eraseIdx k)) := by show _ = _; rw [erase_split, flat6_append]
  have HEl : Hid ((l.eraseIdx k).length = l.length - 1) := by show _ = _; rw [List.length_eraseIdx, if_pos hk]
  clear hcell2
  have k0 : (0 : Int) ≤ (k : Int) + 1 := by omega
  have k1 : (k : Int) + 1 ≤ (l.length : Int) := by omega
  have k2 : (l.length : Int) ≤ (cap : Int) := by omega
  have k3 : k + 1 ≤ l.length := hk
  have k4 : k + 1 ≤ cap := by omega
  have k5 : k ≤ cap := by omega
  have k6 : (k : Int) ≤ (cap : Int) := by omega
  have hpw : p < w2.heap.size := hpl2
  have hr : IntKind.i64.wrap ((k : Int) + 1) = (k : Int) + 1 := by go_unwrap
  go_upto_region 6 with fail
  by_cases hcap : cap = k + 1
  · subst hcap
    have HD0 : Hid (l.drop (k + 1) = []) := List.drop_of_length_le (by omega)
    have HE0 : Hid (flat6 (l.take k) ++ [] = flat6 (l.eraseIdx k)) := by have h := HE.out; rw [HD0.out] at h; exact h
    have kk : (k : Int) ≤ (k : Int) + 1 := by omega
    go_region_law
      (first | (refine step_append_six (by rfl) (.tmp 25) (.tmp 30) 67 (by rfl) w2.heap.size 71 i0 (.agg #[.int .i64 0, .int .i64 0, .int .i64 0, .int .i64 0, .int .i64 0, .bool false]) 6 48 Try.underlying67 hi hz0 hz1 hz2 rfl (by decide) (.slice none 0 0) 0 [] (by rfl) (World.ownsRow_nil _ _ _ _) ⟨g, 0, none⟩ k (k + 1) (flat6 (l.take k)) (by rfl) HTl.out (fun j u hj => by rw [addr_add]; exact HT.out j u hj) (flat6_one _) (by have := HL.out; unfold maxLen; omega) (by have := HL.out; omega) (by simp) k (by omega) (flat6 (l.take k)) (by simp) ?_; intro v31 w31 hown31 hgrow31; have HO31 : Hid (w31.ownsRow w2.heap.size 71 6 v31 k (flat6 (l.take k))) := hown31; clear hown31; have hz31 : w2.heap.size ≤ w31.heap.size := Nat.le_trans (by simp) hgrow31.size; have hk31 : w31.cell? ⟨p, o, none⟩ = some (.slice (some ⟨g, 0, none⟩) l.length (k + 1)) := hgrow31.cell (by simp [go_sem, g0]) (by simp [Value.ownBlock]); have HS31 : Hid (Save (fun _ => False) w2 w31 ∧ Rest p o w2 w31) := ⟨(Save.of_below (by go_grown)).grown hgrow31 (fun k e _ => by simp [Value.ownBlock] at e), (Rest.below (by go_grown) hpw).trans (Rest.grown hgrow31 (by simpa using hpw) (by simp [Value.ownBlock]))⟩; clear hgrow31) | (refine step_append_six (by rfl) (.tmp 31) (.tmp 37) 67 (by rfl) w2.heap.size 71 i0 (.agg #[.int .i64 0, .int .i64 0, .int .i64 0, .int .i64 0, .int .i64 0, .bool false]) 6 48 Try.underlying67 hi hz0 hz1 hz2 rfl (by decide) v31 k (flat6 (l.take k)) (by rfl) HO31.out ⟨g, 0, none⟩ 0 0 [] (by rfl) rfl (fun j u hj => by simp at hj) (fun u hu => by simp at hu) (by have := HL.out; unfold maxLen; omega) (by have := HL.out; omega) hz31 (l.length - 1) (by omega) (flat6 (l.eraseIdx k)) HE0.out ?_; intro v38 w38 hown38 hgrow38; obtain ⟨ga38, cap38, rfl⟩ := own_slice6 hown38; have HO38 : Hid (w38.ownsRow w2.heap.size 71 6 (.slice ga38 (l.length - 1) cap38) (l.length - 1) (flat6 (l.eraseIdx k))) := hown38; clear hown38; have q0 : w38.cell? ⟨p, o, none⟩ = some (.slice (some ⟨g, 0, none⟩) l.length (k + 1)) := hgrow38.cell hk31 (fun e => by have := (HO31.out.lt p e.symm).1; omega); have HS38 : Hid (Save (fun _ => False) w2 w38 ∧ Rest p o w2 w38) := ⟨HS31.out.1.grown hgrow38 (fun k e hk => by have := (HO31.out.lt k e).1; omega), HS31.out.2.trans (Rest.grown hgrow38 (Nat.lt_of_lt_of_le hpw hz31) (fun e => by have := (HO31.out.lt p e.symm).1; omega))⟩; clear hgrow38; have qf : ∀ k, w38.frozen? ⟨p, k, none⟩ = false := fun k => (HS38.out.1.frozen (p := ⟨p, k, none⟩) hpw (fun e => e)).trans (hf2 k)))
    all_goals
      obtain ⟨_, x0, x1, x2, x3, x4, x5, xl⟩ := HX2.out.save HS38.out.1 (fun e => e)
      obtain ⟨_, b0, b1, b2, b3, b4, b5, bl⟩ := HX1.out.save HS38.out.1 (fun e => e)
      have HSe : Hid (Sent O w (put6 (w38.setCell ⟨p, o, none⟩ (.slice ga38 (l.length - 1) cap38)) B m) p o (l.eraseIdx k)) := by
        have hsz : B < w2.heap.size := HX1.out.lt
        have hws : w.heap.size ≤ w2.heap.size := HW2.out.size
        refine sent_put HOwn1.out HMine.out ((Save.of_below HW2.out).trans HS38.out.1 (fun j _ e => e.elim)) ((Rest.below HW2.out (HOwn1.out p HMine.out)).trans HS38.out.2) qf q0 ?_ (fun k hk => .inr (Nat.le_trans hws (HO38.out.lt k hk).1)) (Nat.le_of_eq HB.out) (fun e => by have := (HO38.out.lt B e).1; omega)
        rw [HEl.out]
        exact own_up HO38.out hpw
      have hpB : p ≠ B := by have := HOwn1.out p HMine.out; have := HB.out; omega
      have hpB2 : p ≠ B2 := by have := HOwn1.out p HMine.out; have := HB.out; have := HB2.out; omega
      clear HS38 HO38 HX1 HX2 HRow2 g0 hf2 HW2 HB2
      go_wp2_with fail
      refine bodyPost_ret (v := .tuple #[mlV m, .bool true]) (by simp [results, Try.results35, go_sem, b0, b1, b2, b3, b4, b5, mlV]) rfl ⟨rfl, ?_⟩
      rw [HKK.out]
      exact HSe.out
  · go_region_law
      (first | (refine step_append_six (by rfl) (.tmp 25) (.tmp 30) 67 (by rfl) w2.heap.size 71 i0 (.agg #[.int .i64 0, .int .i64 0, .int .i64 0, .int .i64 0, .int .i64 0, .bool false]) 6 48 Try.underlying67 hi hz0 hz1 hz2 rfl (by decide) (.slice none 0 0) 0 [] (by rfl) (World.ownsRow_nil _ _ _ _) ⟨g, 0, none⟩ k cap (flat6 (l.take k)) (by rfl) HTl.out (fun j u hj => by rw [addr_add]; exact HT.out j u hj) (flat6_one _) (by have := HL.out; unfold maxLen; omega) (by have := HL.out; omega) (by simp) k (by omega) (flat6 (l.take k)) (by simp) ?_; intro v31 w31 hown31 hgrow31; have HO31 : Hid (w31.ownsRow w2.heap.size 71 6 v31 k (flat6 (l.take k))) := hown31; clear hown31; have hz31 : w2.heap.size ≤ w31.heap.size := Nat.le_trans (by simp) hgrow31.size; have hk31 : w31.cell? ⟨p, o, none⟩ = some (.slice (some ⟨g, 0, none⟩) l.length cap) := hgrow31.cell (by simp [go_sem, g0]) (by simp [Value.ownBlock]); have HD31 : Hid (∀ j u, (flat6 (l.drop (k + 1)))[j]? = some u → w31.cell? ((⟨g, (k + 1) * 6, none⟩ : Addr).add j) = some u) := fun j u hj => hgrow31.cell (HD.out j u hj) (by simp [Value.ownBlock]); have HS31 : Hid (Save (fun _ => False) w2 w31 ∧ Rest p o w2 w31) := ⟨(Save.of_below (by go_grown)).grown hgrow31 (fun k e _ => by simp [Value.ownBlock] at e), (Rest.below (by go_grown) hpw).trans (Rest.grown hgrow31 (by simpa using hpw) (by simp [Value.ownBlock]))⟩; clear hgrow31) | (refine step_append_six (by rfl) (.tmp 31) (.tmp 37) 67 (by rfl) w2.heap.size 71 i0 (.agg #[.int .i64 0, .int .i64 0, .int .i64 0, .int .i64 0, .int .i64 0, .bool false]) 6 48 Try.underlying67 hi hz0 hz1 hz2 rfl (by decide) v31 k (flat6 (l.take k)) (by rfl) HO31.out ⟨g, (k + 1) * 6, none⟩ (l.length - (k + 1)) (cap - (k + 1)) (flat6 (l.drop (k + 1))) (by rfl) HDl.out HD31.out (flat6_one _) (by have := HL.out; unfold maxLen; omega) (by have := HL.out; omega) hz31 (l.length - 1) (by omega) (flat6 (l.eraseIdx k)) HE.out ?_; intro v38 w38 hown38 hgrow38; obtain ⟨ga38, cap38, rfl⟩ := own_slice6 hown38; have HO38 : Hid (w38.ownsRow w2.heap.size 71 6 (.slice ga38 (l.length - 1) cap38) (l.length - 1) (flat6 (l.eraseIdx k))) := hown38; clear hown38; have q0 : w38.cell? ⟨p, o, none⟩ = some (.slice (some ⟨g, 0, none⟩) l.length cap) := hgrow38.cell hk31 (fun e => by have := (HO31.out.lt p e.symm).1; omega); have HS38 : Hid (Save (fun _ => False) w2 w38 ∧ Rest p o w2 w38) := ⟨HS31.out.1.grown hgrow38 (fun k e hk => by have := (HO31.out.lt k e).1; omega), HS31.out.2.trans (Rest.grown hgrow38 (Nat.lt_of_lt_of_le hpw hz31) (fun e => by have := (HO31.out.lt p e.symm).1; omega))⟩; clear hgrow38; have qf : ∀ k, w38.frozen? ⟨p, k, none⟩ = false := fun k => (HS38.out.1.frozen (p := ⟨p, k, none⟩) hpw (fun e => e)).trans (hf2 k)))
    all_goals
      obtain ⟨_, x0, x1, x2, x3, x4, x5, xl⟩ := HX2.out.save HS38.out.1 (fun e => e)
      obtain ⟨_, b0, b1, b2, b3, b4, b5, bl⟩ := HX1.out.save HS38.out.1 (fun e => e)
      have HSe : Hid (Sent O w (put6 (w38.setCell ⟨p, o, none⟩ (.slice ga38 (l.length - 1) cap38)) B m) p o (l.eraseIdx k)) := by
        have hsz : B < w2.heap.size := HX1.out.lt
        have hws : w.heap.size ≤ w2.heap.size := HW2.out.size
        refine sent_put HOwn1.out HMine.out ((Save.of_below HW2.out).trans HS38.out.1 (fun j _ e => e.elim)) ((Rest.below HW2.out (HOwn1.out p HMine.out)).trans HS38.out.2) qf q0 ?_ (fun k hk => .inr (Nat.le_trans hws (HO38.out.lt k hk).1)) (Nat.le_of_eq HB.out) (fun e => by have := (HO38.out.lt B e).1; omega)
        rw [HEl.out]
        exact own_up HO38.out hpw
      have hpB : p ≠ B := by have := HOwn1.out p HMine.out; have := HB.out; omega
      have hpB2 : p ≠ B2 := by have := HOwn1.out p HMine.out; have := HB.out; have := HB2.out; omega
      clear HS38 HO38 HX1 HX2 HRow2 g0 hf2 HW2 HB2
      go_wp2_with fail
      refine bodyPost_ret (v := .tuple #[mlV m, .bool true]) (by simp [results, Try.results35, go_sem, b0, b1, b2, b3, b4, b5, mlV]) rfl ⟨rfl, ?_⟩
      rw [HKK.out]
      exact HSe.out

end Go.Proofs.Ytbgnajcmhmpjlab
