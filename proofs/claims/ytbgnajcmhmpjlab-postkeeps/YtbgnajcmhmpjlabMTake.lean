/- The contracts of a post's Take and Double. -/
import Derived.Test.YtbgnajcmhmpjlabMDel
import Derived.Deep.RegionHeld3
namespace Go.Proofs.Ytbgnajcmhmpjlab
open Go.RowKit

theorem own_some {w : World} {B e n : Nat} {v : Value} {l : List Ml} (h : w.ownsRow B e 6 v n (flat6 l)) (hn : n ≠ 0) : ∃ g cap, v = .slice (some ⟨g, 0, none⟩) n cap := by
  rcases h.2 with ⟨_, e0⟩ | ⟨g, cap, cur, e1, _⟩
  · exact absurd e0 hn
  · exact ⟨g, cap, e1⟩
theorem pplace_none (O : Nat → Prop) (p o : Nat) (n : Int) (w : World) (h : MailIn O w p o []) :
    Calls Try.prog 69 #[.pointer (some ⟨p, o, none⟩), .int .i64 n] w fun e w' => e = .returned (.tuple #[.int .i64 0, .bool false]) ∧ Below w.heap.size w w' := by
  obtain ⟨mv, c0, hrow, _⟩ := h.raw
  obtain ⟨ga, cap, rfl⟩ := own_slice6 hrow
  have hk2 : ((([] : List Ml).length : Int) == 0) = true := rfl
  clear h hrow
  go_enter Try.func69, Try.ntmps69
  go_wp2_with fail
  go_ret2
  exact ⟨rfl, Below.refl _ _⟩
/-- A mail in a block of one's own. -/
structure Box6 (w : World) (b : Nat) (m : Ml) : Prop where
  lt : b < w.heap.size
  c0 : w.cell? ⟨b, 0, none⟩ = some (.int .i64 m.kind)
  c1 : w.cell? ⟨b, 1, none⟩ = some (.int .i64 m.deal)
  c2 : w.cell? ⟨b, 2, none⟩ = some (.int .i64 m.shop)
  c3 : w.cell? ⟨b, 3, none⟩ = some (.int .i64 m.c)
  c4 : w.cell? ⟨b, 4, none⟩ = some (.int .i64 m.d)
  c5 : w.cell? ⟨b, 5, none⟩ = some (.bool m.yes)
  loose : ∀ k, w.frozen? ⟨b, k, none⟩ = false
theorem Box6.save {O : Nat → Prop} {w w1 : World} {b : Nat} {m : Ml} (h : Box6 w b m) (hb : Save O w w1) (hn : ¬ O b) : Box6 w1 b m :=
  ⟨Nat.lt_of_lt_of_le h.lt hb.size, (hb.cell (p := ⟨b, _, none⟩) h.lt hn).trans h.c0, (hb.cell (p := ⟨b, _, none⟩) h.lt hn).trans h.c1, (hb.cell (p := ⟨b, _, none⟩) h.lt hn).trans h.c2, (hb.cell (p := ⟨b, _, none⟩) h.lt hn).trans h.c3, (hb.cell (p := ⟨b, _, none⟩) h.lt hn).trans h.c4, (hb.cell (p := ⟨b, _, none⟩) h.lt hn).trans h.c5, fun k => (hb.frozen (p := ⟨b, k, none⟩) h.lt hn).trans (h.loose k)⟩
theorem Box6.next {w w1 : World} {b : Nat} {m : Ml} (h : Box6 w b m) (hb : Below w.heap.size w w1) : Box6 w1 b m := h.save (O := fun _ => False) (.of_below hb) (fun q => q)
theorem Box6.new (w : World) (m : Ml) : Box6 (w.alloc (.cells #[.int .i64 m.kind, .int .i64 m.deal, .int .i64 m.shop, .int .i64 m.c, .int .i64 m.d, .bool m.yes] 71)) w.heap.size m :=
  ⟨by simp, by simp [go_sem], by simp [go_sem], by simp [go_sem], by simp [go_sem], by simp [go_sem], by simp [go_sem], by simp [go_sem]⟩
theorem Box6.zero (w : World) : Box6 (w.alloc (.cells #[.int .i64 0, .int .i64 0, .int .i64 0, .int .i64 0, .int .i64 0, .bool false] 71)) w.heap.size noMl := Box6.new w noMl
/-- The world in which a mail was stored in the block b. -/
def put6 (w : World) (b : Nat) (m : Ml) : World := (((((w.setCell ⟨b, 0, none⟩ (.int .i64 m.kind)).setCell ⟨b, 1, none⟩ (.int .i64 m.deal)).setCell ⟨b, 2, none⟩ (.int .i64 m.shop)).setCell ⟨b, 3, none⟩ (.int .i64 m.c)).setCell ⟨b, 4, none⟩ (.int .i64 m.d)).setCell ⟨b, 5, none⟩ (.bool m.yes)
theorem Save.put6 {O : Nat → Prop} {a w : World} {b : Nat} {m : Ml} (h : Save O a w) (hb : b < a.heap.size → O b) : Save O a (put6 w b m) :=
  (((((h.setCell (p := ⟨b, 0, none⟩) hb _).setCell (p := ⟨b, 1, none⟩) hb _).setCell (p := ⟨b, 2, none⟩) hb _).setCell (p := ⟨b, 3, none⟩) hb _).setCell (p := ⟨b, 4, none⟩) hb _).setCell (p := ⟨b, 5, none⟩) hb _
theorem below_put6 {a w : World} {B b : Nat} {m : Ml} (h : Below B a w) (hb : B ≤ b) : Below B a (put6 w b m) :=
  (((((h.setCell (p := ⟨b, 0, none⟩) hb _).setCell (p := ⟨b, 1, none⟩) hb _).setCell (p := ⟨b, 2, none⟩) hb _).setCell (p := ⟨b, 3, none⟩) hb _).setCell (p := ⟨b, 4, none⟩) hb _).setCell (p := ⟨b, 5, none⟩) hb _
theorem Box6.put {w : World} {b : Nat} {x : Ml} (h : Box6 w b x) (m : Ml) : Box6 (put6 w b m) b m := by
  obtain ⟨lt, c0, c1, c2, c3, c4, c5, lo⟩ := h
  unfold put6
  exact ⟨by simpa using lt, by simp [go_sem, c0], by simp [go_sem, c1], by simp [go_sem, c2], by simp [go_sem, c3], by simp [go_sem, c4], by simp [go_sem, c5], by simpa [go_sem] using lo⟩
/-- A new row's head is stored, and then a mail in a block that was made since. -/
theorem sent_put {O : Nat → Prop} {w w8 : World} {p o b : Nat} {l' : List Ml} {mv v8 : Value} {m : Ml} (hO : ∀ k, O k → k < w.heap.size) (hm : O p) (hS : Save O w w8) (hR : Rest p o w w8) (hf : ∀ k, w8.frozen? ⟨p, k, none⟩ = false) (hc : w8.cell? ⟨p, o, none⟩ = some mv) (hrow : w8.ownsRow (p + 1) 71 6 v8 l'.length (flat6 l')) (hw : ∀ k, v8.ownBlock = some k → O k ∨ w.heap.size ≤ k) (hb : w.heap.size ≤ b) (hn : v8.ownBlock ≠ some b) : Sent O w (put6 (w8.setCell ⟨p, o, none⟩ v8) b m) p o l' := by
  have hs : Save (fun k => k = b) (w8.setCell ⟨p, o, none⟩ v8) (put6 (w8.setCell ⟨p, o, none⟩ v8) b m) := (Save.refl _ _).put6 (fun _ => rfl)
  have hp := hO p hm
  have h1 : MailIn (fun k => O k ∨ v8.ownBlock = some k) (w8.setCell ⟨p, o, none⟩ v8) p o l' := by
    refine ⟨fun k hk => ?_, .inl hm, by simpa [go_sem] using hf, v8, cell_set_same hc, ownsRow_setCell_below hrow (Nat.lt_succ_self p) _, fun k hk => .inr hk⟩
    show k < (w8.setCell _ _).heap.size
    rw [show (w8.setCell (⟨p, o, none⟩ : Addr) v8).heap.size = w8.heap.size by simp]
    rcases hk with hk | hk
    · exact Nat.lt_of_lt_of_le (hO k hk) hS.size
    · exact (hrow.lt k hk).2
  have h2 : Save O w (w8.setCell ⟨p, o, none⟩ v8) := hS.setCell (p := ⟨p, o, none⟩) (fun _ => hm) _
  refine ⟨fun k => O k ∨ v8.ownBlock = some k, h1.save hs (fun k hk e => ?_), h2.trans hs (fun j hj e => by omega), fun k hk => hk.elim .inl (hw k), (hR.trans (Rest.set _ _)).trans (fun j _ => hs.cell (p := ⟨p, j, none⟩) (Nat.lt_of_lt_of_le hp h2.size) (fun e => by simp only at e; omega))⟩
  subst e
  rcases hk with hk | hk
  · have := hO _ hk; omega
  · exact hn hk

set_option maxHeartbeats 1000000 in
theorem ptake_none (O : Nat → Prop) (p o : Nat) (n : Int) (w : World) (h : MailIn O w p o []) :
    Calls Try.prog 34 #[.pointer (some ⟨p, o, none⟩), .int .i64 n] w fun e w' => e = .returned (.tuple #[mlV noMl, .bool false]) ∧ Below w.heap.size w w' := by
  have HI : Hid (MailIn O w p o []) := h
  clear h
  go_enter Try.func34, Try.ntmps34
  go_wp2_with fail
  refine Calls.mono (pplace_none O p o n _ (HI.out.next (by go_grown))) ?_
  rintro e w1 ⟨rfl, hb1⟩
  have hX := (Box6.zero w).next hb1
  have hw1 : Below w.heap.size w w1 := after (by go_grown) hb1 (by simp)
  obtain ⟨lt, c0, c1, c2, c3, c4, c5, lo⟩ := hX
  generalize hB : w.heap.size = B at lt c0 c1 c2 c3 c4 c5 lo ⊢
  have HB : Hid (w.heap.size ≤ B) := Nat.le_of_eq hB
  clear hb1 hB
  go_wp2_with fail
  exact bodyPost_ret (v := .tuple #[mlV noMl, .bool false]) (by simp [results, Try.results34, go_sem, c0, c1, c2, c3, c4, c5, mlV, noMl]) rfl ⟨rfl, below_put6 (m := noMl) hw1 HB.out⟩

set_option maxHeartbeats 2000000 in
theorem ptake_some (O : Nat → Prop) (l : List Ml) (p o : Nat) (n : Int) (m : Ml) (w : World) (h : MailIn O w p o l) (hl : l.length < 1000) (hm : l[rnd n l.length]? = some m) :
    Calls Try.prog 34 #[.pointer (some ⟨p, o, none⟩), .int .i64 n] w fun e w' => e = .returned (.tuple #[mlV m, .bool true]) ∧ Sent O w w' p o (l.eraseIdx (rnd n l.length)) := by
  have HI : Hid (MailIn O w p o l) := h
  have HL : Hid (l.length < 1000) := hl
  have hk := (List.getElem?_eq_some_iff.1 hm).1
  have HM : Hid _ := hm
  clear h hl hm
  go_enter Try.func34, Try.ntmps34
  go_wp2_with fail
  refine Calls.mono (pplace_any O l p o n _ (HI.out.next (by go_grown)) HL.out (by intro e; rw [e] at hk; simp at hk)) ?_
  rintro e w1 ⟨rfl, hb1⟩
  have hX := (Box6.zero w).next hb1
  have hw1 : Below w.heap.size w w1 := after (by go_grown) hb1 (by simp)
  have hI1 := HI.out.next hw1
  obtain ⟨mv, c0, hrow, hsub⟩ := hI1.raw
  obtain ⟨g, cap, rfl⟩ := own_some hrow (by omega)
  obtain ⟨_, hR, hnc, _, hcell⟩ := own_row hrow
  have hfl := flat6_at l _ m HM.out
  have HRow : Hid (w1.ownsRow (p + 1) 71 6 (.slice (some ⟨g, 0, none⟩) l.length cap) l.length (flat6 l)) := hrow
  generalize hkk : rnd n l.length = k at *
  have p0 : w1.cell? ⟨g, k * 6, none⟩ = some (.int .i64 m.kind) := hcell _ _ (hfl 0 _ rfl)
  have p1 : w1.cell? ⟨g, k * 6 + 1, none⟩ = some (.int .i64 m.deal) := hcell _ _ (hfl 1 _ rfl)
  have p2 : w1.cell? ⟨g, k * 6 + 2, none⟩ = some (.int .i64 m.shop) := hcell _ _ (hfl 2 _ rfl)
  have p3 : w1.cell? ⟨g, k * 6 + 3, none⟩ = some (.int .i64 m.c) := hcell _ _ (hfl 3 _ rfl)
  have p4 : w1.cell? ⟨g, k * 6 + 4, none⟩ = some (.int .i64 m.d) := hcell _ _ (hfl 4 _ rfl)
  have p5 : w1.cell? ⟨g, k * 6 + 5, none⟩ = some (.bool m.yes) := hcell _ _ (hfl 5 _ rfl)
  have j0 : (0 : Int) ≤ (k : Int) := by omega
  have j1 : (k : Int) < (l.length : Int) := by omega
  have hgl := hR.lt
  have hpl := hI1.lt
  have HOwn1 : Hid (∀ k, O k → k < w.heap.size) := HI.out.own
  have HMine : Hid (O p) := HI.out.mine
  have HSub : Hid (∀ k, (Value.slice (some ⟨g, 0, none⟩) l.length cap).ownBlock = some k → O k) := hsub
  have HX : Hid (Box6 w1 w.heap.size noMl) := hX
  have HI1 : Hid (MailIn O w1 p o l) := hI1
  generalize hB : w.heap.size = B at hX HX ⊢
  have HB : Hid (w.heap.size = B) := hB
  have HW1 : Hid _ := hw1
  have HKK : Hid _ := hkk
  clear hb1 hB hw1 hI1 hrow hsub hR hcell hfl hX hkk
  go_upto_region 5 with fail
  have hb2 : Below w1.heap.size w1 (w1.alloc (.cells #[.int .i64 m.kind, .int .i64 m.deal, .int .i64 m.shop, .int .i64 m.c, .int .i64 m.d, .bool m.yes] 71)) := (Below.refl _ _).alloc (Nat.le_refl _) _
  have hX2 := Box6.new w1 m
  have hX1 := HX.out.next hb2
  have hI2 := HI1.out.next hb2
  have HRow2 : Hid ((w1.alloc (.cells #[.int .i64 m.kind, .int .i64 m.deal, .int .i64 m.shop, .int .i64 m.c, .int .i64 m.d, .bool m.yes] 71)).ownsRow (p + 1) 71 6 (.slice (some ⟨g, 0, none⟩) l.length cap) l.length (flat6 l)) := own_next HRow.out hb2
  have g0 : (w1.alloc (.cells #[.int .i64 m.kind, .int .i64 m.deal, .int .i64 m.shop, .int .i64 m.c, .int .i64 m.d, .bool m.yes] 71)).cell? ⟨p, o, none⟩ = some (.slice (some ⟨g, 0, none⟩) l.length cap) := ((bcell hb2).1 _ _ hpl).trans c0
  have hw2 := after HW1.out hb2 HW1.out.size
  have HB2 : Hid (B ≤ w1.heap.size ∧ g < w1.heap.size) := ⟨by have := HW1.out.size; have := HB.out; omega, hgl⟩
  generalize (w1.alloc (.cells #[.int .i64 m.kind, .int .i64 m.deal, .int .i64 m.shop, .int .i64 m.c, .int .i64 m.d, .bool m.yes] 71)) = w2 at *
  generalize w1.heap.size = B2 at hX2 HB2 ⊢
  have HX2 : Hid (Box6 w2 B2 m) := hX2
  have HX1 : Hid (Box6 w2 B noMl) := hX1
  have HW2 : Hid (Below w.heap.size w w2) := hw2
  have hf2 := hI2.loose
  have hpl2 := hI2.lt
  have HG : Hid (O g) := HSub.out g rfl
  have HGP : Hid (p + 1 ≤ g) := (HRow2.out.lt g rfl).1
  clear HX HI1 HRow c0 p0 p1 p2 p3 p4 p5 HW1 hX1 hX2 hw2 hb2 hgl hpl hI2
  have j2 : (l.length : Int) < 1000 := by have := HL.out; omega
  go_wp2_with fail
  refine Calls.mono (pdel_any (p + 1) l k g cap l.length rfl hk w2 HRow2.out HL.out) ?_
  rintro e w3 ⟨rfl, hrow3, hS3⟩
  have hgp := HGP.out
  have HGB : Hid (g ≠ B ∧ g ≠ B2) := ⟨by have := HOwn1.out g HG.out; have := HB.out; omega, by have := HB2.out; omega⟩
  obtain ⟨_, x0, x1, x2, x3, x4, x5, xl⟩ := HX2.out.save hS3 (fun e => HGB.out.2 e.symm)
  obtain ⟨_, b0, b1, b2, b3, b4, b5, bl⟩ := HX1.out.save hS3 (fun e => HGB.out.1 e.symm)
  have q0 : w3.cell? ⟨p, o, none⟩ = some (.slice (some ⟨g, 0, none⟩) l.length cap) := (hS3.cell (p := ⟨p, o, none⟩) hpl2 (fun e => by simp only at e; omega)).trans g0
  have qf : ∀ k, w3.frozen? ⟨p, k, none⟩ = false := fun k => (hS3.frozen (p := ⟨p, k, none⟩) hpl2 (fun e => by simp only at e; omega)).trans (hf2 k)
  have hSw : Save O w w3 := (Save.of_below HW2.out).trans hS3 (fun j _ e => by rw [e]; exact HG.out)
  have hRw : Rest p o w w3 := (Rest.below HW2.out (HOwn1.out p HMine.out)).trans (fun j _ => hS3.cell (p := ⟨p, j, none⟩) hpl2 (fun e => by simp only at e; omega))
  have HSe : Hid (Sent O w (put6 (w3.setCell ⟨p, o, none⟩ (.slice (some ⟨g, 0, none⟩) (l.length - 1) cap)) B m) p o (l.eraseIdx k)) := by
    refine sent_put HOwn1.out HMine.out hSw hRw qf q0 ?_ (fun k hk => .inl ?_) (Nat.le_of_eq HB.out) (fun e => HGB.out.1 (Option.some.inj e))
    · rw [List.length_eraseIdx, if_pos hk]; exact hrow3
    · rw [← Option.some.inj hk]; exact HG.out
  have hpB : p ≠ B := by have := HOwn1.out p HMine.out; have := HB.out; omega
  have hpB2 : p ≠ B2 := by have := HOwn1.out p HMine.out; have := HB.out; have := HB2.out; omega
  clear hSw hRw hS3 hrow3 HX1 HX2 HRow2 g0 hf2 HW2 HB2 HGB HG
  go_wp2_with fail
  refine bodyPost_ret (v := .tuple #[mlV m, .bool true]) (by simp [results, Try.results34, go_sem, b0, b1, b2, b3, b4, b5, mlV]) rfl ⟨rfl, ?_⟩
  rw [HKK.out]
  exact HSe.out

set_option maxHeartbeats 1000000 in
theorem pdbl_none (O : Nat → Prop) (p o : Nat) (n : Int) (w : World) (h : MailIn O w p o []) :
    Calls Try.prog 36 #[.pointer (some ⟨p, o, none⟩), .int .i64 n] w fun e w' => e = .returned (.bool false) ∧ Below w.heap.size w w' := by
  have HI : Hid (MailIn O w p o []) := h
  clear h
  go_enter Try.func36, Try.ntmps36
  go_wp2_with fail
  refine Calls.mono (pplace_none O p o n _ HI.out) ?_
  rintro e w1 ⟨rfl, hb1⟩
  go_wp2_with fail
  go_ret
  exact ⟨rfl, hb1⟩
set_option maxHeartbeats 2000000 in
theorem pdbl_some (O : Nat → Prop) (l : List Ml) (p o : Nat) (n : Int) (m : Ml) (w : World) (h : MailIn O w p o l) (hl : l.length < 1000) (hm : l[rnd n l.length]? = some m) :
    Calls Try.prog 36 #[.pointer (some ⟨p, o, none⟩), .int .i64 n] w fun e w' => e = .returned (.bool (sendR l m).1) ∧ Sent O w w' p o (sendR l m).2 := by
  have HI : Hid (MailIn O w p o l) := h
  have HL : Hid (l.length < 1000) := hl
  have hk := (List.getElem?_eq_some_iff.1 hm).1
  have HM : Hid _ := hm
  clear h hl hm
  go_enter Try.func36, Try.ntmps36
  go_wp2_with fail
  refine Calls.mono (pplace_any O l p o n _ HI.out HL.out (by intro e; rw [e] at hk; simp at hk)) ?_
  rintro e w1 ⟨rfl, hb1⟩
  have hI1 := HI.out.next hb1
  obtain ⟨mv, c0, hrow, hsub⟩ := hI1.raw
  obtain ⟨g, cap, rfl⟩ := own_some hrow (by omega)
  obtain ⟨_, hR, hnc, _, hcell⟩ := own_row hrow
  have hfl := flat6_at l _ m HM.out
  generalize rnd n l.length = k at *
  have p0 : w1.cell? ⟨g, k * 6, none⟩ = some (.int .i64 m.kind) := hcell _ _ (hfl 0 _ rfl)
  have p1 : w1.cell? ⟨g, k * 6 + 1, none⟩ = some (.int .i64 m.deal) := hcell _ _ (hfl 1 _ rfl)
  have p2 : w1.cell? ⟨g, k * 6 + 2, none⟩ = some (.int .i64 m.shop) := hcell _ _ (hfl 2 _ rfl)
  have p3 : w1.cell? ⟨g, k * 6 + 3, none⟩ = some (.int .i64 m.c) := hcell _ _ (hfl 3 _ rfl)
  have p4 : w1.cell? ⟨g, k * 6 + 4, none⟩ = some (.int .i64 m.d) := hcell _ _ (hfl 4 _ rfl)
  have p5 : w1.cell? ⟨g, k * 6 + 5, none⟩ = some (.bool m.yes) := hcell _ _ (hfl 5 _ rfl)
  have j0 : (0 : Int) ≤ (k : Int) := by omega
  have j1 : (k : Int) < (l.length : Int) := by omega
  have HI1 : Hid (MailIn O w1 p o l) := hI1
  have HB1 : Hid _ := hb1
  clear hb1 hI1 hrow hsub hR hcell hfl
  go_wp2_with fail
  refine Calls.mono (psend_any O l p o m w1 HI1.out HL.out) ?_
  rintro e w2 ⟨rfl, hs⟩
  have HS : Hid _ := Sent.behind HI.out HB1.out hs
  clear hs

  go_wp2_with fail
  go_ret
  exact ⟨rfl, HS.out⟩

end Go.Proofs.Ytbgnajcmhmpjlab
