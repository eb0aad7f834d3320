/- A post, and the document's bag, as memory holds them: one cell, the head of a row of mails. -/
import Derived.Test.YtbgnajcmhmpjlabMBox
namespace Go.Proofs.Ytbgnajcmhmpjlab
open Go.RowKit

/-- A post, or a bag, whose mails are l, at the place o of the block p, in blocks of O. -/
structure MailIn (O : Nat → Prop) (w : World) (p o : Nat) (l : List Ml) : Prop where
  own : ∀ k, O k → k < w.heap.size
  mine : O p
  loose : ∀ k, w.frozen? ⟨p, k, none⟩ = false
  raw : ∃ mv, w.cell? ⟨p, o, none⟩ = some mv ∧ w.ownsRow (p + 1) 71 6 mv l.length (flat6 l) ∧ ∀ k, mv.ownBlock = some k → O k
/-- All other cells of the block p are as they were. -/
def Rest (p o : Nat) (w w' : World) : Prop := ∀ j, j ≠ o → w'.cell? ⟨p, j, none⟩ = w.cell? ⟨p, j, none⟩
theorem Rest.refl (p o : Nat) (w : World) : Rest p o w w := fun _ _ => rfl
theorem Rest.trans {p o : Nat} {a b c : World} (h : Rest p o a b) (k : Rest p o b c) : Rest p o a c := fun j hj => (k j hj).trans (h j hj)
theorem Rest.below {p o : Nat} {a b : World} (h : Below a.heap.size a b) (hp : p < a.heap.size) : Rest p o a b := fun j _ => h.cell (p := ⟨p, j, none⟩) hp
theorem Rest.set {p o : Nat} (a : World) (u : Value) : Rest p o a (a.setCell ⟨p, o, none⟩ u) := fun _ hj => cell_set_off hj
theorem Rest.grown {p o : Nat} {a b : World} {row : Option Nat} (h : a.grownBy b row) (hp : p < a.heap.size) (hn : some p ≠ row) : Rest p o a b := fun _ _ => World.cell?_of_block (h.block p hp hn)

theorem MailIn.lt {O : Nat → Prop} {w : World} {p o : Nat} {l : List Ml} (h : MailIn O w p o l) : p < w.heap.size := h.own p h.mine
theorem MailIn.save {O O' : Nat → Prop} {w w1 : World} {p o : Nat} {l : List Ml} (h : MailIn O w p o l) (hb : Save O' w w1) (hn : ∀ k, O k → ¬ O' k) : MailIn O w1 p o l := by
  obtain ⟨mv, h1, h2, h3⟩ := h.raw
  have hl := h.lt
  exact ⟨fun k hk => Nat.lt_of_lt_of_le (h.own k hk) hb.size, h.mine, fun k => (hb.frozen (p := ⟨p, k, none⟩) hl (hn p h.mine)).trans (h.loose k), mv, (hb.cell (p := ⟨p, o, none⟩) hl (hn p h.mine)).trans h1, own_save h2 hb (fun k hk => hn k (h3 k hk)), h3⟩
theorem MailIn.next {O : Nat → Prop} {w w1 : World} {p o : Nat} {l : List Ml} (h : MailIn O w p o l) (hb : Below w.heap.size w w1) : MailIn O w1 p o l :=
  h.save (O' := fun _ => False) (.of_below hb) (fun _ _ q => q)
theorem MailIn.wide {O O' : Nat → Prop} {w : World} {p o : Nat} {l : List Ml} (h : MailIn O w p o l) (hO : ∀ k, O k → O' k) (hl : ∀ k, O' k → k < w.heap.size) : MailIn O' w p o l := by
  obtain ⟨mv, h1, h2, h3⟩ := h.raw
  exact ⟨hl, hO p h.mine, h.loose, mv, h1, h2, fun k hk => hO k (h3 k hk)⟩
/-- What a step leaves: the mails are l', all but O is as it was, all other cells of p are. -/
def Sent (O : Nat → Prop) (w w' : World) (p o : Nat) (l' : List Ml) : Prop := ∃ O', MailIn O' w' p o l' ∧ Save O w w' ∧ Moved O O' w ∧ Rest p o w w'
theorem Sent.stay {O : Nat → Prop} {w w' : World} {p o : Nat} {l : List Ml} (h : MailIn O w p o l) (hb : Below w.heap.size w w') : Sent O w w' p o l := ⟨O, h.next hb, .of_below hb, .refl _ _, .below hb h.lt⟩
/-- A step behind a call that made memory alone. -/
theorem Sent.behind {O : Nat → Prop} {w w1 w' : World} {p o : Nat} {l l' : List Ml} (h : MailIn O w p o l) (hb : Below w.heap.size w w1) (hs : Sent O w1 w' p o l') : Sent O w w' p o l' := by
  obtain ⟨O', h1, h2, h3, h4⟩ := hs
  exact ⟨O', h1, (Save.of_below hb).trans h2 (fun _ _ hj => hj), fun k hk => (h3 k hk).imp id (fun q => Nat.le_trans hb.size q), (Rest.below hb h.lt).trans h4⟩
/-- A new row's head is stored. -/
theorem sent_store {O : Nat → Prop} {w w8 : World} {p o : Nat} {l' : List Ml} {mv v8 : Value} (hO : ∀ k, O k → k < w.heap.size) (hm : O p) (hS : Save O w w8) (hR : Rest p o w w8) (hf : ∀ k, w8.frozen? ⟨p, k, none⟩ = false) (hc : w8.cell? ⟨p, o, none⟩ = some mv) (hrow : w8.ownsRow (p + 1) 71 6 v8 l'.length (flat6 l')) (hw : ∀ k, v8.ownBlock = some k → O k ∨ w.heap.size ≤ k) : Sent O w (w8.setCell ⟨p, o, none⟩ v8) p o l' := by
  refine ⟨fun k => O k ∨ v8.ownBlock = some k, ⟨fun k hk => ?_, .inl hm, by simpa [go_sem] using hf, v8, cell_set_same hc, ownsRow_setCell_below hrow (Nat.lt_succ_self p) _, fun k hk => .inr hk⟩, hS.setCell (p := ⟨p, o, none⟩) (fun _ => hm) _, fun k hk => hk.elim .inl (hw k), hR.trans (Rest.set _ _)⟩
  show k < (w8.setCell _ _).heap.size
  rw [show (w8.setCell (⟨p, o, none⟩ : Addr) v8).heap.size = w8.heap.size by simp]
  rcases hk with hk | hk
  · exact Nat.lt_of_lt_of_le (hO k hk) hS.size
  · exact (hrow.lt k hk).2

def mlV (m : Ml) : Value := .agg #[.int .i64 m.kind, .int .i64 m.deal, .int .i64 m.shop, .int .i64 m.c, .int .i64 m.d, .bool m.yes]
theorem infoMail : (Try.prog.info? 71).map (fun i => (i.zero, i.size, i.bytes)) = some (some (.agg #[.int .i64 0, .int .i64 0, .int .i64 0, .int .i64 0, .int .i64 0, .bool false]), 6, 48) := by kernel_rfl
theorem mail_lies {W : World} {H : Nat} {a b c d e f : Value} (h0 : W.cell? ⟨H, 0, none⟩ = some a) (h1 : W.cell? ⟨H, 1, none⟩ = some b) (h2 : W.cell? ⟨H, 2, none⟩ = some c) (h3 : W.cell? ⟨H, 3, none⟩ = some d) (h4 : W.cell? ⟨H, 4, none⟩ = some e) (h5 : W.cell? ⟨H, 5, none⟩ = some f) : ∀ j u, [a, b, c, d, e, f][j]? = some u → W.cell? ((⟨H, 0, none⟩ : Addr).add j) = some u := by
  intro j u hj
  match j, hj with
  | 0, hj => simp at hj; subst hj; simpa [Addr.add] using h0
  | 1, hj => simp at hj; subst hj; simpa [Addr.add] using h1
  | 2, hj => simp at hj; subst hj; simpa [Addr.add] using h2
  | 3, hj => simp at hj; subst hj; simpa [Addr.add] using h3
  | 4, hj => simp at hj; subst hj; simpa [Addr.add] using h4
  | 5, hj => simp at hj; subst hj; simpa [Addr.add] using h5
  | j + 6, hj => simp at hj
theorem mail_cell {a b c d e : Int} {f : Bool} : ∀ u ∈ [Value.int .i64 a, .int .i64 b, .int .i64 c, .int .i64 d, .int .i64 e, .bool f], u.oneCell' = true := by
  intro u hu
  simp only [List.mem_cons, List.not_mem_nil, or_false] at hu
  rcases hu with rfl | rfl | rfl | rfl | rfl | rfl <;> rfl
theorem eqMl (a b : Ml) (W : World) : (Op.equalIn 10000 71 (.agg #[.int .i64 a.kind, .int .i64 a.deal, .int .i64 a.shop, .int .i64 a.c, .int .i64 a.d, .bool a.yes]) (.agg #[.int .i64 b.kind, .int .i64 b.deal, .int .i64 b.shop, .int .i64 b.c, .int .i64 b.d, .bool b.yes])).run Try.prog W = .ok (eqM a b) W := by
  unfold eqM
  rw [show (10000 : Nat) = 9999 + 1 from rfl]
  simp [Op.eqFields, go_sem]
  repeat' split
  all_goals simp_all

end Go.Proofs.Ytbgnajcmhmpjlab
