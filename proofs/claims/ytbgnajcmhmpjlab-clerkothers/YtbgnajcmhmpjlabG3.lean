/- How a list of mails, and one mail, come in as arguments. -/
import Derived.Test.YtbgnajcmhmpjlabG2

/- The plain mathematics of package post: mail on its way as a list; what Send, Take and Double come to. No program is named here. -/
namespace Go.Proofs.Ytbgnajcmhmpjlab
open Go.RowKit

/-- A mail: kind, deal, shop, the want's counter and delta, yes? -/
structure Ml where
  kind : Int
  deal : Int
  shop : Int
  c : Int
  d : Int
  yes : Bool
def Ml.cells (x : Ml) : List Value := [.int .i64 x.kind, .int .i64 x.deal, .int .i64 x.shop, .int .i64 x.c, .int .i64 x.d, .bool x.yes]
def noMl : Ml := ⟨0, 0, 0, 0, 0, false⟩
def eqM (a b : Ml) : Bool := a.kind == b.kind && (a.deal == b.deal && (a.shop == b.shop && ((a.c == b.c && a.d == b.d) && a.yes == b.yes)))
theorem eqM_iff {a b : Ml} : eqM a b = true ↔ a = b := by
  rcases a with ⟨a1, a2, a3, a4, a5, a6⟩
  rcases b with ⟨b1, b2, b3, b4, b5, b6⟩
  unfold eqM
  simp
  intro _ _ _
  exact and_assoc
/-- The place of the number n among so many: as a number without sign, round by how many there are. -/
def rnd (n : Int) (k : Nat) : Nat := (n % 18446744073709551616).toNat % k
theorem rnd_lt (n : Int) {k : Nat} (h : 0 < k) : rnd n k < k := Nat.mod_lt _ h
/-- Send: is it on its way, and all that is. -/
def sendR (l : List Ml) (m : Ml) : Bool × List Ml := if 40 ≤ l.length then (false, l) else (true, l ++ [m])
/-- Take: the mail, is there one, and all that is left. -/
def takeR (l : List Ml) (n : Int) : Ml × Bool × List Ml := match l[rnd n l.length]? with
  | some m => (m, true, l.eraseIdx (rnd n l.length))
  | none => (noMl, false, l)
def dblR (l : List Ml) (n : Int) : Bool × List Ml := match l[rnd n l.length]? with
  | some m => sendR l m
  | none => (false, l)
theorem takeR_nil (n : Int) : takeR [] n = (noMl, false, []) := rfl
theorem dblR_nil (n : Int) : dblR [] n = (false, []) := rfl
theorem rnd_some {l : List Ml} (n : Int) (h : l ≠ []) : ∃ m, l[rnd n l.length]? = some m :=
  ⟨_, List.getElem?_eq_getElem (rnd_lt n (List.length_pos_iff.2 h))⟩
theorem takeR_some {l : List Ml} {n : Int} {m : Ml} (h : l[rnd n l.length]? = some m) : takeR l n = (m, true, l.eraseIdx (rnd n l.length)) := by unfold takeR; rw [h]
theorem dblR_some {l : List Ml} {n : Int} {m : Ml} (h : l[rnd n l.length]? = some m) : dblR l n = sendR l m := by unfold dblR; rw [h]
theorem erase_split (l : List Ml) (k : Nat) : l.eraseIdx k = l.take k ++ l.drop (k + 1) := List.eraseIdx_eq_take_drop_succ l k
theorem erase_perm {l : List Ml} {k : Nat} {m : Ml} (h : l[k]? = some m) : l.Perm (m :: l.eraseIdx k) := by
  have e : l = l.take k ++ m :: l.drop (k + 1) := by rw [← drop_cons h, List.take_append_drop]
  rw [erase_split]
  exact (List.Perm.of_eq e).trans List.perm_middle
theorem sendR_len (l : List Ml) (m : Ml) (h : l.length ≤ 40) : (sendR l m).2.length ≤ 40 := by
  unfold sendR
  split
  · exact h
  · simp; omega
theorem dblR_len (l : List Ml) (n : Int) (h : l.length ≤ 40) : (dblR l n).2.length ≤ 40 := by
  unfold dblR
  split
  · exact sendR_len l _ h
  · exact h
theorem takeR_len (l : List Ml) (n : Int) (h : l.length ≤ 40) : (takeR l n).2.2.length ≤ 40 := by
  unfold takeR
  split
  · have := List.length_eraseIdx_le l (rnd n l.length)
    show (l.eraseIdx (rnd n l.length)).length ≤ 40
    omega
  · exact h
/-- What was sent and doubled, less what was taken, is what is on its way, in whatever order. -/
theorem perm_take {l left : List Ml} {n : Int} {m : Ml} {k : Nat} (hp : left.Perm l) (h : l[rnd n l.length]? = some m) (hk : left[k]? = some m) : (left.eraseIdx k).Perm (takeR l n).2.2 := by
  rw [takeR_some h]
  have e1 := erase_perm hk
  have e2 := erase_perm h
  exact List.Perm.cons_inv ((e1.symm.trans hp).trans e2)
theorem perm_send {l left : List Ml} {m : Ml} (hp : left.Perm l) : (left ++ [m]).Perm (l ++ [m]) := hp.append_right _
theorem perm_mem {l left : List Ml} {n : Int} {m : Ml} (hp : left.Perm l) (h : l[rnd n l.length]? = some m) : m ∈ left := hp.mem_iff.2 (List.mem_of_getElem? h)

end Go.Proofs.Ytbgnajcmhmpjlab

/- The plain mathematics of package clerk: what a clerk answers, and that asked again it says the same. -/
namespace Go.Proofs.Ytbgnajcmhmpjlab
open Go.RowKit

/-- The records that an ask, and an end, come to. -/
def askS (m : Ml) : Stp := ⟨1, m.deal, m.c, m.d, false⟩
def endS (m : Ml) : Stp := ⟨2, m.deal, 0, 0, m.yes⟩
/-- Answer: the mail, is there one, and the keeper's book behind it. -/
def ansR (no : Int) (K : Kb) (m : Ml) : Ml × Bool × Kb :=
  if m.shop = no then (if m.kind = 1 then (⟨2, m.deal, m.shop, m.c, m.d, (doR K (askS m)).1 == 0⟩, true, (doR K (askS m)).2)
    else if m.kind = 3 then (if (doR K (endS m)).1 = 0 then (⟨4, m.deal, m.shop, m.c, m.d, m.yes⟩, true, (doR K (endS m)).2) else (noMl, false, K)) else (noMl, false, K)) else (noMl, false, K)
theorem ans_shop {no : Int} {K : Kb} {m : Ml} (h : m.shop ≠ no) : ansR no K m = (noMl, false, K) := by unfold ansR; rw [if_neg h]
theorem ans_ask {no : Int} {K : Kb} {m : Ml} (h : m.shop = no) (h1 : m.kind = 1) : ansR no K m = (⟨2, m.deal, m.shop, m.c, m.d, (doR K (askS m)).1 == 0⟩, true, (doR K (askS m)).2) := by unfold ansR; rw [if_pos h, if_pos h1]
theorem ans_end {no : Int} {K : Kb} {m : Ml} (h : m.shop = no) (h3 : m.kind = 3) (hz : (doR K (endS m)).1 = 0) : ansR no K m = (⟨4, m.deal, m.shop, m.c, m.d, m.yes⟩, true, (doR K (endS m)).2) := by unfold ansR; rw [if_pos h, if_neg (by omega), if_pos h3, if_pos hz]
theorem ans_noend {no : Int} {K : Kb} {m : Ml} (h : m.shop = no) (h3 : m.kind = 3) (hz : (doR K (endS m)).1 ≠ 0) : ansR no K m = (noMl, false, K) := by unfold ansR; rw [if_pos h, if_neg (by omega), if_pos h3, if_neg hz]
theorem ans_kind {no : Int} {K : Kb} {m : Ml} (h : m.shop = no) (h1 : m.kind ≠ 1) (h3 : m.kind ≠ 3) : ansR no K m = (noMl, false, K) := by unfold ansR; rw [if_pos h, if_neg h1, if_neg h3]
theorem goodK_ans {A0 : Bk} {K : Kb} (h : GoodK A0 K) (no : Int) (m : Ml) : GoodK A0 (ansR no K m).2.2 := by
  unfold ansR
  split
  · split
    · exact goodK_do h _
    · split
      · split
        · exact goodK_do h _
        · exact h
      · exact h
  · exact h
theorem ans_len (no : Int) (K : Kb) (m : Ml) : (ansR no K m).2.2.rs.length ≤ K.rs.length + 1 := by
  unfold ansR
  split
  · split
    · exact do_len K _
    · split
      · split
        · exact do_len K _
        · exact Nat.le_succ _
      · exact Nat.le_succ _
  · exact Nat.le_succ _
theorem do_code {K : Kb} {r : Stp} (h : (doR K r).1 ≠ 0) : (doR K r).2 = K := by
  rw [doR_fst] at h
  rw [doR_code h]
/-- Once is enough: a record. -/
theorem tell_again {A : Bk} {r : Stp} (h : (tellR A r).1 = 0) : tellR (tellR A r).2 r = (0, (tellR A r).2) := by
  have hw := wrote_new h
  have h2 := hw.again
  obtain ⟨h0, _⟩ := hw
  by_cases e1 : r.what = 1
  · have := @step_again A { r with what := 0 }
    rw [stepR_hold (x := { r with what := 0 }) rfl, stepR_hold (x := { r with what := 0 }) rfl] at this
    rw [tellR_hold h0 e1] at h ⊢
    rw [tellR_hold h0 e1]
    exact this h
  · have := @step_again A { r with what := 1 }
    rw [stepR_end (x := { r with what := 1 }) rfl, stepR_end (x := { r with what := 1 }) rfl] at this
    rw [tellR_end h0 e1] at h ⊢
    rw [tellR_end h0 e1]
    exact this h
theorem note_mem (rs : List Stp) (r : Stp) : r ∈ noteR rs r := by
  unfold noteR
  split
  · rename_i h; exact hasS_iff.1 h
  · simp
theorem do_again {K : Kb} {r : Stp} (h : (doR K r).1 = 0) : doR (doR K r).2 r = (0, (doR K r).2) := by
  rw [doR_fst] at h
  have h2 := tell_again h
  rw [doR_done h]
  have h3 : (tellR (⟨(tellR K.A r).2, noteR K.rs r⟩ : Kb).A r).1 = 0 := by show (tellR (tellR K.A r).2 r).1 = 0; rw [h2]
  rw [doR_done h3]
  show (0, (⟨(tellR (tellR K.A r).2 r).2, noteR (noteR K.rs r) r⟩ : Kb)) = _
  rw [h2, noteR_in (note_mem K.rs r)]
/-- Asked again, it says the same. -/
theorem ans_again (no : Int) (K : Kb) (m : Ml) : ansR no (ansR no K m).2.2 m = ansR no K m := by
  by_cases h : m.shop = no
  · by_cases h1 : m.kind = 1
    · rw [ans_ask (K := K) h h1]
      show ansR no (doR K (askS m)).2 m = _
      rw [ans_ask h h1]
      by_cases hz : (doR K (askS m)).1 = 0
      · rw [do_again hz, hz]
      · rw [do_code hz, do_code hz]
    · by_cases h3 : m.kind = 3
      · by_cases hz : (doR K (endS m)).1 = 0
        · have h2 := do_again hz
          rw [ans_end (K := K) h h3 hz]
          show ansR no (doR K (endS m)).2 m = _
          rw [ans_end h h3 (by rw [h2]), h2]
        · rw [ans_noend (K := K) h h3 hz]
          show ansR no K m = _
          rw [ans_noend h h3 hz]
      · rw [ans_kind (K := K) h h1 h3]
        show ansR no K m = _
        rw [ans_kind h h1 h3]
  · rw [ans_shop (K := K) h]
    show ansR no K m = _
    rw [ans_shop h]
/-- An answer is of the same deal, shop and want. -/
theorem ans_same {no : Int} {K : Kb} {m : Ml} (h : (ansR no K m).2.1 = true) : (ansR no K m).1.deal = m.deal ∧ (ansR no K m).1.shop = no ∧ (ansR no K m).1.c = m.c ∧ (ansR no K m).1.d = m.d ∧ m.shop = no := by
  by_cases hs : m.shop = no
  · by_cases h1 : m.kind = 1
    · rw [ans_ask hs h1]; exact ⟨rfl, hs, rfl, rfl, hs⟩
    · by_cases h3 : m.kind = 3
      · by_cases hz : (doR K (endS m)).1 = 0
        · rw [ans_end hs h3 hz]; exact ⟨rfl, hs, rfl, rfl, hs⟩
        · rw [ans_noend hs h3 hz] at h; cases h
      · rw [ans_kind hs h1 h3] at h; cases h
  · rw [ans_shop hs] at h; cases h
theorem over_mem {es : List (Int × Bool)} {x : Int} {b : Bool} (h : over es x = some b) : (x, b) ∈ es := by
  induction es with
  | nil => cases h
  | cons e r ih =>
    unfold over at h
    split at h
    · rename_i he
      have hb := Option.some.inj h
      obtain ⟨e0, e1⟩ := e
      simp only at he hb
      rw [he, hb]
      exact List.mem_cons_self
    · exact List.mem_cons_of_mem _ (ih h)
theorem over_range {A : Bk} (hG : Good A) {x : Int} {b : Bool} (h : over A.es x = some b) : 0 ≤ x ∧ x < 8 := hG.ends _ (over_mem h)
/-- An end that was told otherwise is not answered. -/
theorem ans_other {no : Int} {K : Kb} {m : Ml} {b : Bool} (hG : Good K.A) (h3 : m.kind = 3) (ho : over K.A.es m.deal = some b) (hb : b ≠ m.yes) : ansR no K m = (noMl, false, K) := by
  by_cases h : m.shop = no
  · refine ans_noend h h3 ?_
    rw [doR_fst, tellR_end (r := endS m) (by rfl) (by show (2 : Int) ≠ 1; decide)]
    obtain ⟨d0, d8⟩ : 0 ≤ m.deal ∧ m.deal < 8 := over_range hG ho
    show (endR K.A m.deal m.yes).1 ≠ 0
    rw [endR_over d0 d8 ho, if_neg hb]
    show (9 : Int) ≠ 0
    decide
  · exact ans_shop h
/-- A say of Yes is of what is held, and was over never. -/
theorem ask_yes {K : Kb} {m : Ml} (h : (doR K (askS m)).1 = 0) : (m.deal, m.c, m.d) ∈ (doR K (askS m)).2.A.hs ∧ over K.A.es m.deal = none := by
  rw [doR_fst] at h
  rw [doR_book]
  rw [tellR_hold (r := askS m) (by rfl) (by rfl)] at h ⊢
  rcases holdR_cases K.A (askS m).deal (askS m).c (askS m).d with ⟨hc, e⟩ | ⟨hc, k, hk, _, ⟨y, hy, e⟩ | ⟨_, hz, e⟩ | ⟨hf, hz, e⟩⟩
  · rw [e] at h; exact absurd h hc
  · rw [e] at h
    have h' : (if y.2.2 = m.d then (0 : Int) else 9) = 0 := h
    refine ⟨?_, (chkS_zero hc).2.2.2.2⟩
    rw [e]
    show (m.deal, m.c, m.d) ∈ K.A.hs
    have hm := List.mem_of_find?_eq_some hy
    have hs := List.find?_some hy
    unfold same at hs
    simp only [Bool.and_eq_true, beq_iff_eq] at hs
    by_cases q : y.2.2 = m.d
    · have : y = (m.deal, m.c, m.d) := by
        obtain ⟨y0, y1, y2⟩ := y
        simp only at hs q
        rw [hs.1, hs.2, q]; rfl
      rw [← this]; exact hm
    · rw [if_neg q] at h'; omega
  · rw [e] at h; exact absurd h hz
  · refine ⟨?_, (chkS_zero hc).2.2.2.2⟩
    rw [e]
    show (m.deal, m.c, m.d) ∈ K.A.hs ++ [(m.deal, m.c, m.d)]
    simp

end Go.Proofs.Ytbgnajcmhmpjlab

/- How mails lie in memory. -/
namespace Go.Proofs.Ytbgnajcmhmpjlab
open Go.RowKit

/-- A list of mails as memory holds it. -/
def MailsAt (w : World) (la : Option Addr) (l : List Ml) : Prop := ∀ k x, l[k]? = some x → ∃ b off, la = some ⟨b, off, none⟩ ∧ b < w.heap.size ∧ ∀ j v, x.cells[j]? = some v → w.cell? ⟨b, off + k * 6 + j, none⟩ = some v
theorem MailsAt.below {w w' : World} {B : Nat} {la : Option Addr} {l : List Ml} (h : MailsAt w la l) (hb : Below B w w') (hB : w.heap.size ≤ B) : MailsAt w' la l := by
  intro k x hk
  obtain ⟨b, off, e, hlt, h0⟩ := h k x hk
  have hb' : b < B := by omega
  exact ⟨b, off, e, Nat.lt_of_lt_of_le hlt hb.size, fun j v hj => (hb.cell (p := ⟨b, _, none⟩) hb').trans (h0 j v hj)⟩
/-- A list of mails, cell by cell. -/
def flat6 (l : List Ml) : List Value := l.flatMap Ml.cells
theorem flat6_length (l : List Ml) : (flat6 l).length = l.length * 6 := by
  unfold flat6
  induction l with
  | nil => rfl
  | cons x r ih => rw [List.flatMap_cons, List.length_append, ih]; simp [Ml.cells]; omega
theorem flat6_append (l m : List Ml) : flat6 (l ++ m) = flat6 l ++ flat6 m := by unfold flat6; simp
theorem flat6_snoc (l : List Ml) (x : Ml) : flat6 (l ++ [x]) = flat6 l ++ x.cells := by unfold flat6; simp
theorem flat6_at (l : List Ml) : ∀ k x, l[k]? = some x → ∀ j v, x.cells[j]? = some v → (flat6 l)[k * 6 + j]? = some v := by
  intro k x h j v hj
  have hk := (List.getElem?_eq_some_iff.1 h).1
  have hj6 : j < 6 := (List.getElem?_eq_some_iff.1 hj).1
  have e : l = l.take k ++ x :: l.drop (k + 1) := by rw [← drop_cons h, List.take_append_drop]
  have hl : (flat6 (l.take k)).length = k * 6 := by rw [flat6_length, List.length_take, Nat.min_eq_left (by omega)]
  have e2 : flat6 l = flat6 (l.take k) ++ (x.cells ++ flat6 (l.drop (k + 1))) := by
    conv => lhs; rw [e]
    rw [flat6_append]
    rfl
  rw [e2, List.getElem?_append_right (by omega), hl, show k * 6 + j - k * 6 = j by omega, List.getElem?_append_left (by simpa [Ml.cells] using hj6)]
  exact hj
theorem flat6_one (l : List Ml) : ∀ u ∈ flat6 l, u.oneCell' = true := by
  intro u hu
  unfold flat6 at hu
  rw [List.mem_flatMap] at hu
  obtain ⟨x, _, hx⟩ := hu
  simp only [Ml.cells, List.mem_cons, List.not_mem_nil, or_false] at hx
  rcases hx with rfl | rfl | rfl | rfl | rfl | rfl <;> rfl
theorem mails_of_own {w : World} {B e n : Nat} {v : Value} {l : List Ml} (h : w.ownsRow B e 6 v n (flat6 l)) : ∃ ga cap, v = .slice ga n cap ∧ MailsAt w ga l ∧ l.length = n := by
  have hn : l.length = n := by have := h.1; rw [flat6_length] at this; omega
  rcases h.2 with ⟨e1, e0⟩ | ⟨g, cap, cur, e1, hb, hg, hc, hm, hz, ht⟩
  · refine ⟨none, 0, by rw [e1, e0], ?_, hn⟩
    intro k x hk
    have := (List.getElem?_eq_some_iff.1 hk).1
    omega
  · refine ⟨_, cap, e1, fun k x hk => ⟨g, 0, rfl, (Array.getElem?_eq_some_iff.1 hg).1, fun j u hj => ?_⟩, hn⟩
    have hk' := (List.getElem?_eq_some_iff.1 hk).1
    have hj6 : j < 6 := (List.getElem?_eq_some_iff.1 hj).1
    have hu := flat6_at l k x hk j u hj
    have h1 : (cur.toList.take (n * 6))[k * 6 + j]? = (flat6 l)[k * 6 + j]? := by rw [ht]
    rw [List.getElem?_take_of_lt (by omega), hu] at h1
    simp only [World.cell?, hg]
    simpa using h1
theorem MailsAt.save {O : Nat → Prop} {w w' : World} {la : Option Addr} {l : List Ml} (h : MailsAt w la l) (hb : Save O w w') (hn : ∀ a, la = some a → ¬ O a.block) : MailsAt w' la l := by
  intro k x hk
  obtain ⟨b, off, e, hlt, h0⟩ := h k x hk
  have hn' : ¬ O b := hn _ e
  exact ⟨b, off, e, Nat.lt_of_lt_of_le hlt hb.size, fun j v hj => (hb.cell (p := ⟨b, _, none⟩) hlt hn').trans (h0 j v hj)⟩

end Go.Proofs.Ytbgnajcmhmpjlab

/- A post, and the document's bag, as memory holds them: one cell, the head of a row of mails. -/
namespace Go.Proofs.Ytbgnajcmhmpjlab
open Go.RowKit

/-- A post, or a bag, whose mails are l, at the place o of the block p, in blocks of O. -/
structure MailIn (O : Nat → Prop) (w : World) (p o : Nat) (l : List Ml) : Prop where
  own : ∀ k, O k → k < w.heap.size
  mine : O p
  loose : ∀ k, w.frozen? ⟨p, k, none⟩ = false
  raw : ∃ mv, w.cell? ⟨p, o, none⟩ = some mv ∧ w.ownsRow (p + 1) 71 6 mv l.length (flat6 l) ∧ ∀ k, mv.ownBlock = some k → O k
/-- All other cells of the block p are as they were. -/
def Rest (p o : Nat) (w w' : World) : Prop := ∀ j, j ≠ o → w'.cell? ⟨p, j, none⟩ = w.cell? ⟨p, j, none⟩
theorem Rest.refl (p o : Nat) (w : World) : Rest p o w w := fun _ _ => rfl
theorem Rest.trans {p o : Nat} {a b c : World} (h : Rest p o a b) (k : Rest p o b c) : Rest p o a c := fun j hj => (k j hj).trans (h j hj)
theorem Rest.below {p o : Nat} {a b : World} (h : Below a.heap.size a b) (hp : p < a.heap.size) : Rest p o a b := fun j _ => h.cell (p := ⟨p, j, none⟩) hp
theorem Rest.set {p o : Nat} (a : World) (u : Value) : Rest p o a (a.setCell ⟨p, o, none⟩ u) := fun _ hj => cell_set_off hj
theorem Rest.grown {p o : Nat} {a b : World} {row : Option Nat} (h : a.grownBy b row) (hp : p < a.heap.size) (hn : some p ≠ row) : Rest p o a b := fun _ _ => World.cell?_of_block (h.block p hp hn)

theorem MailIn.lt {O : Nat → Prop} {w : World} {p o : Nat} {l : List Ml} (h : MailIn O w p o l) : p < w.heap.size := h.own p h.mine
theorem MailIn.save {O O' : Nat → Prop} {w w1 : World} {p o : Nat} {l : List Ml} (h : MailIn O w p o l) (hb : Save O' w w1) (hn : ∀ k, O k → ¬ O' k) : MailIn O w1 p o l := by
  obtain ⟨mv, h1, h2, h3⟩ := h.raw
  have hl := h.lt
  exact ⟨fun k hk => Nat.lt_of_lt_of_le (h.own k hk) hb.size, h.mine, fun k => (hb.frozen (p := ⟨p, k, none⟩) hl (hn p h.mine)).trans (h.loose k), mv, (hb.cell (p := ⟨p, o, none⟩) hl (hn p h.mine)).trans h1, own_save h2 hb (fun k hk => hn k (h3 k hk)), h3⟩
theorem MailIn.next {O : Nat → Prop} {w w1 : World} {p o : Nat} {l : List Ml} (h : MailIn O w p o l) (hb : Below w.heap.size w w1) : MailIn O w1 p o l :=
  h.save (O' := fun _ => False) (.of_below hb) (fun _ _ q => q)
theorem MailIn.wide {O O' : Nat → Prop} {w : World} {p o : Nat} {l : List Ml} (h : MailIn O w p o l) (hO : ∀ k, O k → O' k) (hl : ∀ k, O' k → k < w.heap.size) : MailIn O' w p o l := by
  obtain ⟨mv, h1, h2, h3⟩ := h.raw
  exact ⟨hl, hO p h.mine, h.loose, mv, h1, h2, fun k hk => hO k (h3 k hk)⟩
/-- What a step leaves: the mails are l', all but O is as it was, all other cells of p are. -/
def Sent (O : Nat → Prop) (w w' : World) (p o : Nat) (l' : List Ml) : Prop := ∃ O', MailIn O' w' p o l' ∧ Save O w w' ∧ Moved O O' w ∧ Rest p o w w'
theorem Sent.stay {O : Nat → Prop} {w w' : World} {p o : Nat} {l : List Ml} (h : MailIn O w p o l) (hb : Below w.heap.size w w') : Sent O w w' p o l := ⟨O, h.next hb, .of_below hb, .refl _ _, .below hb h.lt⟩
/-- A step behind a call that made memory alone. -/
theorem Sent.behind {O : Nat → Prop} {w w1 w' : World} {p o : Nat} {l l' : List Ml} (h : MailIn O w p o l) (hb : Below w.heap.size w w1) (hs : Sent O w1 w' p o l') : Sent O w w' p o l' := by
  obtain ⟨O', h1, h2, h3, h4⟩ := hs
  exact ⟨O', h1, (Save.of_below hb).trans h2 (fun _ _ hj => hj), fun k hk => (h3 k hk).imp id (fun q => Nat.le_trans hb.size q), (Rest.below hb h.lt).trans h4⟩
/-- A new row's head is stored. -/
theorem sent_store {O : Nat → Prop} {w w8 : World} {p o : Nat} {l' : List Ml} {mv v8 : Value} (hO : ∀ k, O k → k < w.heap.size) (hm : O p) (hS : Save O w w8) (hR : Rest p o w w8) (hf : ∀ k, w8.frozen? ⟨p, k, none⟩ = false) (hc : w8.cell? ⟨p, o, none⟩ = some mv) (hrow : w8.ownsRow (p + 1) 71 6 v8 l'.length (flat6 l')) (hw : ∀ k, v8.ownBlock = some k → O k ∨ w.heap.size ≤ k) : Sent O w (w8.setCell ⟨p, o, none⟩ v8) p o l' := by
  refine ⟨fun k => O k ∨ v8.ownBlock = some k, ⟨fun k hk => ?_, .inl hm, by simpa [go_sem] using hf, v8, cell_set_same hc, ownsRow_setCell_below hrow (Nat.lt_succ_self p) _, fun k hk => .inr hk⟩, hS.setCell (p := ⟨p, o, none⟩) (fun _ => hm) _, fun k hk => hk.elim .inl (hw k), hR.trans (Rest.set _ _)⟩
  show k < (w8.setCell _ _).heap.size
  rw [show (w8.setCell (⟨p, o, none⟩ : Addr) v8).heap.size = w8.heap.size by simp]
  rcases hk with hk | hk
  · exact Nat.lt_of_lt_of_le (hO k hk) hS.size
  · exact (hrow.lt k hk).2

def mlV (m : Ml) : Value := .agg #[.int .i64 m.kind, .int .i64 m.deal, .int .i64 m.shop, .int .i64 m.c, .int .i64 m.d, .bool m.yes]
theorem infoMail : (Try.prog.info? 71).map (fun i => (i.zero, i.size, i.bytes)) = some (some (.agg #[.int .i64 0, .int .i64 0, .int .i64 0, .int .i64 0, .int .i64 0, .bool false]), 6, 48) := by kernel_rfl
theorem mail_lies {W : World} {H : Nat} {a b c d e f : Value} (h0 : W.cell? ⟨H, 0, none⟩ = some a) (h1 : W.cell? ⟨H, 1, none⟩ = some b) (h2 : W.cell? ⟨H, 2, none⟩ = some c) (h3 : W.cell? ⟨H, 3, none⟩ = some d) (h4 : W.cell? ⟨H, 4, none⟩ = some e) (h5 : W.cell? ⟨H, 5, none⟩ = some f) : ∀ j u, [a, b, c, d, e, f][j]? = some u → W.cell? ((⟨H, 0, none⟩ : Addr).add j) = some u := by
  intro j u hj
  match j, hj with
  | 0, hj => simp at hj; subst hj; simpa [Addr.add] using h0
  | 1, hj => simp at hj; subst hj; simpa [Addr.add] using h1
  | 2, hj => simp at hj; subst hj; simpa [Addr.add] using h2
  | 3, hj => simp at hj; subst hj; simpa [Addr.add] using h3
  | 4, hj => simp at hj; subst hj; simpa [Addr.add] using h4
  | 5, hj => simp at hj; subst hj; simpa [Addr.add] using h5
  | j + 6, hj => simp at hj
theorem mail_cell {a b c d e : Int} {f : Bool} : ∀ u ∈ [Value.int .i64 a, .int .i64 b, .int .i64 c, .int .i64 d, .int .i64 e, .bool f], u.oneCell' = true := by
  intro u hu
  simp only [List.mem_cons, List.not_mem_nil, or_false] at hu
  rcases hu with rfl | rfl | rfl | rfl | rfl | rfl <;> rfl
theorem eqMl (a b : Ml) (W : World) : (Op.equalIn 10000 71 (.agg #[.int .i64 a.kind, .int .i64 a.deal, .int .i64 a.shop, .int .i64 a.c, .int .i64 a.d, .bool a.yes]) (.agg #[.int .i64 b.kind, .int .i64 b.deal, .int .i64 b.shop, .int .i64 b.c, .int .i64 b.d, .bool b.yes])).run Try.prog W = .ok (eqM a b) W := by
  unfold eqM
  rw [show (10000 : Nat) = 9999 + 1 from rfl]
  simp [Op.eqFields, go_sem]
  repeat' split
  all_goals simp_all

end Go.Proofs.Ytbgnajcmhmpjlab

/- How a clerk lies in memory: its own block, and its keeper. -/
namespace Go.Proofs.Ytbgnajcmhmpjlab
open Go.RowKit

/-- A clerk's own block: where its keeper is, its number. -/
structure ClkRaw (w : World) (c q : Nat) (no : Int) : Prop where
  lt : c < w.heap.size
  c0 : w.cell? ⟨c, 0, none⟩ = some (.pointer (some ⟨q, 0, none⟩))
  c1 : w.cell? ⟨c, 1, none⟩ = some (.int .i64 no)
  loose : ∀ k, w.frozen? ⟨c, k, none⟩ = false
theorem ClkRaw.save {O : Nat → Prop} {w w1 : World} {c q : Nat} {no : Int} (h : ClkRaw w c q no) (hb : Save O w w1) (hn : ¬ O c) : ClkRaw w1 c q no := by
  have hl := h.lt
  have e : ∀ o, w1.cell? ⟨c, o, none⟩ = w.cell? ⟨c, o, none⟩ := fun o => hb.cell (p := ⟨c, o, none⟩) hl hn
  exact ⟨Nat.lt_of_lt_of_le hl hb.size, (e _).trans h.c0, (e _).trans h.c1, fun k => (hb.frozen (p := ⟨c, k, none⟩) hl hn).trans (h.loose k)⟩
theorem craw_new (w : World) (q : Nat) (no : Int) (t : TypeId) : ClkRaw (w.alloc (.cells #[.pointer (some ⟨q, 0, none⟩), .int .i64 no] t)) w.heap.size q no :=
  ⟨by simp, by simp [go_sem], by simp [go_sem], by simp [go_sem]⟩
/-- A clerk whose keeper's book is K, in blocks of O. -/
structure ClkIn (O : Nat → Prop) (w : World) (c : Nat) (no : Int) (ws : Nat → Int) (K : Kb) : Prop where
  own : ∀ k, O k → k < w.heap.size
  mine : O c
  raw : ∃ (Ok : Nat → Prop) (q : Nat), ClkRaw w c q no ∧ KeepIn Ok w q no ws K ∧ (∀ k, Ok k → O k) ∧ ¬ Ok c
theorem ClkIn.save {O O' : Nat → Prop} {w w1 : World} {c : Nat} {no : Int} {ws : Nat → Int} {K : Kb} (h : ClkIn O w c no ws K) (hb : Save O' w w1) (hn : ∀ k, O k → ¬ O' k) : ClkIn O w1 c no ws K := by
  obtain ⟨Ok, q, h1, h2, h3, h4⟩ := h.raw
  exact ⟨fun k hk => Nat.lt_of_lt_of_le (h.own k hk) hb.size, h.mine, Ok, q, h1.save hb (hn c h.mine), h2.save hb (fun k hk => hn k (h3 k hk)), h3, h4⟩
theorem ClkIn.next {O : Nat → Prop} {w w1 : World} {c : Nat} {no : Int} {ws : Nat → Int} {K : Kb} (h : ClkIn O w c no ws K) (hb : Below w.heap.size w w1) : ClkIn O w1 c no ws K :=
  h.save (O' := fun _ => False) (.of_below hb) (fun _ _ q => q)
/-- The keeper took a step: the clerk behind it. -/
theorem clk_moved {O Ok Ok' : Nat → Prop} {w w1 : World} {c q : Nat} {no : Int} {ws : Nat → Int} {K' : Kb} (hI : ∀ k, O k → k < w.heap.size) (hm : O c) (hR : ClkRaw w c q no) (hsub : ∀ k, Ok k → O k) (hq : ¬ Ok c)
    (h3 : KeepIn Ok' w1 q no ws K') (h4 : Save Ok w w1) (h5 : Moved Ok Ok' w) : ClkIn (fun k => O k ∨ Ok' k) w1 c no ws K' ∧ Save O w w1 ∧ Moved O (fun k => O k ∨ Ok' k) w := by
  have hout : ∀ k, k < w.heap.size → ¬ Ok k → ¬ Ok' k := fun k hk hn hk' => (h5 k hk').elim hn (fun h => by omega)
  refine ⟨⟨fun k hk => ?_, .inl hm, Ok', q, hR.save h4 hq, h3, fun k hk => .inr hk, hout c hR.lt hq⟩, h4.mono (fun k _ hk => hsub k hk), fun k hk => ?_⟩
  · rcases hk with hk | hk
    · exact Nat.lt_of_lt_of_le (hI k hk) h4.size
    · exact h3.own k hk
  · rcases hk with hk | hk
    · exact .inl hk
    · exact (h5 k hk).imp (hsub k) id
/-- A step of the keeper behind a call that made memory alone. -/
theorem clk_step {O Ok Ok' : Nat → Prop} {w W w1 : World} {c q : Nat} {no : Int} {ws : Nat → Int} {K K' : Kb} (h : ClkIn O w c no ws K) (hW : Below w.heap.size w W) (hR : ClkRaw w c q no) (hsub : ∀ k, Ok k → O k) (hq : ¬ Ok c)
    (h3 : KeepIn Ok' w1 q no ws K') (h4 : Save Ok W w1) (h5 : Moved Ok Ok' W) : ∃ O', ClkIn O' w1 c no ws K' ∧ Save O w w1 ∧ Moved O O' w := by
  obtain ⟨k1, k2, k3⟩ := clk_moved (O := O) (fun k hk => Nat.lt_of_lt_of_le (h.own k hk) hW.size) h.mine (hR.save (O := fun _ => False) (.of_below hW) (fun q => q)) hsub hq h3 h4 h5
  exact ⟨_, k1, (Save.of_below hW).trans k2 (fun j _ hj => hj), fun k hk => (k3 k hk).imp id (fun q => Nat.le_trans hW.size q)⟩

/-- What clerk.New answers. -/
def NewCIs (no : Int) (ws : Nat → Int) (w w' : World) (e : Ending) : Prop :=
  if newOk no ws = true then ∃ c O, e = .returned (.pointer (some ⟨c, 0, none⟩)) ∧ ClkIn O w' c no ws ⟨book0 no ws, []⟩ ∧ ∀ k, O k → w.heap.size ≤ k else e = .returned (.pointer none)
theorem newCIs_nil {no : Int} {ws : Nat → Int} {w w' : World} {e : Ending} (h : newOk no ws = false) (he : e = .returned (.pointer none)) : NewCIs no ws w w' e := by
  unfold NewCIs; rw [if_neg (by rw [h]; simp)]; exact he

set_option maxHeartbeats 2000000 in
theorem cnew_any (no : Int) (ws : Nat → Int) (w : World) :
    Calls Try.prog 42 #[.int .i64 no, .agg #[.int .i64 (ws 0), .int .i64 (ws 1), .int .i64 (ws 2), .int .i64 (ws 3), .int .i64 (ws 4), .int .i64 (ws 5)]] w fun e w' => NewCIs no ws w w' e ∧ Below w.heap.size w w' := by
  go_enter Try.func42, Try.ntmps42
  go_wp2_with fail
  refine (knew_any no ws _).mono ?_
  rintro e w1 ⟨hN, hb1⟩
  have hw1 : Below w.heap.size w w1 := after (by go_grown) hb1 (by simp)
  unfold NewKIs at hN
  by_cases hok : newOk no ws = true
  · rw [if_pos hok] at hN
    obtain ⟨q, O, rfl, hI, hO⟩ := hN
    have HOk : Hid _ := hok
    have HI : Hid (KeepIn O w1 q no ws ⟨book0 no ws, []⟩) := hI
    have HO : Hid (∀ k, O k → w.heap.size ≤ k) := fun k hk => Nat.le_trans (by simp) (hO k hk)
    clear hok hI hO hb1
    go_wp2_with fail
    have hR := craw_new w1 q no 88
    have hn : Below w1.heap.size w1 (w1.alloc (.cells #[.pointer (some ⟨q, 0, none⟩), .int .i64 no] 88)) := (Below.refl _ _).alloc (Nat.le_refl _) _
    have hI2 := HI.out.next hn
    have hw2 := after hw1 hn hw1.size
    go_ret
    refine ⟨?_, hw2⟩
    unfold NewCIs
    rw [if_pos HOk.out]
    have nq : ¬ O w1.heap.size := fun hk => by have := HI.out.own _ hk; omega
    refine ⟨w1.heap.size, fun k => O k ∨ k = w1.heap.size, rfl, ⟨fun k hk => ?_, .inr rfl, O, q, hR, hI2, fun k hk => .inl hk, nq⟩, fun k hk => ?_⟩
    · rcases hk with hk | rfl
      · exact hI2.own k hk
      · exact hR.lt
    · rcases hk with hk | rfl
      · exact HO.out k hk
      · exact hw1.size
  · rw [if_neg hok] at hN
    subst hN
    have HOk : Hid (newOk no ws = false) := by show _ = _; simpa using hok
    clear hok
    go_wp2_with fail
    go_ret
    exact ⟨newCIs_nil HOk.out rfl, hw1⟩

end Go.Proofs.Ytbgnajcmhmpjlab

/- The contracts of a clerk's hold, end and Answer. -/
namespace Go.Proofs.Ytbgnajcmhmpjlab
open Go.RowKit

/-- What a step of a clerk leaves: its book is K', all but O is as it was. -/
def ClkTo (O : Nat → Prop) (w w' : World) (c : Nat) (no : Int) (ws : Nat → Int) (K' : Kb) : Prop := ∃ O', ClkIn O' w' c no ws K' ∧ Save O w w' ∧ Moved O O' w
theorem ClkTo.stay {O : Nat → Prop} {w w' : World} {c : Nat} {no : Int} {ws : Nat → Int} {K : Kb} (h : ClkIn O w c no ws K) (hb : Below w.heap.size w w') : ClkTo O w w' c no ws K := ⟨O, h.next hb, .of_below hb, .refl _ _⟩
theorem ClkTo.next {O : Nat → Prop} {w w1 w' : World} {c : Nat} {no : Int} {ws : Nat → Int} {K : Kb} (h : ClkTo O w w1 c no ws K) (hb : Below w1.heap.size w1 w') : ClkTo O w w' c no ws K := by
  obtain ⟨O', h1, h2, h3⟩ := h
  exact ⟨O', h1.next hb, h2.next hb, h3⟩
theorem ClkTo.behind {O : Nat → Prop} {w w1 w' : World} {c : Nat} {no : Int} {ws : Nat → Int} {K : Kb} (hb : Below w.heap.size w w1) (h : ClkTo O w1 w' c no ws K) : ClkTo O w w' c no ws K := by
  obtain ⟨O', h1, h2, h3⟩ := h
  exact ⟨O', h1, (Save.of_below hb).trans h2 (fun _ _ hj => hj), fun k hk => (h3 k hk).imp id (fun q => Nat.le_trans hb.size q)⟩
/-- Do of a clerk's keeper. -/
theorem cdo_any {O : Nat → Prop} {w : World} {c : Nat} {no : Int} {ws : Nat → Int} {K : Kb} (h : ClkIn O w c no ws K) (r : Stp) (hG : Good K.A) (hl : K.A.hs.length < 2 ^ 40) (hr : K.rs.length < 2 ^ 40) : ∃ q, ClkRaw w c q no ∧ ∀ W : World, Below w.heap.size w W → Calls Try.prog 24 #[.pointer (some ⟨q, 0, none⟩), .agg #[.int .i64 r.what, .int .i64 r.deal, .int .i64 r.c, .int .i64 r.d, .bool r.done]] W fun e w' => e = .returned (.int .i64 (doR K r).1) ∧ ClkTo O W w' c no ws (doR K r).2 ∧ ClkRaw w' c q no := by
  obtain ⟨Ok, q, hR, hK, hsub, hq⟩ := h.raw
  refine ⟨q, hR, fun W hW => ?_⟩
  refine (kdo_any Ok no ws K q r W (hK.next hW) hG hl hr).mono ?_
  rintro e w' ⟨he, O', k1, k2, k3⟩
  have hR2 := hR.save (O := fun _ => False) (.of_below hW) (fun q => q)
  exact ⟨he, clk_step (h.next hW) (Below.refl _ _) hR2 hsub hq k1 k2 k3, hR2.save k2 hq⟩
theorem ccrash_any {O : Nat → Prop} {w : World} {c : Nat} {no : Int} {ws : Nat → Int} {K : Kb} (h : ClkIn O w c no ws K) (hG : GoodK (book0 no ws) K) (hok : newOk no ws = true) (hr : K.rs.length < 1000000) : ∃ q, ClkRaw w c q no ∧ ∀ W : World, Below w.heap.size w W → Calls Try.prog 26 #[.pointer (some ⟨q, 0, none⟩)] W fun e w' => e = .returned (.tuple #[]) ∧ ClkTo O W w' c no ws K := by
  obtain ⟨Ok, q, hR, hK, hsub, hq⟩ := h.raw
  refine ⟨q, hR, fun W hW => ?_⟩
  refine (kcrash_any Ok no ws K q W (hK.next hW) hG hok hr).mono ?_
  rintro e w' ⟨he, O', k1, k2, k3⟩
  exact ⟨he, clk_step (h.next hW) (Below.refl _ _) (hR.save (O := fun _ => False) (.of_below hW) (fun q => q)) hsub hq k1 k2 k3⟩

/-- A mail in a block of one's own. -/
structure MlBox (w : World) (b : Nat) (m : Ml) : Prop where
  lt : b < w.heap.size
  c0 : w.cell? ⟨b, 0, none⟩ = some (.int .i64 m.kind)
  c1 : w.cell? ⟨b, 1, none⟩ = some (.int .i64 m.deal)
  c2 : w.cell? ⟨b, 2, none⟩ = some (.int .i64 m.shop)
  c3 : w.cell? ⟨b, 3, none⟩ = some (.int .i64 m.c)
  c4 : w.cell? ⟨b, 4, none⟩ = some (.int .i64 m.d)
  c5 : w.cell? ⟨b, 5, none⟩ = some (.bool m.yes)
  loose : ∀ k, w.frozen? ⟨b, k, none⟩ = false
theorem MlBox.save {O : Nat → Prop} {w w1 : World} {b : Nat} {m : Ml} (h : MlBox w b m) (hb : Save O w w1) (hn : ¬ O b) : MlBox w1 b m := by
  have q : ∀ o, w1.cell? ⟨b, o, none⟩ = w.cell? ⟨b, o, none⟩ := fun o => hb.cell (p := ⟨b, o, none⟩) h.lt hn
  exact ⟨Nat.lt_of_lt_of_le h.lt hb.size, (q _).trans h.c0, (q _).trans h.c1, (q _).trans h.c2, (q _).trans h.c3, (q _).trans h.c4, (q _).trans h.c5, fun k => (hb.frozen (p := ⟨b, k, none⟩) h.lt hn).trans (h.loose k)⟩
theorem MlBox.next {w w1 : World} {b : Nat} {m : Ml} (h : MlBox w b m) (hb : Below w.heap.size w w1) : MlBox w1 b m := h.save (O := fun _ => False) (.of_below hb) (fun q => q)
theorem MlBox.new (w : World) (m : Ml) (t : TypeId) : MlBox (w.alloc (.cells #[.int .i64 m.kind, .int .i64 m.deal, .int .i64 m.shop, .int .i64 m.c, .int .i64 m.d, .bool m.yes] t)) w.heap.size m :=
  ⟨by simp, by simp [go_sem], by simp [go_sem], by simp [go_sem], by simp [go_sem], by simp [go_sem], by simp [go_sem], by simp [go_sem]⟩
/-- A step of a clerk, with two blocks of one's own beside it. -/
def ClkBy (O : Nat → Prop) (w w' : World) (c : Nat) (no : Int) (ws : Nat → Int) (K' : Kb) (b : Nat) : Prop := ∃ O', ClkIn O' w' c no ws K' ∧ Save O w w' ∧ Moved O O' w ∧ ¬ O' b ∧ ¬ O' (b + 1)
theorem ClkBy.to {O : Nat → Prop} {w w' : World} {c b : Nat} {no : Int} {ws : Nat → Int} {K' : Kb} (h : ClkBy O w w' c no ws K' b) : ClkTo O w w' c no ws K' := by
  obtain ⟨O', h1, h2, h3, _⟩ := h
  exact ⟨O', h1, h2, h3⟩
/-- Cells of the second block are stored. -/
theorem ClkBy.set {O : Nat → Prop} {w w1 w2 : World} {c b : Nat} {no : Int} {ws : Nat → Int} {K : Kb} (h : ClkBy O w w1 c no ws K b) (hb : w.heap.size ≤ b) (hs : Save (fun k => k = b + 1) w1 w2) : ClkBy O w w2 c no ws K b := by
  obtain ⟨O', h1, h2, h3, h4, h5⟩ := h
  exact ⟨O', h1.save hs (fun k hk e => h5 (e ▸ hk)), h2.trans hs (fun j hj e => by omega), h3, h4, h5⟩
theorem ClkBy.set0 {O : Nat → Prop} {w w1 w2 : World} {c b : Nat} {no : Int} {ws : Nat → Int} {K : Kb} (h : ClkBy O w w1 c no ws K b) (hb : w.heap.size ≤ b) (hs : Save (fun k => k = b) w1 w2) : ClkBy O w w2 c no ws K b := by
  obtain ⟨O', h1, h2, h3, h4, h5⟩ := h
  exact ⟨O', h1.save hs (fun k hk e => h4 (e ▸ hk)), h2.trans hs (fun j hj e => by omega), h3, h4, h5⟩
theorem clk_by {O : Nat → Prop} {w W w' : World} {c b : Nat} {no : Int} {ws : Nat → Int} {K : Kb} (hO : ∀ k, O k → k < w.heap.size) (hW : Below w.heap.size w W) (hb : w.heap.size ≤ b) (hb1 : b + 1 < W.heap.size) (h : ClkTo O W w' c no ws K) : ClkBy O w w' c no ws K b := by
  obtain ⟨O', h1, h2, h3⟩ := h
  have no : ∀ k, w.heap.size ≤ k → k < W.heap.size → ¬ O' k := fun k h1 h2 hk => (h3 k hk).elim (fun q => by have := hO k q; omega) (fun q => by omega)
  exact ⟨O', h1, (Save.of_below hW).trans h2 (fun _ _ hj => hj), fun k hk => (h3 k hk).imp id (fun q => Nat.le_trans hW.size q), no _ hb (by omega), no _ (by omega) hb1⟩
theorem save_ml (w : World) (b : Nat) (v0 v1 v2 v3 v4 v5 : Value) : Save (fun k => k = b) w ((((((w.setCell ⟨b, 0, none⟩ v0).setCell ⟨b, 1, none⟩ v1).setCell ⟨b, 2, none⟩ v2).setCell ⟨b, 3, none⟩ v3).setCell ⟨b, 4, none⟩ v4).setCell ⟨b, 5, none⟩ v5) :=
  ((((((Save.refl (fun k => k = b) w).setCell (p := ⟨b, 0, none⟩) (fun _ => rfl) v0).setCell (p := ⟨b, 1, none⟩) (fun _ => rfl) v1).setCell (p := ⟨b, 2, none⟩) (fun _ => rfl) v2).setCell (p := ⟨b, 3, none⟩) (fun _ => rfl) v3).setCell (p := ⟨b, 4, none⟩) (fun _ => rfl) v4).setCell (p := ⟨b, 5, none⟩) (fun _ => rfl) v5

theorem clk_two {O : Nat → Prop} {w W w' : World} {c : Nat} {no : Int} {ws : Nat → Int} {K : Kb} {m m0 : Ml} (hO : ∀ k, O k → k < w.heap.size) (hW : Below w.heap.size w W) (hX : MlBox W w.heap.size m) (hY : MlBox W (w.heap.size + 1) m0) (h : ClkTo O W w' c no ws K) : MlBox w' w.heap.size m ∧ MlBox w' (w.heap.size + 1) m0 ∧ ClkBy O w w' c no ws K w.heap.size := by
  have n0 : ¬ O w.heap.size := fun hh => by have := hO _ hh; omega
  have n1 : ¬ O (w.heap.size + 1) := fun hh => by have := hO _ hh; omega
  have hB := clk_by (b := w.heap.size) hO hW (Nat.le_refl _) hY.lt h
  obtain ⟨_, _, hS, _⟩ := h
  exact ⟨hX.save hS n0, hY.save hS n1, hB⟩

set_option maxHeartbeats 2000000 in
set_option maxRecDepth 100000 in
theorem chold_any (O : Nat → Prop) (no : Int) (ws : Nat → Int) (K : Kb) (c : Nat) (m : Ml) (w : World) (h : ClkIn O w c no ws K) (hG : Good K.A) (hl : K.A.hs.length < 2 ^ 40) (hr : K.rs.length < 2 ^ 40) :
    Calls Try.prog 72 #[.pointer (some ⟨c, 0, none⟩), .agg #[.int .i64 m.kind, .int .i64 m.deal, .int .i64 m.shop, .int .i64 m.c, .int .i64 m.d, .bool m.yes]] w fun e w' => e = .returned (.agg #[.int .i64 2, .int .i64 m.deal, .int .i64 m.shop, .int .i64 m.c, .int .i64 m.d, .bool ((doR K (askS m)).1 == 0)]) ∧ ClkTo O w w' c no ws (doR K (askS m)).2 := by
  obtain ⟨q, hR, hC⟩ := cdo_any h (askS m) hG hl hr
  have c0 := hR.c0
  have hcl := hR.lt
  have HC : Hid (∀ W : World, Below w.heap.size w W → Calls Try.prog 24 #[.pointer (some ⟨q, 0, none⟩), .agg #[.int .i64 1, .int .i64 m.deal, .int .i64 m.c, .int .i64 m.d, .bool false]] W fun e w' => e = .returned (.int .i64 (doR K (askS m)).1) ∧ ClkTo O W w' c no ws (doR K (askS m)).2 ∧ ClkRaw w' c q no) := hC
  have HN : Hid (∀ k, O k → k < w.heap.size) := h.own
  clear h hG hl hr hR hC
  generalize doR K (askS m) = r at *
  go_enter Try.func72, Try.ntmps72
  go_upto_region 1 with fail
  have hX := (MlBox.new w m 71).next ((Below.refl _ _).alloc (Nat.le_refl _) (.cells #[.int .i64 0, .int .i64 0, .int .i64 0, .int .i64 0, .int .i64 0, .bool false] 71))
  have hY := MlBox.new (w.alloc (.cells #[.int .i64 m.kind, .int .i64 m.deal, .int .i64 m.shop, .int .i64 m.c, .int .i64 m.d, .bool m.yes] 71)) noMl 71
  have hz : (w.alloc (.cells #[.int .i64 m.kind, .int .i64 m.deal, .int .i64 m.shop, .int .i64 m.c, .int .i64 m.d, .bool m.yes] 71)).heap.size = w.heap.size + 1 := by simp
  rw [hz] at hY
  change MlBox ((w.alloc (.cells #[.int .i64 m.kind, .int .i64 m.deal, .int .i64 m.shop, .int .i64 m.c, .int .i64 m.d, .bool m.yes] 71)).alloc (.cells #[.int .i64 0, .int .i64 0, .int .i64 0, .int .i64 0, .int .i64 0, .bool false] 71)) _ _ at hY
  have hb : Below w.heap.size w ((w.alloc (.cells #[.int .i64 m.kind, .int .i64 m.deal, .int .i64 m.shop, .int .i64 m.c, .int .i64 m.d, .bool m.yes] 71)).alloc (.cells #[.int .i64 0, .int .i64 0, .int .i64 0, .int .i64 0, .int .i64 0, .bool false] 71)) := by go_grown
  generalize ((w.alloc (.cells #[.int .i64 m.kind, .int .i64 m.deal, .int .i64 m.shop, .int .i64 m.c, .int .i64 m.d, .bool m.yes] 71)).alloc (.cells #[.int .i64 0, .int .i64 0, .int .i64 0, .int .i64 0, .int .i64 0, .bool false] 71)) = W at hX hY hb ⊢
  clear hz
  have HX : Hid (MlBox W w.heap.size m) := hX
  have HY : Hid (MlBox W (w.heap.size + 1) noMl) := hY
  have HW : Hid (Below w.heap.size w W) := hb
  have HK : Hid (∀ w', w'.cell? ⟨c, 0, none⟩ = some (.pointer (some ⟨q, 0, none⟩)) → MlBox w' w.heap.size m → w'.cell? ⟨c, 0, none⟩ = some (.pointer (some ⟨q, 0, none⟩)) ∧ w'.cell? ⟨w.heap.size, 1, none⟩ = some (.int .i64 m.deal) ∧ w'.cell? ⟨w.heap.size, 3, none⟩ = some (.int .i64 m.c) ∧ w'.cell? ⟨w.heap.size, 4, none⟩ = some (.int .i64 m.d)) := fun w' h0 h => ⟨h0, h.c1, h.c3, h.c4⟩
  have HC0 : Hid (∀ w', Below W.heap.size W w' → w'.cell? ⟨c, 0, none⟩ = some (.pointer (some ⟨q, 0, none⟩))) := fun w' hb' => ((after hb hb' hb.size).cell (p := ⟨c, 0, none⟩) hcl).trans c0
  have HA : Hid (∀ W' : World, Below W.heap.size W W' → Calls Try.prog 24 #[.pointer (some ⟨q, 0, none⟩), .agg #[.int .i64 1, .int .i64 m.deal, .int .i64 m.c, .int .i64 m.d, .bool false]] W' fun e w' => e = .returned (.int .i64 r.1) ∧ w'.cell? ⟨c, 0, none⟩ = some (.pointer (some ⟨q, 0, none⟩)) ∧ MlBox w' w.heap.size m ∧ MlBox w' (w.heap.size + 1) noMl ∧ ClkBy O w w' c no ws r.2 w.heap.size) := by
    intro W' hW'
    have hw := after HW.out hW' HW.out.size
    refine (HC.out W' hw).mono ?_
    rintro e w' ⟨he, hT, hR'⟩
    have hl := HY.out.lt
    have hs := hW'.size
    have n0 : ¬ O w.heap.size := fun hh => by have := HN.out _ hh; omega
    have n1 : ¬ O (w.heap.size + 1) := fun hh => by have := HN.out _ hh; omega
    have hB := clk_by (b := w.heap.size) HN.out hw (Nat.le_refl _) (by omega) hT
    obtain ⟨_, _, hS, _⟩ := hT
    exact ⟨he, hR'.c0, (HX.out.next hW').save hS n0, (HY.out.next hW').save hS n1, hB⟩
  clear HC
  go_cut [5] (fun s5 wx => s5 = .int .i64 r.1 ∧ MlBox wx w.heap.size m ∧ MlBox wx (w.heap.size + 1) noMl ∧ ClkBy O w wx c no ws r.2 w.heap.size)
  case first =>
    go_region_held3 (fun w' => w'.cell? ⟨c, 0, none⟩ = some (.pointer (some ⟨q, 0, none⟩)) ∧ w'.cell? ⟨w.heap.size, 1, none⟩ = some (.int .i64 m.deal) ∧ w'.cell? ⟨w.heap.size, 3, none⟩ = some (.int .i64 m.c) ∧ w'.cell? ⟨w.heap.size, 4, none⟩ = some (.int .i64 m.d))
      (first | exact HK9 | exact HK.out _ (HC0.out _ (by go_grown)) (HX.out.next (by go_grown)))
      (first | (go_at_call 24; refine Calls.mono (HA.out _ (by go_grown)) ?_; rintro e w9 ⟨rfl, h91, h92, h93, h94⟩; have HK9 := HK.out _ h91 h92; have HX9 : Hid (MlBox w9 w.heap.size m) := h92; have HY9 : Hid (MlBox w9 (w.heap.size + 1) noMl) := h93; have HE9 : Hid (ClkBy O w w9 c no ws r.2 w.heap.size) := h94; clear h91 h92 h93 h94))
    all_goals
      go_wp2_with fail
      go_meet
      case rel => exact ⟨rfl, HX9.out, HY9.out, HE9.out⟩
  case rest =>
    obtain ⟨rfl, hX1, hY1, hE1⟩ := hcut
    clear HA HX HY HW HK HC0 hX hY hb
    obtain ⟨xl, x0, x1, x2, x3, x4, x5, xf⟩ := hX1
    obtain ⟨yl, y0, y1, y2, y3, y4, y5, yf⟩ := hY1
    go_wp2_with fail
    exact bodyPost_ret (v := .agg #[.int .i64 2, .int .i64 m.deal, .int .i64 m.shop, .int .i64 m.c, .int .i64 m.d, .bool (r.1 == 0)]) (by simp [results, Try.results72, go_sem, y0, y1, y2, y3, y4, y5]) rfl ⟨rfl, (hE1.set (Nat.le_refl _) (save_ml _ _ _ _ _ _ _ _)).to⟩

/-- What an end comes to: the answer, is there one. -/
def endV (m : Ml) (z : Int) : Value := if z = 0 then .tuple #[.agg #[.int .i64 4, .int .i64 m.deal, .int .i64 m.shop, .int .i64 m.c, .int .i64 m.d, .bool m.yes], .bool true] else .tuple #[.agg #[.int .i64 0, .int .i64 0, .int .i64 0, .int .i64 0, .int .i64 0, .bool false], .bool false]

set_option maxHeartbeats 2000000 in
set_option maxRecDepth 100000 in
theorem cend_any (O : Nat → Prop) (no : Int) (ws : Nat → Int) (K : Kb) (c : Nat) (m : Ml) (w : World) (h : ClkIn O w c no ws K) (hG : Good K.A) (hl : K.A.hs.length < 2 ^ 40) (hr : K.rs.length < 2 ^ 40) :
    Calls Try.prog 73 #[.pointer (some ⟨c, 0, none⟩), .agg #[.int .i64 m.kind, .int .i64 m.deal, .int .i64 m.shop, .int .i64 m.c, .int .i64 m.d, .bool m.yes]] w fun e w' => e = .returned (endV m (doR K (endS m)).1) ∧ ClkTo O w w' c no ws (doR K (endS m)).2 := by
  obtain ⟨q, hR, hC⟩ := cdo_any h (endS m) hG hl hr
  have c0 := hR.c0
  have hcl := hR.lt
  have HC : Hid (∀ W : World, Below w.heap.size w W → Calls Try.prog 24 #[.pointer (some ⟨q, 0, none⟩), .agg #[.int .i64 2, .int .i64 m.deal, .int .i64 0, .int .i64 0, .bool m.yes]] W fun e w' => e = .returned (.int .i64 (doR K (endS m)).1) ∧ ClkTo O W w' c no ws (doR K (endS m)).2 ∧ ClkRaw w' c q no) := hC
  have HN : Hid (∀ k, O k → k < w.heap.size) := h.own
  clear h hG hl hr hR hC
  generalize doR K (endS m) = r at *
  go_enter Try.func73, Try.ntmps73
  go_upto_region 1 with fail
  have hX := (MlBox.new w m 71).next ((Below.refl _ _).alloc (Nat.le_refl _) (.cells #[.int .i64 0, .int .i64 0, .int .i64 0, .int .i64 0, .int .i64 0, .bool false] 71))
  have hY := MlBox.new (w.alloc (.cells #[.int .i64 m.kind, .int .i64 m.deal, .int .i64 m.shop, .int .i64 m.c, .int .i64 m.d, .bool m.yes] 71)) noMl 71
  have hz : (w.alloc (.cells #[.int .i64 m.kind, .int .i64 m.deal, .int .i64 m.shop, .int .i64 m.c, .int .i64 m.d, .bool m.yes] 71)).heap.size = w.heap.size + 1 := by simp
  rw [hz] at hY
  change MlBox ((w.alloc (.cells #[.int .i64 m.kind, .int .i64 m.deal, .int .i64 m.shop, .int .i64 m.c, .int .i64 m.d, .bool m.yes] 71)).alloc (.cells #[.int .i64 0, .int .i64 0, .int .i64 0, .int .i64 0, .int .i64 0, .bool false] 71)) _ _ at hY
  have hb : Below w.heap.size w ((w.alloc (.cells #[.int .i64 m.kind, .int .i64 m.deal, .int .i64 m.shop, .int .i64 m.c, .int .i64 m.d, .bool m.yes] 71)).alloc (.cells #[.int .i64 0, .int .i64 0, .int .i64 0, .int .i64 0, .int .i64 0, .bool false] 71)) := by go_grown
  generalize ((w.alloc (.cells #[.int .i64 m.kind, .int .i64 m.deal, .int .i64 m.shop, .int .i64 m.c, .int .i64 m.d, .bool m.yes] 71)).alloc (.cells #[.int .i64 0, .int .i64 0, .int .i64 0, .int .i64 0, .int .i64 0, .bool false] 71)) = W at hX hY hb ⊢
  clear hz
  have HX : Hid (MlBox W w.heap.size m) := hX
  have HY : Hid (MlBox W (w.heap.size + 1) noMl) := hY
  have HW : Hid (Below w.heap.size w W) := hb
  have HK : Hid (∀ w', w'.cell? ⟨c, 0, none⟩ = some (.pointer (some ⟨q, 0, none⟩)) → MlBox w' w.heap.size m → w'.cell? ⟨c, 0, none⟩ = some (.pointer (some ⟨q, 0, none⟩)) ∧ w'.cell? ⟨w.heap.size, 1, none⟩ = some (.int .i64 m.deal) ∧ w'.cell? ⟨w.heap.size, 5, none⟩ = some (.bool m.yes)) := fun w' h0 h => ⟨h0, h.c1, h.c5⟩
  have HC0 : Hid (∀ w', Below W.heap.size W w' → w'.cell? ⟨c, 0, none⟩ = some (.pointer (some ⟨q, 0, none⟩))) := fun w' hb' => ((after hb hb' hb.size).cell (p := ⟨c, 0, none⟩) hcl).trans c0
  have HA : Hid (∀ W' : World, Below W.heap.size W W' → Calls Try.prog 24 #[.pointer (some ⟨q, 0, none⟩), .agg #[.int .i64 2, .int .i64 m.deal, .int .i64 0, .int .i64 0, .bool m.yes]] W' fun e w' => e = .returned (.int .i64 r.1) ∧ w'.cell? ⟨c, 0, none⟩ = some (.pointer (some ⟨q, 0, none⟩)) ∧ MlBox w' w.heap.size m ∧ MlBox w' (w.heap.size + 1) noMl ∧ ClkBy O w w' c no ws r.2 w.heap.size) := by
    intro W' hW'
    have hw := after HW.out hW' HW.out.size
    refine (HC.out W' hw).mono ?_
    rintro e w' ⟨he, hT, hR'⟩
    have hl := HY.out.lt
    have hs := hW'.size
    have n0 : ¬ O w.heap.size := fun hh => by have := HN.out _ hh; omega
    have n1 : ¬ O (w.heap.size + 1) := fun hh => by have := HN.out _ hh; omega
    have hB := clk_by (b := w.heap.size) HN.out hw (Nat.le_refl _) (by omega) hT
    obtain ⟨_, _, hS, _⟩ := hT
    exact ⟨he, hR'.c0, (HX.out.next hW').save hS n0, (HY.out.next hW').save hS n1, hB⟩
  clear HC
  have HV1 : Hid (r.1 = 0 → endV m r.1 = .tuple #[.agg #[.int .i64 4, .int .i64 m.deal, .int .i64 m.shop, .int .i64 m.c, .int .i64 m.d, .bool m.yes], .bool true]) := fun e => by unfold endV; rw [if_pos e]
  have HV2 : Hid (r.1 ≠ 0 → endV m r.1 = .tuple #[.agg #[.int .i64 0, .int .i64 0, .int .i64 0, .int .i64 0, .int .i64 0, .bool false], .bool false]) := fun e => by unfold endV; rw [if_neg e]
  go_cut [6] (fun s6 wx => s6 = .int .i64 r.1 ∧ MlBox wx w.heap.size m ∧ MlBox wx (w.heap.size + 1) noMl ∧ ClkBy O w wx c no ws r.2 w.heap.size)
  case first =>
    go_region_held3 (fun w' => w'.cell? ⟨c, 0, none⟩ = some (.pointer (some ⟨q, 0, none⟩)) ∧ w'.cell? ⟨w.heap.size, 1, none⟩ = some (.int .i64 m.deal) ∧ w'.cell? ⟨w.heap.size, 5, none⟩ = some (.bool m.yes))
      (first | exact HK9 | exact HK.out _ (HC0.out _ (by go_grown)) (HX.out.next (by go_grown)))
      (first | (go_at_call 24; refine Calls.mono (HA.out _ (by go_grown)) ?_; rintro e w9 ⟨rfl, h91, h92, h93, h94⟩; have HK9 := HK.out _ h91 h92; have HX9 : Hid (MlBox w9 w.heap.size m) := h92; have HY9 : Hid (MlBox w9 (w.heap.size + 1) noMl) := h93; have HE9 : Hid (ClkBy O w w9 c no ws r.2 w.heap.size) := h94; clear h91 h92 h93 h94))
    all_goals
      go_wp2_with fail
      go_meet
      case rel => exact ⟨rfl, HX9.out, HY9.out, HE9.out⟩
  case rest =>
    obtain ⟨rfl, hX1, hY1, hE1⟩ := hcut
    clear HA HX HY HW HK HC0 hX hY hb
    obtain ⟨xl, x0, x1, x2, x3, x4, x5, xf⟩ := hX1
    obtain ⟨yl, y0, y1, y2, y3, y4, y5, yf⟩ := hY1
    by_cases hz : r.1 = 0
    · have hz' : (r.1 != 0) = false := by simp [hz]
      have HV : Hid _ := HV1.out hz
      clear hz HV1 HV2
      go_wp2_with fail
      exact bodyPost_ret (v := .tuple #[.agg #[.int .i64 4, .int .i64 m.deal, .int .i64 m.shop, .int .i64 m.c, .int .i64 m.d, .bool m.yes], .bool true]) (by simp [results, Try.results73, go_sem, y0, y1, y2, y3, y4, y5]) rfl ⟨by rw [HV.out], ((hE1.set0 (Nat.le_refl _) (Save.setCell (O := fun k => k = w.heap.size) (Save.refl _ _) (p := ⟨w.heap.size, 0, none⟩) (fun _ => rfl) _)).set (Nat.le_refl _) (save_ml _ _ _ _ _ _ _ _)).to⟩
    · have hz' : (r.1 != 0) = true := by simpa using hz
      have HV : Hid _ := HV2.out hz
      clear hz HV1 HV2
      go_wp2_with fail
      exact bodyPost_ret (v := .tuple #[.agg #[.int .i64 0, .int .i64 0, .int .i64 0, .int .i64 0, .int .i64 0, .bool false], .bool false]) (by simp [results, Try.results73, go_sem, y0, y1, y2, y3, y4, y5]) rfl ⟨by rw [HV.out], (hE1.set (Nat.le_refl _) (save_ml _ _ _ _ _ _ _ _)).to⟩

/-- What an answer is told as. -/
def ansV (x : Ml × Bool × Kb) : Value := .tuple #[mlV x.1, .bool x.2.1]
theorem ansV_none (K : Kb) : ansV (noMl, false, K) = .tuple #[.agg #[.int .i64 0, .int .i64 0, .int .i64 0, .int .i64 0, .int .i64 0, .bool false], .bool false] := rfl
theorem ansV_ask {no : Int} {K : Kb} {m : Ml} (h : m.shop = no) (h1 : m.kind = 1) : ansV (ansR no K m) = .tuple #[.agg #[.int .i64 2, .int .i64 m.deal, .int .i64 m.shop, .int .i64 m.c, .int .i64 m.d, .bool ((doR K (askS m)).1 == 0)], .bool true] ∧ (ansR no K m).2.2 = (doR K (askS m)).2 := by
  rw [ans_ask h h1]; exact ⟨rfl, rfl⟩
theorem ansV_end {no : Int} {K : Kb} {m : Ml} (h : m.shop = no) (h3 : m.kind = 3) : ansV (ansR no K m) = endV m (doR K (endS m)).1 ∧ (ansR no K m).2.2 = (doR K (endS m)).2 := by
  by_cases hz : (doR K (endS m)).1 = 0
  · rw [ans_end h h3 hz]
    refine ⟨?_, rfl⟩
    unfold endV
    rw [if_pos hz]; rfl
  · rw [ans_noend h h3 hz]
    refine ⟨?_, (do_code hz).symm⟩
    unfold endV
    rw [if_neg hz]; rfl

set_option maxHeartbeats 2000000 in
set_option maxRecDepth 100000 in
theorem cans_any (O : Nat → Prop) (no : Int) (ws : Nat → Int) (K : Kb) (c : Nat) (m : Ml) (w : World) (h : ClkIn O w c no ws K) (hG : Good K.A) (hl : K.A.hs.length < 2 ^ 40) (hr : K.rs.length < 2 ^ 40) :
    Calls Try.prog 43 #[.pointer (some ⟨c, 0, none⟩), .agg #[.int .i64 m.kind, .int .i64 m.deal, .int .i64 m.shop, .int .i64 m.c, .int .i64 m.d, .bool m.yes]] w fun e w' => e = .returned (ansV (ansR no K m)) ∧ ClkTo O w w' c no ws (ansR no K m).2.2 := by
  obtain ⟨Ok, q, hR, _⟩ := h.raw
  have c1 := hR.c1
  have hcl := hR.lt
  have HI : Hid (ClkIn O w c no ws K) := h
  have HG : Hid (Good K.A ∧ K.A.hs.length < 2 ^ 40 ∧ K.rs.length < 2 ^ 40) := ⟨hG, hl, hr⟩
  clear h hG hl hr hR
  by_cases hs : m.shop = no
  · have hs' : (m.shop != no) = false := by simp [hs]
    by_cases h1 : m.kind = 1
    · have HE : Hid _ := ansV_ask (K := K) hs h1
      have h1' : (m.kind == 1) = true := by simp [h1]
      clear hs h1
      go_enter Try.func43, Try.ntmps43
      go_upto_region 1 with fail
      have hX := (MlBox.new w m 71).next ((Below.refl _ _).alloc (Nat.le_refl _) (.cells #[.int .i64 0, .int .i64 0, .int .i64 0, .int .i64 0, .int .i64 0, .bool false] 71))
      have hY := MlBox.new (w.alloc (.cells #[.int .i64 m.kind, .int .i64 m.deal, .int .i64 m.shop, .int .i64 m.c, .int .i64 m.d, .bool m.yes] 71)) noMl 71
      have hz : (w.alloc (.cells #[.int .i64 m.kind, .int .i64 m.deal, .int .i64 m.shop, .int .i64 m.c, .int .i64 m.d, .bool m.yes] 71)).heap.size = w.heap.size + 1 := by simp
      rw [hz] at hY
      change MlBox ((w.alloc (.cells #[.int .i64 m.kind, .int .i64 m.deal, .int .i64 m.shop, .int .i64 m.c, .int .i64 m.d, .bool m.yes] 71)).alloc (.cells #[.int .i64 0, .int .i64 0, .int .i64 0, .int .i64 0, .int .i64 0, .bool false] 71)) _ _ at hY
      have hb : Below w.heap.size w ((w.alloc (.cells #[.int .i64 m.kind, .int .i64 m.deal, .int .i64 m.shop, .int .i64 m.c, .int .i64 m.d, .bool m.yes] 71)).alloc (.cells #[.int .i64 0, .int .i64 0, .int .i64 0, .int .i64 0, .int .i64 0, .bool false] 71)) := by go_grown
      generalize ((w.alloc (.cells #[.int .i64 m.kind, .int .i64 m.deal, .int .i64 m.shop, .int .i64 m.c, .int .i64 m.d, .bool m.yes] 71)).alloc (.cells #[.int .i64 0, .int .i64 0, .int .i64 0, .int .i64 0, .int .i64 0, .bool false] 71)) = W at hX hY hb ⊢
      clear hz
      have HX : Hid (MlBox W w.heap.size m) := hX
      have HY : Hid (MlBox W (w.heap.size + 1) noMl) := hY
      have k1 : W.cell? ⟨c, 1, none⟩ = some (.int .i64 no) := (hb.cell (p := ⟨c, 1, none⟩) hcl).trans c1
      obtain ⟨xl, x0, x1, x2, x3, x4, x5, xf⟩ := hX
      obtain ⟨yl, y0, y1, y2, y3, y4, y5, yf⟩ := hY
      go_wp2_with fail
      go_quiet (fail)
      go_wp2_with fail
      have hd := bdrewN (Below.refl W.heap.size W) nq
      refine Calls.mono (chold_any O no ws K c m _ (HI.out.next (bdrewN hb nq)) HG.out.1 HG.out.2.1 HG.out.2.2) ?_
      rintro e w9 ⟨rfl, hT⟩
      obtain ⟨hX1, hY1, hE1⟩ := clk_two HI.out.own (bdrewN hb nq) (HX.out.next hd) (HY.out.next hd) hT
      clear hT x0 x1 x2 x3 x4 x5 xf xl y0 y1 y2 y3 y4 y5 yf yl
      obtain ⟨yl, y0, y1, y2, y3, y4, y5, yf⟩ := hY1
      generalize (doR K (askS m)) = r at *
      go_wp2_with fail
      exact bodyPost_ret (v := .tuple #[.agg #[.int .i64 2, .int .i64 m.deal, .int .i64 m.shop, .int .i64 m.c, .int .i64 m.d, .bool (r.1 == 0)], .bool true]) (by simp [results, Try.results43, go_sem, y0, y1, y2, y3, y4, y5]) rfl ⟨by rw [HE.out.1], by rw [HE.out.2]; exact (hE1.set (Nat.le_refl _) (save_ml _ _ _ _ _ _ _ _)).to⟩
    · have h1' : (m.kind == 1) = false := by simpa using h1
      by_cases h3 : m.kind = 3
      · have HE : Hid _ := ansV_end (K := K) hs h3
        have h3' : (m.kind == 3) = true := by simp [h3]
        clear hs h1 h3
        go_enter Try.func43, Try.ntmps43
        go_upto_region 1 with fail
        have hX := (MlBox.new w m 71).next ((Below.refl _ _).alloc (Nat.le_refl _) (.cells #[.int .i64 0, .int .i64 0, .int .i64 0, .int .i64 0, .int .i64 0, .bool false] 71))
        have hY := MlBox.new (w.alloc (.cells #[.int .i64 m.kind, .int .i64 m.deal, .int .i64 m.shop, .int .i64 m.c, .int .i64 m.d, .bool m.yes] 71)) noMl 71
        have hz : (w.alloc (.cells #[.int .i64 m.kind, .int .i64 m.deal, .int .i64 m.shop, .int .i64 m.c, .int .i64 m.d, .bool m.yes] 71)).heap.size = w.heap.size + 1 := by simp
        rw [hz] at hY
        change MlBox ((w.alloc (.cells #[.int .i64 m.kind, .int .i64 m.deal, .int .i64 m.shop, .int .i64 m.c, .int .i64 m.d, .bool m.yes] 71)).alloc (.cells #[.int .i64 0, .int .i64 0, .int .i64 0, .int .i64 0, .int .i64 0, .bool false] 71)) _ _ at hY
        have hb : Below w.heap.size w ((w.alloc (.cells #[.int .i64 m.kind, .int .i64 m.deal, .int .i64 m.shop, .int .i64 m.c, .int .i64 m.d, .bool m.yes] 71)).alloc (.cells #[.int .i64 0, .int .i64 0, .int .i64 0, .int .i64 0, .int .i64 0, .bool false] 71)) := by go_grown
        generalize ((w.alloc (.cells #[.int .i64 m.kind, .int .i64 m.deal, .int .i64 m.shop, .int .i64 m.c, .int .i64 m.d, .bool m.yes] 71)).alloc (.cells #[.int .i64 0, .int .i64 0, .int .i64 0, .int .i64 0, .int .i64 0, .bool false] 71)) = W at hX hY hb ⊢
        clear hz
        have HX : Hid (MlBox W w.heap.size m) := hX
        have HY : Hid (MlBox W (w.heap.size + 1) noMl) := hY
        have k1 : W.cell? ⟨c, 1, none⟩ = some (.int .i64 no) := (hb.cell (p := ⟨c, 1, none⟩) hcl).trans c1
        obtain ⟨xl, x0, x1, x2, x3, x4, x5, xf⟩ := hX
        obtain ⟨yl, y0, y1, y2, y3, y4, y5, yf⟩ := hY
        go_wp2_with fail
        go_quiet (fail)
        go_wp2_with fail
        have hd := bdrewN (Below.refl W.heap.size W) nq
        refine Calls.mono (cend_any O no ws K c m _ (HI.out.next (bdrewN hb nq)) HG.out.1 HG.out.2.1 HG.out.2.2) ?_
        rintro e w9 ⟨rfl, hT⟩
        obtain ⟨hX1, hY1, hE1⟩ := clk_two HI.out.own (bdrewN hb nq) (HX.out.next hd) (HY.out.next hd) hT
        clear hT x0 x1 x2 x3 x4 x5 xf xl y0 y1 y2 y3 y4 y5 yf yl
        obtain ⟨yl, y0, y1, y2, y3, y4, y5, yf⟩ := hY1
        generalize (doR K (endS m)) = r at *
        by_cases hz : r.1 = 0
        · have HV : Hid (endV m r.1 = .tuple #[.agg #[.int .i64 4, .int .i64 m.deal, .int .i64 m.shop, .int .i64 m.c, .int .i64 m.d, .bool m.yes], .bool true]) := by show _ = _; unfold endV; rw [if_pos hz]
          rw [HV.out]
          clear hz
          go_wp2_with fail
          exact bodyPost_ret (v := .tuple #[.agg #[.int .i64 4, .int .i64 m.deal, .int .i64 m.shop, .int .i64 m.c, .int .i64 m.d, .bool m.yes], .bool true]) (by simp [results, Try.results43, go_sem, y0, y1, y2, y3, y4, y5]) rfl ⟨by rw [HE.out.1, HV.out], by rw [HE.out.2]; exact (hE1.set (Nat.le_refl _) (save_ml _ _ _ _ _ _ _ _)).to⟩
        · have HV : Hid (endV m r.1 = .tuple #[.agg #[.int .i64 0, .int .i64 0, .int .i64 0, .int .i64 0, .int .i64 0, .bool false], .bool false]) := by show _ = _; unfold endV; rw [if_neg hz]
          rw [HV.out]
          clear hz
          go_wp2_with fail
          exact bodyPost_ret (v := .tuple #[.agg #[.int .i64 0, .int .i64 0, .int .i64 0, .int .i64 0, .int .i64 0, .bool false], .bool false]) (by simp [results, Try.results43, go_sem, y0, y1, y2, y3, y4, y5]) rfl ⟨by rw [HE.out.1, HV.out], by rw [HE.out.2]; exact (hE1.set (Nat.le_refl _) (save_ml _ _ _ _ _ _ _ _)).to⟩
      · have h3' : (m.kind == 3) = false := by simpa using h3
        have HE : Hid _ := ans_kind (K := K) hs h1 h3
        clear hs h1 h3
        go_enter Try.func43, Try.ntmps43
        go_upto_region 1 with fail
        have hX := (MlBox.new w m 71).next ((Below.refl _ _).alloc (Nat.le_refl _) (.cells #[.int .i64 0, .int .i64 0, .int .i64 0, .int .i64 0, .int .i64 0, .bool false] 71))
        have hY := MlBox.new (w.alloc (.cells #[.int .i64 m.kind, .int .i64 m.deal, .int .i64 m.shop, .int .i64 m.c, .int .i64 m.d, .bool m.yes] 71)) noMl 71
        have hz : (w.alloc (.cells #[.int .i64 m.kind, .int .i64 m.deal, .int .i64 m.shop, .int .i64 m.c, .int .i64 m.d, .bool m.yes] 71)).heap.size = w.heap.size + 1 := by simp
        rw [hz] at hY
        change MlBox ((w.alloc (.cells #[.int .i64 m.kind, .int .i64 m.deal, .int .i64 m.shop, .int .i64 m.c, .int .i64 m.d, .bool m.yes] 71)).alloc (.cells #[.int .i64 0, .int .i64 0, .int .i64 0, .int .i64 0, .int .i64 0, .bool false] 71)) _ _ at hY
        have hb : Below w.heap.size w ((w.alloc (.cells #[.int .i64 m.kind, .int .i64 m.deal, .int .i64 m.shop, .int .i64 m.c, .int .i64 m.d, .bool m.yes] 71)).alloc (.cells #[.int .i64 0, .int .i64 0, .int .i64 0, .int .i64 0, .int .i64 0, .bool false] 71)) := by go_grown
        generalize ((w.alloc (.cells #[.int .i64 m.kind, .int .i64 m.deal, .int .i64 m.shop, .int .i64 m.c, .int .i64 m.d, .bool m.yes] 71)).alloc (.cells #[.int .i64 0, .int .i64 0, .int .i64 0, .int .i64 0, .int .i64 0, .bool false] 71)) = W at hX hY hb ⊢
        clear hz
        have HX : Hid (MlBox W w.heap.size m) := hX
        have HY : Hid (MlBox W (w.heap.size + 1) noMl) := hY
        have k1 : W.cell? ⟨c, 1, none⟩ = some (.int .i64 no) := (hb.cell (p := ⟨c, 1, none⟩) hcl).trans c1
        obtain ⟨xl, x0, x1, x2, x3, x4, x5, xf⟩ := hX
        obtain ⟨yl, y0, y1, y2, y3, y4, y5, yf⟩ := hY
        go_wp2_with fail
        go_quiet (fail)
        go_wp2_with fail
        refine bodyPost_ret (v := .tuple #[.agg #[.int .i64 0, .int .i64 0, .int .i64 0, .int .i64 0, .int .i64 0, .bool false], .bool false]) (by simp [results, Try.results43, go_sem, y0, y1, y2, y3, y4, y5]) rfl ⟨by rw [HE.out, ansV_none], ?_⟩
        rw [HE.out]
        exact ClkTo.stay HI.out (((((((bdrewN hb nq).setCell (p := ⟨w.heap.size + 1, 0, none⟩) (Nat.le_succ _) _).setCell (p := ⟨w.heap.size + 1, 1, none⟩) (Nat.le_succ _) _).setCell (p := ⟨w.heap.size + 1, 2, none⟩) (Nat.le_succ _) _).setCell (p := ⟨w.heap.size + 1, 3, none⟩) (Nat.le_succ _) _).setCell (p := ⟨w.heap.size + 1, 4, none⟩) (Nat.le_succ _) _).setCell (p := ⟨w.heap.size + 1, 5, none⟩) (Nat.le_succ _) _)
  · have hs' : (m.shop != no) = true := by simpa using hs
    have HE : Hid _ := ans_shop (K := K) hs
    clear hs
    go_enter Try.func43, Try.ntmps43
    go_upto_region 1 with fail
    have hX := (MlBox.new w m 71).next ((Below.refl _ _).alloc (Nat.le_refl _) (.cells #[.int .i64 0, .int .i64 0, .int .i64 0, .int .i64 0, .int .i64 0, .bool false] 71))
    have hY := MlBox.new (w.alloc (.cells #[.int .i64 m.kind, .int .i64 m.deal, .int .i64 m.shop, .int .i64 m.c, .int .i64 m.d, .bool m.yes] 71)) noMl 71
    have hz : (w.alloc (.cells #[.int .i64 m.kind, .int .i64 m.deal, .int .i64 m.shop, .int .i64 m.c, .int .i64 m.d, .bool m.yes] 71)).heap.size = w.heap.size + 1 := by simp
    rw [hz] at hY
    change MlBox ((w.alloc (.cells #[.int .i64 m.kind, .int .i64 m.deal, .int .i64 m.shop, .int .i64 m.c, .int .i64 m.d, .bool m.yes] 71)).alloc (.cells #[.int .i64 0, .int .i64 0, .int .i64 0, .int .i64 0, .int .i64 0, .bool false] 71)) _ _ at hY
    have hb : Below w.heap.size w ((w.alloc (.cells #[.int .i64 m.kind, .int .i64 m.deal, .int .i64 m.shop, .int .i64 m.c, .int .i64 m.d, .bool m.yes] 71)).alloc (.cells #[.int .i64 0, .int .i64 0, .int .i64 0, .int .i64 0, .int .i64 0, .bool false] 71)) := by go_grown
    generalize ((w.alloc (.cells #[.int .i64 m.kind, .int .i64 m.deal, .int .i64 m.shop, .int .i64 m.c, .int .i64 m.d, .bool m.yes] 71)).alloc (.cells #[.int .i64 0, .int .i64 0, .int .i64 0, .int .i64 0, .int .i64 0, .bool false] 71)) = W at hX hY hb ⊢
    clear hz
    have HX : Hid (MlBox W w.heap.size m) := hX
    have HY : Hid (MlBox W (w.heap.size + 1) noMl) := hY
    have k1 : W.cell? ⟨c, 1, none⟩ = some (.int .i64 no) := (hb.cell (p := ⟨c, 1, none⟩) hcl).trans c1
    obtain ⟨xl, x0, x1, x2, x3, x4, x5, xf⟩ := hX
    obtain ⟨yl, y0, y1, y2, y3, y4, y5, yf⟩ := hY
    go_wp2_with fail
    go_quiet (fail)
    go_wp2_with fail
    refine bodyPost_ret (v := .tuple #[.agg #[.int .i64 0, .int .i64 0, .int .i64 0, .int .i64 0, .int .i64 0, .bool false], .bool false]) (by simp [results, Try.results43, go_sem, y0, y1, y2, y3, y4, y5]) rfl ⟨by rw [HE.out, ansV_none], ?_⟩
    rw [HE.out]
    exact ClkTo.stay HI.out (((((((bdrewN hb nq).setCell (p := ⟨w.heap.size + 1, 0, none⟩) (Nat.le_succ _) _).setCell (p := ⟨w.heap.size + 1, 1, none⟩) (Nat.le_succ _) _).setCell (p := ⟨w.heap.size + 1, 2, none⟩) (Nat.le_succ _) _).setCell (p := ⟨w.heap.size + 1, 3, none⟩) (Nat.le_succ _) _).setCell (p := ⟨w.heap.size + 1, 4, none⟩) (Nat.le_succ _) _).setCell (p := ⟨w.heap.size + 1, 5, none⟩) (Nat.le_succ _) _)

end Go.Proofs.Ytbgnajcmhmpjlab

/- What a statement asks of a keeper, and how it lies then. -/
namespace Go.Proofs.Ytbgnajcmhmpjlab
open Go.RowKit

/-- What a Do leaves of the records: all, and perhaps one more, that was not there. -/
theorem do_recs (K : Kb) (x : Stp) : (doR K x).2.rs = K.rs ∨ ((doR K x).1 = 0 ∧ (doR K x).2.rs = K.rs ++ [x] ∧ ¬ x ∈ K.rs) := by
  by_cases hz : (tellR K.A x).1 = 0
  · rw [doR_done hz]
    by_cases hm : x ∈ K.rs
    · exact .inl (noteR_in hm)
    · exact .inr ⟨rfl, noteR_out hm, hm⟩
  · rw [doR_code hz]; exact .inl rfl
theorem StepsAt.fst {w : World} {la : Option Addr} {l m : List Stp} (h : StepsAt w la (l ++ m)) : StepsAt w la l := by
  intro k x hk
  have hk' := (List.getElem?_eq_some_iff.1 hk).1
  exact h k x (by rw [List.getElem?_append_left hk']; exact hk)
theorem do_same {K : Kb} {x : Stp} (h : (doR K x).1 ≠ 0) : (doR K x).2 = K := by
  rw [doR_fst] at h
  rw [doR_code h]

theorem box_6 {w : World} {b : Nat} {x0 x1 x2 x3 x4 x5 : Value} (hlt : b < w.heap.size) (h0 : w.cell? ⟨b, 0, none⟩ = some x0) (h1 : w.cell? ⟨b, 1, none⟩ = some x1) (h2 : w.cell? ⟨b, 2, none⟩ = some x2) (h3 : w.cell? ⟨b, 3, none⟩ = some x3) (h4 : w.cell? ⟨b, 4, none⟩ = some x4) (h5 : w.cell? ⟨b, 5, none⟩ = some x5) : BoxAt w b [x0, x1, x2, x3, x4, x5] := by
  refine ⟨hlt, fun j v hj => ?_⟩
  match j, hj with
  | 0, hj => simp at hj; subst hj; exact h0
  | 1, hj => simp at hj; subst hj; exact h1
  | 2, hj => simp at hj; subst hj; exact h2
  | 3, hj => simp at hj; subst hj; exact h3
  | 4, hj => simp at hj; subst hj; exact h4
  | 5, hj => simp at hj; subst hj; exact h5
  | j + 6, hj => simp at hj
theorem box_set6 {w : World} {cb : Nat} (hlt : cb < w.heap.size) (h : ∀ j, j < 6 → ∃ u, w.cell? ⟨cb, j, none⟩ = some u) (v0 v1 v2 v3 v4 v5 : Value) : BoxAt ((((((w.setCell ⟨cb, 0, none⟩ v0).setCell ⟨cb, 1, none⟩ v1).setCell ⟨cb, 2, none⟩ v2).setCell ⟨cb, 3, none⟩ v3).setCell ⟨cb, 4, none⟩ v4).setCell ⟨cb, 5, none⟩ v5) cb [v0, v1, v2, v3, v4, v5] := by
  obtain ⟨u0, h0⟩ := h 0 (by omega)
  obtain ⟨u1, h1⟩ := h 1 (by omega)
  obtain ⟨u2, h2⟩ := h 2 (by omega)
  obtain ⟨u3, h3⟩ := h 3 (by omega)
  obtain ⟨u4, h4⟩ := h 4 (by omega)
  obtain ⟨u5, h5⟩ := h 5 (by omega)
  refine box_6 (by simpa using hlt) ?_ ?_ ?_ ?_ ?_ ?_
  · rw [cell_set_off (by omega), cell_set_off (by omega), cell_set_off (by omega), cell_set_off (by omega), cell_set_off (by omega), cell_set_same h0]
  · rw [cell_set_off (by omega), cell_set_off (by omega), cell_set_off (by omega), cell_set_off (by omega), cell_set_same ((cell_set_off (by omega)).trans h1)]
  · rw [cell_set_off (by omega), cell_set_off (by omega), cell_set_off (by omega), cell_set_same ((cell_set_off (by omega)).trans ((cell_set_off (by omega)).trans h2))]
  · rw [cell_set_off (by omega), cell_set_off (by omega), cell_set_same ((cell_set_off (by omega)).trans ((cell_set_off (by omega)).trans ((cell_set_off (by omega)).trans h3)))]
  · rw [cell_set_off (by omega), cell_set_same ((cell_set_off (by omega)).trans ((cell_set_off (by omega)).trans ((cell_set_off (by omega)).trans ((cell_set_off (by omega)).trans h4))))]
  · rw [cell_set_same ((cell_set_off (by omega)).trans ((cell_set_off (by omega)).trans ((cell_set_off (by omega)).trans ((cell_set_off (by omega)).trans ((cell_set_off (by omega)).trans h5)))))]
theorem box_new6' (w : World) (v0 v1 v2 v3 v4 v5 : Value) (t : TypeId) : BoxAt (w.alloc (.cells #[v0, v1, v2, v3, v4, v5] t)) w.heap.size [v0, v1, v2, v3, v4, v5] := BoxAt.new _ _ _
theorem save_new (w : World) (o : Obj) : Save (fun b => b = w.heap.size) w (w.alloc o) := .of_below ((Below.refl _ _).alloc (Nat.le_refl _) _)
theorem save_6 (w : World) (cb : Nat) (v0 v1 v2 v3 v4 v5 : Value) : Save (fun b => b = cb) w ((((((w.setCell ⟨cb, 0, none⟩ v0).setCell ⟨cb, 1, none⟩ v1).setCell ⟨cb, 2, none⟩ v2).setCell ⟨cb, 3, none⟩ v3).setCell ⟨cb, 4, none⟩ v4).setCell ⟨cb, 5, none⟩ v5) :=
  ((((((Save.refl (fun b => b = cb) w).setCell (p := ⟨cb, 0, none⟩) (fun _ => rfl) v0).setCell (p := ⟨cb, 1, none⟩) (fun _ => rfl) v1).setCell (p := ⟨cb, 2, none⟩) (fun _ => rfl) v2).setCell (p := ⟨cb, 3, none⟩) (fun _ => rfl) v3).setCell (p := ⟨cb, 4, none⟩) (fun _ => rfl) v4).setCell (p := ⟨cb, 5, none⟩) (fun _ => rfl) v5
/-- What was asked of a keeper at one time: its counters in a block, what it holds, its records; the keeper is as it was. -/
def Asked (w z : World) (Z : Nat → Prop) (q : Nat) (no : Int) (ws : Nat → Int) (K : Kb) (s9 s10 s11 : Value) (wx : World) : Prop :=
  ∃ cb ga capa gr capr, s9 = .pointer (some ⟨cb, 0, none⟩) ∧ s10 = .slice ga K.A.hs.length capa ∧ s11 = .slice gr K.rs.length capr ∧ BoxAt wx cb [.int .i64 (cnt6 K.A 0), .int .i64 (cnt6 K.A 1), .int .i64 (cnt6 K.A 2), .int .i64 (cnt6 K.A 3), .int .i64 (cnt6 K.A 4), .int .i64 (cnt6 K.A 5)] ∧ HoldsAt wx ga K.A.hs ∧ StepsAt wx gr K.rs ∧ KLive w (fun b => Z b ∨ b = cb ∨ (∃ a, ga = some a ∧ b = a.block) ∨ ∃ a, gr = some a ∧ b = a.block) wx q no ws K ∧ Below z.heap.size z wx
theorem asked_of {w wr w11 WN : World} {Z : Nat → Prop} {q capa capr cb : Nat} {no : Int} {ws : Nat → Int} {K : Kb} {ga gr : Option Addr} (hL : KLive w Z wr q no ws K) (hw11 : Below wr.heap.size wr w11) (hA : HoldsAt w11 ga K.A.hs) (hR : StepsAt w11 gr K.rs)
    (hB : BoxAt WN cb [.int .i64 (cnt6 K.A 0), .int .i64 (cnt6 K.A 1), .int .i64 (cnt6 K.A 2), .int .i64 (cnt6 K.A 3), .int .i64 (cnt6 K.A 4), .int .i64 (cnt6 K.A 5)]) (hS : Save (fun b => b = cb) w11 WN) (hcb : wr.heap.size ≤ cb)
    (hF : ∀ a, ga = some a → wr.heap.size ≤ a.block ∧ a.block < w11.heap.size ∧ a.block ≠ cb) (hG : ∀ a, gr = some a → wr.heap.size ≤ a.block ∧ a.block < w11.heap.size ∧ a.block ≠ cb) :
    Asked w wr Z q no ws K (.pointer (some ⟨cb, 0, none⟩)) (.slice ga K.A.hs.length capa) (.slice gr K.rs.length capr) WN := by
  have hs := hS.size
  have hq4 : Below wr.heap.size wr WN := hw11.trans (hS.below (fun k hk e => by omega) hw11.size)
  refine ⟨cb, ga, capa, gr, capr, rfl, rfl, rfl, hB, hA.save hS (fun a e h => (hF a e).2.2 h), hR.save hS (fun a e h => (hG a e).2.2 h), hL.more hq4 (fun b hb => ?_), hq4⟩
  rcases hb with hb | rfl | ⟨a, e, rfl⟩ | ⟨a, e, rfl⟩
  · exact .inl hb
  · exact .inr ⟨hcb, hB.1⟩
  · have := hF a e
    exact .inr ⟨by omega, by omega⟩
  · have := hG a e
    exact .inr ⟨by omega, by omega⟩

theorem KLive.keep {O : Nat → Prop} {w0 w w1 : World} {Z : Nat → Prop} {q : Nat} {no : Int} {ws : Nat → Int} {K : Kb} (h : KLive w0 Z w q no ws K) (hs : Save O w w1) (hO : ∀ k, O k → Z k ∧ w0.heap.size ≤ k) : KLive w0 Z w1 q no ws K := by
  obtain ⟨Q, h1, h2⟩ := h.inn
  exact ⟨⟨Q, h1.save hs (fun k hk hq => (h2 k hk).2 (hO k hq).1), h2⟩, h.below.trans (hs.below (fun k hk hq => by have := (hO k hq).2; omega) h.below.size), fun k hk => Nat.lt_of_lt_of_le (h.kept k hk) hs.size⟩

/-- Eight answers in a block of one's own. -/
structure BAt (w : World) (b : Nat) (f : Nat → Bool) : Prop where
  lt : b < w.heap.size
  cell : ∀ j : Nat, j < 8 → w.cell? ⟨b, j, none⟩ = some (.bool (f j))
  loose : ∀ k, w.frozen? ⟨b, k, none⟩ = false
theorem BAt.save {O : Nat → Prop} {w w1 : World} {b : Nat} {f : Nat → Bool} (h : BAt w b f) (hb : Save O w w1) (hn : ¬ O b) : BAt w1 b f :=
  ⟨Nat.lt_of_lt_of_le h.lt hb.size, fun j hj => (hb.cell (p := ⟨b, j, none⟩) h.lt hn).trans (h.cell j hj), fun k => (hb.frozen (p := ⟨b, k, none⟩) h.lt hn).trans (h.loose k)⟩
theorem BAt.next {w w1 : World} {b : Nat} {f : Nat → Bool} (h : BAt w b f) (hb : Below w.heap.size w w1) : BAt w1 b f := h.save (O := fun _ => False) (.of_below hb) (fun q => q)
theorem BAt.set {w : World} {b : Nat} {f : Nat → Bool} (h : BAt w b f) (m : Nat) (v : Bool) : BAt (w.setCell ⟨b, m, none⟩ (.bool v)) b (updB f m v) := by
  refine ⟨by simpa using h.lt, ?_, by simpa [go_sem] using h.loose⟩
  intro j hj
  unfold updB
  by_cases e : j = m
  · subst e
    rw [cell_set_same (h.cell j hj), if_pos rfl]
  · rw [cell_set_off e, h.cell j hj, if_neg e]
theorem BAt.off {w : World} {b c m : Nat} {f : Nat → Bool} (h : BAt w b f) (hn : b ≠ c) (v : Value) : BAt (w.setCell ⟨c, m, none⟩ v) b f :=
  h.save (O := fun k => k = c) (Save.setCell (O := fun k => k = c) (Save.refl _ _) (p := ⟨c, m, none⟩) (fun _ => rfl) _) hn
theorem BAt.congr {w : World} {b : Nat} {f g : Nat → Bool} (h : BAt w b f) (he : ∀ j, j < 8 → f j = g j) : BAt w b g := ⟨h.lt, fun j hj => by rw [← he j hj]; exact h.cell j hj, h.loose⟩
theorem BAt.new (w : World) (t : TypeId) : BAt (w.alloc (.cells #[.bool false, .bool false, .bool false, .bool false, .bool false, .bool false, .bool false, .bool false] t)) w.heap.size (fun _ => false) := by
  refine ⟨by simp, ?_, by simp [go_sem]⟩
  intro j hj
  have : j = 0 ∨ j = 1 ∨ j = 2 ∨ j = 3 ∨ j = 4 ∨ j = 5 ∨ j = 6 ∨ j = 7 := by omega
  rcases this with rfl | rfl | rfl | rfl | rfl | rfl | rfl | rfl <;> simp [go_sem]
/-- The first k are told. -/
def upto (k : Nat) (f : Nat → Bool) : Nat → Bool := fun j => if j < k then f j else false
theorem upto_next (k : Nat) (f : Nat → Bool) : ∀ j, j < 8 → updB (upto k f) k (f k) j = upto (k + 1) f j := by
  intro j _
  unfold updB upto
  by_cases e : j = k
  · subst e; rw [if_pos rfl, if_pos (by omega)]
  · rw [if_neg e]
    by_cases e2 : j < k
    · rw [if_pos e2, if_pos (by omega)]
    · rw [if_neg e2, if_neg (by omega)]
theorem upto_all (f : Nat → Bool) : ∀ j, j < 8 → upto 8 f j = f j := fun _ hj => if_pos hj

end Go.Proofs.Ytbgnajcmhmpjlab

/- A clerk of one's own, made since a world: its steps, its keeper, its shop; clerkBegun. -/
namespace Go.Proofs.Ytbgnajcmhmpjlab
open Go.RowKit

/-- A clerk of one's own, made since w0, in blocks outside Z. -/
structure CLive (w0 : World) (Z : Nat → Prop) (w : World) (c : Nat) (no : Int) (ws : Nat → Int) (K : Kb) : Prop where
  inn : ∃ O, ClkIn O w c no ws K ∧ ∀ k, O k → w0.heap.size ≤ k ∧ ¬ Z k
  below : Below w0.heap.size w0 w
  kept : ∀ k, Z k → k < w.heap.size
theorem CLive.next {w0 w w1 : World} {Z : Nat → Prop} {c : Nat} {no : Int} {ws : Nat → Int} {K : Kb} (h : CLive w0 Z w c no ws K) (hb : Below w.heap.size w w1) : CLive w0 Z w1 c no ws K := by
  obtain ⟨O, h1, h2⟩ := h.inn
  exact ⟨⟨O, h1.next hb, h2⟩, after h.below hb h.below.size, fun k hk => Nat.lt_of_lt_of_le (h.kept k hk) hb.size⟩
theorem CLive.more {w0 w w1 : World} {Z Z' : Nat → Prop} {c : Nat} {no : Int} {ws : Nat → Int} {K : Kb} (h : CLive w0 Z w c no ws K) (hb : Below w.heap.size w w1) (hZ : ∀ k, Z' k → Z k ∨ (w.heap.size ≤ k ∧ k < w1.heap.size)) : CLive w0 Z' w1 c no ws K := by
  obtain ⟨O, h1, h2⟩ := h.inn
  refine ⟨⟨O, h1.next hb, fun k hk => ⟨(h2 k hk).1, fun hk' => ?_⟩⟩, after h.below hb h.below.size, fun k hk => ?_⟩
  · rcases hZ k hk' with q | q
    · exact (h2 k hk).2 q
    · have := h1.own k hk
      omega
  · rcases hZ k hk with q | q
    · exact Nat.lt_of_lt_of_le (h.kept k q) hb.size
    · exact q.2
theorem CLive.less {w0 w : World} {Z Z' : Nat → Prop} {c : Nat} {no : Int} {ws : Nat → Int} {K : Kb} (h : CLive w0 Z w c no ws K) (hZ : ∀ k, Z' k → Z k) : CLive w0 Z' w c no ws K :=
  h.more (Below.refl _ _) (fun k hk => .inl (hZ k hk))
theorem CLive.keep {O : Nat → Prop} {w0 w w1 : World} {Z : Nat → Prop} {c : Nat} {no : Int} {ws : Nat → Int} {K : Kb} (h : CLive w0 Z w c no ws K) (hs : Save O w w1) (hO : ∀ k, O k → Z k ∧ w0.heap.size ≤ k) : CLive w0 Z w1 c no ws K := by
  obtain ⟨Q, h1, h2⟩ := h.inn
  exact ⟨⟨Q, h1.save hs (fun k hk hq => (h2 k hk).2 (hO k hq).1), h2⟩, h.below.trans (hs.below (fun k hk hq => by have := (hO k hq).2; omega) h.below.size), fun k hk => Nat.lt_of_lt_of_le (h.kept k hk) hs.size⟩
theorem CLive.step {O O' : Nat → Prop} {w0 w w1 : World} {Z : Nat → Prop} {c : Nat} {no : Int} {ws : Nat → Int} {K K' : Kb} (h : CLive w0 Z w c no ws K) (h2 : ∀ k, O k → w0.heap.size ≤ k ∧ ¬ Z k) (h3 : ClkIn O' w1 c no ws K') (h4 : Save O w w1) (h5 : Moved O O' w) : CLive w0 Z w1 c no ws K' ∧ Save (fun k => ¬ Z k) w w1 :=
  ⟨⟨⟨O', h3, fun k hk => (h5 k hk).elim (h2 k) (fun q => ⟨Nat.le_trans h.below.size q, fun hk' => by have := h.kept k hk'; omega⟩)⟩, h.below.trans (h4.below (fun k hk hO => by have := (h2 k hO).1; omega) h.below.size), fun k hk => Nat.lt_of_lt_of_le (h.kept k hk) h4.size⟩, h4.mono (fun k _ hk => (h2 k hk).2)⟩
theorem ans_live {w0 w : World} {Z : Nat → Prop} {c : Nat} {no : Int} {ws : Nat → Int} {K : Kb} (m : Ml) (h : CLive w0 Z w c no ws K) (hG : Good K.A) (hl : K.A.hs.length < 2 ^ 40) (hr : K.rs.length < 2 ^ 40) : Calls Try.prog 43 #[.pointer (some ⟨c, 0, none⟩), .agg #[.int .i64 m.kind, .int .i64 m.deal, .int .i64 m.shop, .int .i64 m.c, .int .i64 m.d, .bool m.yes]] w fun e w' => e = .returned (ansV (ansR no K m)) ∧ CLive w0 Z w' c no ws (ansR no K m).2.2 ∧ Save (fun k => ¬ Z k) w w' := by
  obtain ⟨O, h1, h2⟩ := h.inn
  refine (cans_any O no ws K c m w h1 hG hl hr).mono ?_
  rintro e w' ⟨he, O', h3, h4, h5⟩
  exact ⟨he, CLive.step h h2 h3 h4 h5⟩
theorem ccrash_live {w0 w : World} {Z : Nat → Prop} {c : Nat} {no : Int} {ws : Nat → Int} {K : Kb} (h : CLive w0 Z w c no ws K) (hG : GoodK (book0 no ws) K) (hok : newOk no ws = true) (hr : K.rs.length < 1000000) : ∃ q, w.cell? ⟨c, 0, none⟩ = some (.pointer (some ⟨q, 0, none⟩)) ∧ c < w.heap.size ∧ ∀ W : World, Below w.heap.size w W → Calls Try.prog 26 #[.pointer (some ⟨q, 0, none⟩)] W fun e w' => e = .returned (.tuple #[]) ∧ CLive w0 Z w' c no ws K ∧ Save (fun k => ¬ Z k) W w' := by
  obtain ⟨O, h1, h2⟩ := h.inn
  obtain ⟨q, hR, hC⟩ := ccrash_any h1 hG hok hr
  refine ⟨q, hR.c0, hR.lt, fun W hW => (hC W hW).mono ?_⟩
  rintro e w' ⟨he, O', h3, h4, h5⟩
  exact ⟨he, CLive.step (h.next hW) h2 h3 h4 h5⟩
/-- The clerk's keeper. -/
theorem CLive.keeper {w0 w : World} {Z : Nat → Prop} {c : Nat} {no : Int} {ws : Nat → Int} {K : Kb} (h : CLive w0 Z w c no ws K) : ∃ q, w.cell? ⟨c, 0, none⟩ = some (.pointer (some ⟨q, 0, none⟩)) ∧ c < w.heap.size ∧ KLive w0 Z w q no ws K := by
  obtain ⟨O, h1, h2⟩ := h.inn
  obtain ⟨Ok, q, hR, hK, hsub, _⟩ := h1.raw
  exact ⟨q, hR.c0, hR.lt, ⟨Ok, hK, fun k hk => h2 k (hsub k hk)⟩, h.below, h.kept⟩
theorem cnew_live {no : Int} {ws : Nat → Int} (hok : newOk no ws = true) (w : World) : Calls Try.prog 42 #[.int .i64 no, .agg #[.int .i64 (ws 0), .int .i64 (ws 1), .int .i64 (ws 2), .int .i64 (ws 3), .int .i64 (ws 4), .int .i64 (ws 5)]] w fun e w' => ∃ c, e = .returned (.pointer (some ⟨c, 0, none⟩)) ∧ CLive w (fun _ => False) w' c no ws ⟨book0 no ws, []⟩ := by
  refine (cnew_any no ws w).mono ?_
  rintro e w' ⟨h, hb⟩
  unfold NewCIs at h
  rw [if_pos hok] at h
  obtain ⟨q, O, he, hI, hO⟩ := h
  exact ⟨q, he, ⟨O, hI, fun k hk => ⟨hO k hk, fun q => q⟩⟩, hb, fun _ q => q.elim⟩

/-- One more block is kept. -/
theorem CLive.cons {w0 w w1 : World} {l : List Nat} {b c : Nat} {no : Int} {ws : Nat → Int} {K : Kb} (h : CLive w0 (fun k => k ∈ l) w c no ws K) (hb : Below w.heap.size w w1) (h1 : w.heap.size ≤ b) (h2 : b < w1.heap.size) : CLive w0 (fun k => k ∈ b :: l) w1 c no ws K :=
  h.more hb (fun k hk => by
    rcases List.mem_cons.1 hk with rfl | q
    · exact .inr ⟨h1, h2⟩
    · exact .inl q)
def wsC : Nat → Int
  | 2 => 10
  | 3 => 20
  | _ => 0
def mC1 : Ml := ⟨1, 4, 1, 2, -6, false⟩
def mC2 : Ml := ⟨1, 5, 1, 2, -6, false⟩
def mC3 : Ml := ⟨3, 4, 1, 0, 0, true⟩
def mC4 : Ml := ⟨3, 4, 2, 0, 0, false⟩
def KC0 : Kb := ⟨{ no := 1, v0 := 10, v1 := 20, hs := [], es := [] }, []⟩
def KC1 : Kb := ⟨{ no := 1, v0 := 10, v1 := 20, hs := [(4, 2, -6)], es := [] }, [⟨1, 4, 2, -6, false⟩]⟩
def KC2 : Kb := ⟨{ no := 1, v0 := 4, v1 := 20, hs := [], es := [(4, true)] }, [⟨1, 4, 2, -6, false⟩, ⟨2, 4, 0, 0, true⟩]⟩
theorem bookC0 : (⟨book0 1 wsC, []⟩ : Kb) = KC0 := rfl
theorem okC : newOk 1 wsC = true := rfl
theorem ansC1 : ansR 1 KC0 mC1 = (⟨2, 4, 1, 2, -6, true⟩, true, KC1) := by rfl
theorem ansC2 : ansR 1 KC1 mC2 = (⟨2, 5, 1, 2, -6, false⟩, true, KC1) := by rfl
theorem ansC3 : ansR 1 KC1 mC3 = (⟨4, 4, 1, 0, 0, true⟩, true, KC2) := by rfl
theorem ansC4 : ansR 1 KC2 mC4 = (⟨0, 0, 0, 0, 0, false⟩, false, KC2) := by rfl
theorem goodC0 : GoodK (book0 1 wsC) KC0 := goodK_new (good_new okC) rfl rfl
theorem goodC1 : GoodK (book0 1 wsC) KC1 := by have := goodK_ans goodC0 1 mC1; rwa [ansC1] at this
theorem goodC2 : GoodK (book0 1 wsC) KC2 := by have := goodK_ans goodC1 1 mC3; rwa [ansC3] at this
theorem ans_is {w0 w : World} {Z : Nat → Prop} {c : Nat} {no : Int} {ws : Nat → Int} {K K' : Kb} {a : Ml} {b : Bool} (m : Ml) (h : CLive w0 Z w c no ws K) (hG : Good K.A) (hl : K.A.hs.length < 2 ^ 40) (hr : K.rs.length < 2 ^ 40) (he : ansR no K m = (a, b, K')) : Calls Try.prog 43 #[.pointer (some ⟨c, 0, none⟩), .agg #[.int .i64 m.kind, .int .i64 m.deal, .int .i64 m.shop, .int .i64 m.c, .int .i64 m.d, .bool m.yes]] w fun e w' => e = .returned (.tuple #[.agg #[.int .i64 a.kind, .int .i64 a.deal, .int .i64 a.shop, .int .i64 a.c, .int .i64 a.d, .bool a.yes], .bool b]) ∧ CLive w0 Z w' c no ws K' ∧ Save (fun k => ¬ Z k) w w' := by
  have := ans_live m h hG hl hr
  rw [he] at this
  exact this

theorem eqWt (a b c d : Int) (W : World) : (Op.equalIn 10000 69 (.agg #[.int .i64 a, .int .i64 b]) (.agg #[.int .i64 c, .int .i64 d])).run Try.prog W = .ok (a == c && b == d) W := by
  rw [show (10000 : Nat) = 9999 + 1 from rfl]
  simp [Op.eqFields, go_sem]
  repeat' split
  all_goals simp_all

set_option maxRecDepth 100000 in
set_option maxHeartbeats 4000000 in
theorem cbegun_any (w : World) : Calls Try.prog 41 #[] w fun e w' => e = .returned (.bool true) ∧ Below w.heap.size w w' := by
  go_enter Try.func41, Try.ntmps41
  go_wp2_with fail
  refine Calls.mono (cnew_live okC w) ?_
  rintro e w1 ⟨c, rfl, hL1⟩
  rw [bookC0] at hL1
  go_wp2_with fail
  refine Calls.mono (cnew_any (-1) (fun _ => 0) w1) ?_
  rintro e w2 ⟨hN, hb2⟩
  unfold NewCIs at hN
  rw [if_neg (by decide)] at hN
  subst hN
  have hL2 := hL1.next hb2
  clear hL1 hb2
  have hL2' : CLive w (fun k => k ∈ ([] : List Nat)) w2 c 1 wsC KC0 := hL2.less (fun k hk => by simp at hk)
  clear hL2
  go_upto_region 5 with fail
  have hQ := BoxAt.new w2 [.int .i64 2, .int .i64 (-6)] 69
  have hL3 := hL2'.cons (b := w2.heap.size) ((Below.refl _ _).alloc (Nat.le_refl _) (.cells #[.int .i64 2, .int .i64 (-6)] 69)) (Nat.le_refl _) hQ.1
  change BoxAt (w2.alloc (.cells #[.int .i64 2, .int .i64 (-6)] 69)) _ _ at hQ
  generalize (w2.alloc (.cells #[.int .i64 2, .int .i64 (-6)] 69)) = W3 at hQ hL3 ⊢
  generalize w2.heap.size = bw at hQ hL3 ⊢
  clear hL2'
  have q0 := hQ.2 0 _ rfl
  have q1 := hQ.2 1 _ rfl
  go_wp2_with fail
  refine Calls.mono (ans_is mC1 hL3 goodC0.good (by decide) (by decide) ansC1) ?_
  rintro e w4 ⟨rfl, hL4, hS4⟩
  have hQ4 := hQ.save hS4 (fun e => e (by simp))
  clear hL3 hS4 hQ q0 q1
  go_upto_region 6 with fail
  have hA := MlBox.new w4 ⟨2, 4, 1, 2, -6, true⟩ 71
  have hL5 := hL4.cons (b := w4.heap.size) ((Below.refl _ _).alloc (Nat.le_refl _) (.cells #[.int .i64 2, .int .i64 4, .int .i64 1, .int .i64 2, .int .i64 (-6), .bool true] 71)) (Nat.le_refl _) hA.lt
  have hQ5 := hQ4.next ((Below.refl _ _).alloc (Nat.le_refl _) (.cells #[.int .i64 2, .int .i64 4, .int .i64 1, .int .i64 2, .int .i64 (-6), .bool true] 71))
  dsimp only at hA
  generalize (w4.alloc (.cells #[.int .i64 2, .int .i64 4, .int .i64 1, .int .i64 2, .int .i64 (-6), .bool true] 71)) = W5 at hA hL5 hQ5 ⊢
  generalize w4.heap.size = ba at hA hL5 ⊢
  clear hL4 hQ4
  have q0 := hQ5.2 0 _ rfl
  have q1 := hQ5.2 1 _ rfl
  go_wp2_with fail
  refine Calls.mono (ans_is mC2 hL5 goodC1.good (by decide) (by decide) ansC2) ?_
  rintro e w6 ⟨rfl, hL6, hS6⟩
  have hQ6 := hQ5.save hS6 (fun e => e (by simp))
  have hA6 := hA.save hS6 (fun e => e (by simp))
  clear hL5 hS6 hQ5 hA q0 q1
  go_upto_region 7 with fail
  have hB := MlBox.new w6 ⟨2, 5, 1, 2, -6, false⟩ 71
  have hbn : Below w6.heap.size w6 (w6.alloc (.cells #[.int .i64 2, .int .i64 5, .int .i64 1, .int .i64 2, .int .i64 (-6), .bool false] 71)) := ((Below.refl _ _).alloc (Nat.le_refl _) (.cells #[.int .i64 2, .int .i64 5, .int .i64 1, .int .i64 2, .int .i64 (-6), .bool false] 71))
  have hL7 := hL6.cons (b := w6.heap.size) hbn (Nat.le_refl _) hB.lt
  have hQ7 := hQ6.next hbn
  have hA7 := hA6.next hbn
  dsimp only at hB
  generalize (w6.alloc (.cells #[.int .i64 2, .int .i64 5, .int .i64 1, .int .i64 2, .int .i64 (-6), .bool false] 71)) = W7 at hB hL7 hQ7 hA7 ⊢
  generalize w6.heap.size = bb at hB hL7 ⊢
  clear hL6 hQ6 hA6 hbn
  go_wp2_with fail
  refine Calls.mono (ans_is mC3 hL7 goodC1.good (by decide) (by decide) ansC3) ?_
  rintro e w8 ⟨rfl, hL8, hS8⟩
  have hQ8 := hQ7.save hS8 (fun e => e (by simp))
  have hA8 := hA7.save hS8 (fun e => e (by simp))
  have hB8 := hB.save hS8 (fun e => e (by simp))
  clear hL7 hS8 hQ7 hA7 hB
  go_upto_region 8 with fail
  have hD := MlBox.new w8 ⟨4, 4, 1, 0, 0, true⟩ 71
  have hbn : Below w8.heap.size w8 (w8.alloc (.cells #[.int .i64 4, .int .i64 4, .int .i64 1, .int .i64 0, .int .i64 0, .bool true] 71)) := ((Below.refl _ _).alloc (Nat.le_refl _) (.cells #[.int .i64 4, .int .i64 4, .int .i64 1, .int .i64 0, .int .i64 0, .bool true] 71))
  have hL9 := hL8.cons (b := w8.heap.size) hbn (Nat.le_refl _) hD.lt
  have hQ9 := hQ8.next hbn
  have hA9 := hA8.next hbn
  have hB9 := hB8.next hbn
  dsimp only at hD
  generalize (w8.alloc (.cells #[.int .i64 4, .int .i64 4, .int .i64 1, .int .i64 0, .int .i64 0, .bool true] 71)) = W9 at hD hL9 hQ9 hA9 hB9 ⊢
  generalize w8.heap.size = bd at hD hL9 ⊢
  clear hL8 hQ8 hA8 hB8 hbn
  go_wp2_with fail
  refine Calls.mono (ans_is mC4 hL9 goodC2.good (by decide) (by decide) ansC4) ?_
  rintro e w10 ⟨rfl, hL10, hS10⟩
  have hQ10 := hQ9.save hS10 (fun e => e (by simp))
  have hA10 := hA9.save hS10 (fun e => e (by simp))
  have hB10 := hB9.save hS10 (fun e => e (by simp))
  have hD10 := hD.save hS10 (fun e => e (by simp))
  clear hL9 hS10 hQ9 hA9 hB9 hD
  go_upto_region 9 with fail
  have hbn : Below w10.heap.size w10 (w10.alloc (.cells #[.int .i64 0, .int .i64 0, .int .i64 0, .int .i64 0, .int .i64 0, .bool false] 71)) := ((Below.refl _ _).alloc (Nat.le_refl _) _)
  have hL11 := hL10.next hbn
  have hQ11 := hQ10.next hbn
  have hA11 := hA10.next hbn
  have hB11 := hB10.next hbn
  have hD11 := hD10.next hbn
  generalize (w10.alloc (.cells #[.int .i64 0, .int .i64 0, .int .i64 0, .int .i64 0, .int .i64 0, .bool false] 71)) = W11 at hL11 hQ11 hA11 hB11 hD11 ⊢
  clear hL10 hQ10 hA10 hB10 hD10 hbn
  obtain ⟨q, cc0, hcl, hKL⟩ := hL11.keeper
  obtain ⟨p, k0, hql, hLs⟩ := hKL.shop
  have HK : Hid (∀ w', Below W11.heap.size W11 w' → w'.cell? ⟨c, 0, none⟩ = some (.pointer (some ⟨q, 0, none⟩)) ∧ w'.cell? ⟨q, 0, none⟩ = some (.pointer (some ⟨p, 0, none⟩)) ∧ w'.cell? ⟨bw, 0, none⟩ = some (.int .i64 2) ∧ w'.cell? ⟨bw, 1, none⟩ = some (.int .i64 (-6)) ∧ w'.cell? ⟨ba, 0, none⟩ = some (.int .i64 2) ∧ w'.cell? ⟨ba, 3, none⟩ = some (.int .i64 2) ∧ w'.cell? ⟨ba, 4, none⟩ = some (.int .i64 (-6)) ∧ w'.cell? ⟨ba, 5, none⟩ = some (.bool true) ∧ w'.cell? ⟨bb, 5, none⟩ = some (.bool false) ∧ w'.cell? ⟨bd, 0, none⟩ = some (.int .i64 4) ∧ w'.cell? ⟨bd, 5, none⟩ = some (.bool true)) := fun w' hb => by
    have h1 := hQ11.next hb
    have h2 := hA11.next hb
    have h3 := hB11.next hb
    have h4 := hD11.next hb
    exact ⟨((bcell hb).1 _ _ hcl).trans cc0, ((bcell hb).1 _ _ hql).trans k0, h1.2 0 _ rfl, h1.2 1 _ rfl, h2.c0, h2.c3, h2.c4, h2.c5, h3.c5, h4.c0, h4.c5⟩
  have HCr : Hid (∀ W' : World, Below W11.heap.size W11 W' → Calls Try.prog 28 #[.pointer (some ⟨q, 0, none⟩)] W' fun e w' => (∃ ga cap, e = .returned (.slice ga 2 cap)) ∧ Below W'.heap.size W' w') := fun W' hW => (recs_live (hKL.next hW) (by decide)).mono (fun e w' h => by
    obtain ⟨⟨ga, cap, e1, _⟩, _, e2⟩ := h
    exact ⟨⟨ga, cap, e1⟩, e2⟩)
  have HCc : Hid (∀ W' : World, Below W11.heap.size W11 W' → Calls Try.prog 18 #[.pointer (some ⟨p, 0, none⟩)] W' fun e w' => e = .returned (.agg #[.int .i64 4, .int .i64 0, .int .i64 0, .int .i64 20, .int .i64 0, .int .i64 0]) ∧ Below W'.heap.size W' w') := fun W' hW => (counts_live (hLs.next hW)).mono (fun e w' h => ⟨h.1, h.2.2⟩)
  have HB9 : Hid (Below w.heap.size w W11) := hL11.below
  have hq1 : ∀ W : World, (Op.equalIn 10000 69 (.agg #[.int .i64 2, .int .i64 (-6)]) (.agg #[.int .i64 2, .int .i64 (-6)])).run Try.prog W = .ok true W := fun W => by rw [eqWt]; rfl
  have hq2 := idx2
  have hq3 := fld3
  clear hL11 hQ11 hA11 hB11 hD11 hKL hLs cc0 k0
  obtain ⟨e0, e1, e2, e3, e4, e5, e6, e7, e8, e9, e10⟩ := HK.out W11 (Below.refl _ _)
  go_wp2_with fail
  refine Calls.mono (HCc.out _ (Below.refl _ _)) ?_
  rintro e w11 ⟨rfl, hb11⟩
  have f0 := (HK.out w11 hb11).1
  clear e0 e1 e2 e3 e4 e5 e6 e7 e8 e9 e10 hq1
  go_wp2_with fail
  refine Calls.mono (HCr.out _ hb11) ?_
  rintro e w12 ⟨⟨gb, capb, rfl⟩, hb12⟩
  go_wp2_with fail
  go_ret
  exact ⟨rfl, after (after HB9.out hb11 HB9.out.size) hb12 (Nat.le_trans HB9.out.size hb11.size)⟩

end Go.Proofs.Ytbgnajcmhmpjlab

/- How a list of steps of a post, and one step, come in as arguments. -/
namespace Go.Proofs.Ytbgnajcmhmpjlab
open Go.ChangeShapes Go.WideShapes Go.ChangeAt Go.RowKit Go.Deep

/-- A step: what is done, the number, the mail. -/
structure PSp where
  what : Int
  n : Int
  m : Ml
def PSp.cells (x : PSp) : List Value := [.int .i64 x.what, .int .i64 x.n, .int .i64 x.m.kind, .int .i64 x.m.deal, .int .i64 x.m.shop, .int .i64 x.m.c, .int .i64 x.m.d, .bool x.m.yes]
/-- A list of steps as memory holds it. -/
def PStepsAt (w : World) (la : Option Addr) (l : List PSp) : Prop := ∀ k x, l[k]? = some x → ∃ b off, la = some ⟨b, off, none⟩ ∧ b < w.heap.size ∧ ∀ j v, x.cells[j]? = some v → w.cell? ⟨b, off + k * 8 + j, none⟩ = some v
theorem PStepsAt.below {w w' : World} {B : Nat} {la : Option Addr} {l : List PSp} (h : PStepsAt w la l) (hb : Below B w w') (hB : w.heap.size ≤ B) : PStepsAt w' la l := by
  intro k x hk
  obtain ⟨b, off, e, hlt, h0⟩ := h k x hk
  have hb' : b < B := by omega
  exact ⟨b, off, e, Nat.lt_of_lt_of_le hlt hb.size, fun j v hj => (hb.cell (p := ⟨b, _, none⟩) hb').trans (h0 j v hj)⟩

theorem Try.cellsPStepP : Try.prog.cellsOf 73 = 8 := by kernel_rfl
theorem Try.cellsMailP : Try.prog.cellsOf 71 = 6 := by kernel_rfl
theorem Try.cellsBoolQ : Try.prog.cellsOf 4 = 1 := by kernel_rfl

set_option maxRecDepth 20000 in
theorem open_mail {H : Type} {enc : TypeId × Value → H} {W : World} {b : Nat} {sp : Nat → Bool} {held : Bool} {fuel : Nat} {cs : List Value} {x : DataW H × List MemPlace} (hlen : cs.length = 6) (h : DataW.trod enc Try.prog W b sp held fuel 71 cs = some x) : ∃ m : Ml, cs = m.cells := by
  obtain ⟨xs, k, hk, hxy, _, hxl, hf⟩ := DataW.trod_struct Try.underlying71 h
  match xs, hxl, cs, hlen with
  | [z0, z1, z2, z3, z4], _, [v0, v1, v2, v3, v4, v5], _ =>
    have f0 := hf 0 _ rfl
    have f1 := hf 1 _ rfl
    have f2 := hf 2 _ rfl
    have f3 := hf 3 _ rfl
    have f4 := hf 4 _ rfl
    simp [Try.cellsIntP, Try.cellsWantP, Try.cellsBoolQ] at f0 f1 f2 f3 f4
    obtain ⟨a0, e0, _⟩ := DataW.trod_int Try.underlying3 f0
    obtain ⟨a1, e1, _⟩ := DataW.trod_int Try.underlying3 f1
    obtain ⟨a2, e2, _⟩ := DataW.trod_int Try.underlying3 f2
    obtain ⟨ys, k2, hk2, hxy2, _, hxl2, hf2⟩ := DataW.trod_struct Try.underlying69 f3
    match ys, hxl2 with
    | [t0, t1], _ =>
    have g0 := hf2 0 _ rfl
    have g1 := hf2 1 _ rfl
    simp [Try.cellsIntP] at g0 g1
    obtain ⟨a3, e3, _⟩ := DataW.trod_int Try.underlying3 g0
    obtain ⟨a4, e4, _⟩ := DataW.trod_int Try.underlying3 g1
    obtain ⟨a5, e5, _⟩ := DataW.trod_bool Try.underlying4 f4
    simp at e0 e1 e2 e3 e4 e5
    exact ⟨⟨a0, a1, a2, a3, a4, a5⟩, by rw [e0, e1, e2, e3, e4, e5]; rfl⟩
set_option maxRecDepth 20000 in
theorem open_pstep {H : Type} {enc : TypeId × Value → H} {W : World} {b : Nat} {sp : Nat → Bool} {held : Bool} {fuel : Nat} {cs : List Value} {x : DataW H × List MemPlace} (hlen : cs.length = 8) (h : DataW.trod enc Try.prog W b sp held fuel 73 cs = some x) : ∃ s : PSp, cs = s.cells := by
  obtain ⟨xs, k, hk, hxy, _, hxl, hf⟩ := DataW.trod_struct Try.underlying73 h
  match xs, hxl, cs, hlen with
  | [z0, z1, z2], _, [v0, v1, v2, v3, v4, v5, v6, v7], _ =>
    have f0 := hf 0 _ rfl
    have f1 := hf 1 _ rfl
    have f2 := hf 2 _ rfl
    simp [Try.cellsIntP, Try.cellsMailP] at f0 f1 f2
    obtain ⟨a0, e0, _⟩ := DataW.trod_int Try.underlying3 f0
    obtain ⟨a1, e1, _⟩ := DataW.trod_int Try.underlying3 f1
    obtain ⟨m, e2⟩ := open_mail rfl f2
    simp [Ml.cells] at e0 e1 e2
    obtain ⟨q0, q1, q2, q3, q4, q5⟩ := e2
    exact ⟨⟨a0, a1, m⟩, by rw [e0, e1, q0, q1, q2, q3, q4, q5]; rfl⟩

theorem open_psteps {H : Type} {enc : TypeId × Value → H} {W : World} {held : Bool} {a : Option Addr} {l c : Nat} {d : DataW H} {ps : List MemPlace} (hd : DataW.Trod enc Try.prog W 0 (fun _ => true) held 63 (.slice a l c) d ps) :
    ∃ m : List PSp, PStepsAt W a m ∧ m.length = l := by
  obtain ⟨fuel, hf⟩ := hd
  rcases open_slice Try.underlying63 hf with ⟨hcs, _⟩ | ⟨x, l', c', m, n, D, Pl, hcs, _, hl, hm, hz, _, hx⟩
  · simp [Value.cells] at hcs
    obtain ⟨rfl, rfl, rfl⟩ := hcs
    exact ⟨[], by intro k x h; simp at h, rfl⟩
  · simp [Value.cells] at hcs
    obtain ⟨rfl, rfl, rfl⟩ := hcs
    simp only [if_true] at hz
    have each : ∀ k, k < l → ∃ q : PSp, ∀ j v, q.cells[j]? = some v → W.cell? (x.add (k * 8 + j)) = some v := by
      intro k hk
      obtain ⟨cs, h1, h2⟩ := hx k (by omega)
      rw [Try.cellsPStepP] at h1
      obtain ⟨_, hlen, hcell⟩ := World.cells?_some h1
      obtain ⟨s, rfl⟩ := open_pstep hlen h2
      refine ⟨s, fun j v hj => ?_⟩
      have hj' := (List.getElem?_eq_some_iff.1 hj).1
      have q := hcell j (by simpa [PSp.cells] using hj')
      rw [add_add] at q
      rw [q]
      exact hj
    haveI : Inhabited PSp := ⟨⟨0, 0, ⟨0, 0, 0, 0, 0, false⟩⟩⟩
    obtain ⟨q, hq⟩ := choose_lt each
    refine ⟨(List.range l).map q, ?_, by simp⟩
    intro k s hk
    have hk' : k < l := by have := (List.getElem?_eq_some_iff.1 hk).1; simpa using this
    have eq : q k = s := by
      rw [List.getElem?_map, List.getElem?_range hk'] at hk
      simpa using hk
    have h00 := hq 0 (by omega) 0 _ rfl
    obtain ⟨bb, off, spot⟩ := x
    have hspot : spot = none := by simpa [Addr.add] using World.cell?_spot h00
    subst hspot
    rw [add_plain] at h00
    refine ⟨bb, off, rfl, World.block_lt_of_cell? W _ h00, fun j v hj => ?_⟩
    have := hq k hk' j v (by rw [eq]; exact hj)
    rw [add_plain] at this
    rw [Nat.add_assoc]; exact this

end Go.Proofs.Ytbgnajcmhmpjlab

namespace Go.Proofs.Ytbgnajcmhmpjlab
open Go.ChangeShapes Go.WideShapes Go.ChangeAt Go.RowKit Go.Deep

theorem open_mails {H : Type} {enc : TypeId × Value → H} {W : World} {held : Bool} {a : Option Addr} {l c : Nat} {d : DataW H} {ps : List MemPlace} (hd : DataW.Trod enc Try.prog W 0 (fun _ => true) held 66 (.slice a l c) d ps) :
    ∃ m : List Ml, MailsAt W a m ∧ m.length = l := by
  obtain ⟨fuel, hf⟩ := hd
  rcases open_slice Try.underlying66 hf with ⟨hcs, _⟩ | ⟨x, l', c', m, n, D, Pl, hcs, _, hl, hm, hz, _, hx⟩
  · simp [Value.cells] at hcs
    obtain ⟨rfl, rfl, rfl⟩ := hcs
    exact ⟨[], by intro k x h; simp at h, rfl⟩
  · simp [Value.cells] at hcs
    obtain ⟨rfl, rfl, rfl⟩ := hcs
    simp only [if_true] at hz
    have each : ∀ k, k < l → ∃ q : Ml, ∀ j v, q.cells[j]? = some v → W.cell? (x.add (k * 6 + j)) = some v := by
      intro k hk
      obtain ⟨cs, h1, h2⟩ := hx k (by omega)
      rw [Try.cellsMailP] at h1
      obtain ⟨_, hlen, hcell⟩ := World.cells?_some h1
      obtain ⟨s, rfl⟩ := open_mail hlen h2
      refine ⟨s, fun j v hj => ?_⟩
      have hj' := (List.getElem?_eq_some_iff.1 hj).1
      have q := hcell j (by simpa [Ml.cells] using hj')
      rw [add_add] at q
      rw [q]
      exact hj
    haveI : Inhabited Ml := ⟨⟨0, 0, 0, 0, 0, false⟩⟩
    obtain ⟨q, hq⟩ := choose_lt each
    refine ⟨(List.range l).map q, ?_, by simp⟩
    intro k s hk
    have hk' : k < l := by have := (List.getElem?_eq_some_iff.1 hk).1; simpa using this
    have eq : q k = s := by
      rw [List.getElem?_map, List.getElem?_range hk'] at hk
      simpa using hk
    have h00 := hq 0 (by omega) 0 _ rfl
    obtain ⟨bb, off, spot⟩ := x
    have hspot : spot = none := by simpa [Addr.add] using World.cell?_spot h00
    subst hspot
    rw [add_plain] at h00
    refine ⟨bb, off, rfl, World.block_lt_of_cell? W _ h00, fun j v hj => ?_⟩
    have := hq k hk' j v (by rw [eq]; exact hj)
    rw [add_plain] at this
    rw [Nat.add_assoc]; exact this

set_option maxRecDepth 20000 in
theorem open_mailV {H : Type} {enc : TypeId × Value → H} {W : World} {b : Nat} {sp : Nat → Bool} {held : Bool} {r : Reach} {b0 : Nat} {v : Value} {d : DataW H} {ps : List MemPlace} (hval : Value.okWide Try.prog W r b0 71 v) (hd : DataW.Trod enc Try.prog W b sp held 71 v d ps) :
    ∃ x : Ml, v = .agg #[.int .i64 x.kind, .int .i64 x.deal, .int .i64 x.shop, .int .i64 x.c, .int .i64 x.d, .bool x.yes] := by
  simp only [Value.okWide, Try.underlying71] at hval
  obtain ⟨cs, rfl, h2, _⟩ := hval
  rw [Try.cellsMailP] at h2
  obtain ⟨fuel, hf⟩ := hd
  obtain ⟨l⟩ := cs
  simp only [Value.cells] at hf
  obtain ⟨s, hs⟩ := open_mail (by simpa using h2) hf
  refine ⟨s, ?_⟩
  have hs' : l = s.cells := hs
  rw [hs']
  rfl

end Go.Proofs.Ytbgnajcmhmpjlab
