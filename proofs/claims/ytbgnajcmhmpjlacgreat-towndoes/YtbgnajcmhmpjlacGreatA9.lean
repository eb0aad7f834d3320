/- The contract of NewMarket. -/
import Derived.BigQuiet
import Derived.Test.YtbgnajcmhmpjlacGreatA8

/- A market of the document's: the contracts of its tick and deliver. -/
namespace Go.Proofs.YtbgnajcmhmpjlacGreat
open Go.RowKit

def MkIn (p : Nat) (ws : Nat → Int) (T : Twn) (O : Nat → Prop) (w : World) : Prop := MktIn 107 42 3 O w p ws T
theorem mk_stands (p : Nat) (ws : Nat → Int) (T : Twn) : Stands (MkIn p ws T) := mkt_stands 107 42 3 p ws T
theorem MkIn.own {p : Nat} {ws : Nat → Int} {T : Twn} {O : Nat → Prop} {w : World} (h : MkIn p ws T O w) : ∀ k, O k → k < w.heap.size := (mk_stands p ws T).own h
theorem MkIn.next {p : Nat} {ws : Nat → Int} {T : Twn} {O : Nat → Prop} {w w1 : World} (h : MkIn p ws T O w) (hb : Below w.heap.size w w1) : MkIn p ws T O w1 := (mk_stands p ws T).next h hb
theorem MkIn.lt {p : Nat} {ws : Nat → Int} {T : Twn} {O : Nat → Prop} {w : World} (h : MkIn p ws T O w) : p < w.heap.size := MktIn.lt h
theorem MkIn.book {p : Nat} {ws : Nat → Int} {T : Twn} {O : Nat → Prop} {w : World} (h : MkIn p ws T O w) : ∃ OB, BokIn 107 42 3 OB w p 0 T.B ∧ (∀ k, OB k → O k) ∧ ∀ (w' : World) (B' : Bok), BokTo 107 42 3 OB w w' p 0 B' → To (MkIn p ws { T with B := B' }) O w w' := MktIn.book h
theorem MkIn.bag {p : Nat} {ws : Nat → Int} {T : Twn} {O : Nat → Prop} {w : World} (h : MkIn p ws T O w) : ∃ OM, MailIn OM w p 11 T.M ∧ (∀ k, OM k → O k) ∧ ∀ (w' : World) (l' : List Ml), Sent OM w w' p 11 l' → To (MkIn p ws { T with M := l' }) O w w' := MktIn.bag h
theorem MkIn.pen {p : Nat} {ws : Nat → Int} {T : Twn} {O : Nat → Prop} {w : World} (h : MkIn p ws T O w) {s : Nat} (hs : s < 3) : ∃ OP q, w.cell? ⟨p, 8 + s, none⟩ = some (.pointer (some ⟨q, 0, none⟩)) ∧ PenIn OP w q (T.P s) ∧ (∀ k, OP k → O k) ∧ ¬ OP p ∧ ∀ (w' : World) (K' : Kb), PenTo OP w w' q K' → To (MkIn p ws { T with P := updP T.P s K' }) O w w' := MktIn.pen h hs
theorem gsend_mk {O : Nat → Prop} {p : Nat} {ws : Nat → Int} {T : Twn} (x : Ml) {w : World} (h : MkIn p ws T O w) (hl : T.M.length ≤ 40) :
    Calls Tryz.prog 72 #[.pointer (some ⟨p, 11, none⟩), .agg #[.int .i64 x.kind, .int .i64 x.deal, .int .i64 x.shop, .int .i64 x.c, .int .i64 x.d, .bool x.yes]] w fun e w' => e = .returned (.bool (sendR T.M x).1) ∧ To (MkIn p ws { T with M := (sendR T.M x).2 }) O w w' := by
  obtain ⟨Om, hM, _, hS⟩ := h.bag
  exact (gsend_any Om T.M p 11 x w hM (by omega)).mono (fun e w' q => ⟨q.1, hS w' _ q.2⟩)
theorem qhear_mk {O : Nat → Prop} {p : Nat} {ws : Nat → Int} {T : Twn} (x : Ml) {w : World} (h : MkIn p ws T O w) (hI : BInv T.B) :
    Calls Tryz.prog 73 #[.pointer (some ⟨p, 0, none⟩), .agg #[.int .i64 x.kind, .int .i64 x.deal, .int .i64 x.shop, .int .i64 x.c, .int .i64 x.d, .bool x.yes]] w fun e w' => e = .returned (.tuple #[]) ∧ To (MkIn p ws { T with B := hearR T.B x }) O w w' := by
  obtain ⟨Ob, hB, _, hS⟩ := h.book
  exact (qhear_any Ob T.B p x w hB hI).mono (fun e w' q => ⟨q.1, hS w' _ q.2⟩)
theorem qdue_mk {O : Nat → Prop} {p : Nat} {ws : Nat → Int} {T : Twn} {w : World} (h : MkIn p ws T O w) (hI : BInv T.B) :
    Calls Tryz.prog 42 #[.pointer (some ⟨p, 0, none⟩)] w fun e w' => (∃ ga cap, e = .returned (.slice ga (dueR T.B).length cap) ∧ MailsAt w' ga (dueR T.B) ∧ ∀ a, ga = some a → ¬ O a.block ∧ w.heap.size ≤ a.block ∧ a.block < w'.heap.size) ∧ Below w.heap.size w w' := by
  obtain ⟨Ob, hB, _, _⟩ := h.book
  refine (qdue_any Ob T.B p w hB hI).mono ?_
  rintro e w' ⟨⟨v, he, hv⟩, hb⟩
  have hsl := hv
  obtain ⟨ga, cap, rfl, hM, _⟩ := mails_of_own hv
  refine ⟨⟨ga, cap, he, hM, fun a ha => ?_⟩, hb⟩
  subst ha
  obtain ⟨q1, q2⟩ := hsl.lt a.block rfl
  exact ⟨fun q => by have := h.own _ q; omega, q1, q2⟩

set_option maxHeartbeats 4000000 in
set_option maxRecDepth 100000 in
theorem mtick_any {O : Nat → Prop} {p : Nat} {ws : Nat → Int} {T : Twn} {w : World} (h : MkIn p ws T O w) (hI : BInv T.B) (hM : T.M.length ≤ 40) :
    Calls Tryz.prog 34 #[.pointer (some ⟨p, 0, none⟩)] w fun e w' => e = .returned (.tuple #[]) ∧ To (MkIn p ws (tickR T)) O w w' := by
  have HI := hid h
  have HM := hid hM
  have HD := hid (qdue_mk h hI)
  have HN : Hid ((dueR T.B).length ≤ 32) := due_room hI
  have HE : Hid (tickR T = { T with M := sendAll T.M (dueR T.B) }) := rfl
  clear h hI hM
  go_enter Tryz.func34, Tryz.ntmps34
  go_wp2_with fail
  refine Calls.mono HD.out ?_
  rintro e w0 ⟨⟨ga, cap, rfl, hl, hga⟩, hb0⟩
  have HL := hid hl
  have HGa := hid hga
  have HI0 := hid (HI.out.next hb0)
  have HB0 := hid hb0
  generalize dueR T.B = l at *
  clear hl hga hb0 HD
  go_wp2_with fail
  go_loopg [3] l.length (fun g s3 wr => ∃ k : Nat, k ≤ l.length ∧ g = l.length - k ∧ s3 = .int .i64 k ∧ Hid (To (MkIn p ws { T with M := sendAll T.M (l.take k) }) O w0 wr))
  case atStart => exact ⟨0, Nat.zero_le _, rfl, rfl, To.stay (mk_stands ..) HI0.out (Below.refl _ _)⟩
  case round =>
  obtain ⟨k, hk, rfl, rfl, HT⟩ := hrel
  by_cases hlt : k < l.length
  case neg =>
    have j1 : ¬ (k : Int) < (l.length : Int) := by omega
    have hE : l.take k = l := List.take_of_length_le (by omega)
    rw [hE] at HT
    clear hE hk
    go_wp2_with fail
    exact bodyPost_end (v := .tuple #[]) (by simp [results, Tryz.results34, go_sem]) rfl ⟨rfl, by rw [HE.out]; exact HT.out.behind HB0.out⟩
  obtain ⟨x, hx⟩ : ∃ x, l[k]? = some x := ⟨_, List.getElem?_eq_getElem hlt⟩
  obtain ⟨O1, h1, h2, h3⟩ := HT.out
  have HKn : Hid (k < l.length) := hlt
  obtain ⟨bg, og, rfl, hbg, hcell⟩ := HL.out k x hx
  have hno := HGa.out _ rfl
  have HE2 : Hid (sendAll T.M (l.take (k + 1)) = (sendR (sendAll T.M (l.take k)) x).2) := by
    show _ = _
    rw [take_snoc hx, sendAll_snoc]
  have hlen : (sendAll T.M (l.take k)).length ≤ 40 := all_len HM.out
  have hbl : bg < wr.heap.size := Nat.lt_of_lt_of_le hbg h2.size
  have hc : ∀ j, wr.cell? ⟨bg, j, none⟩ = w0.cell? ⟨bg, j, none⟩ := fun j => h2.cell (p := ⟨bg, j, none⟩) hbg hno.1
  have HQ : Hid (∀ w', Save O1 wr w' → w'.cell? ⟨bg, og + k * 6, none⟩ = some (.int .i64 x.kind) ∧ w'.cell? ⟨bg, og + k * 6 + 1, none⟩ = some (.int .i64 x.deal) ∧ w'.cell? ⟨bg, og + k * 6 + 2, none⟩ = some (.int .i64 x.shop) ∧ w'.cell? ⟨bg, og + k * 6 + 3, none⟩ = some (.int .i64 x.c) ∧ w'.cell? ⟨bg, og + k * 6 + 4, none⟩ = some (.int .i64 x.d) ∧ w'.cell? ⟨bg, og + k * 6 + 5, none⟩ = some (.bool x.yes)) := fun w' hs => by
    have hn1 : ¬ O1 bg := fun q => (h3 bg q).elim hno.1 (fun z => by omega)
    have q : ∀ o, w'.cell? ⟨bg, o, none⟩ = w0.cell? ⟨bg, o, none⟩ := fun o => (hs.cell (p := ⟨bg, o, none⟩) hbl hn1).trans (hc o)
    exact ⟨(q _).trans (hcell 0 _ rfl), (q _).trans (hcell 1 _ rfl), (q _).trans (hcell 2 _ rfl), (q _).trans (hcell 3 _ rfl), (q _).trans (hcell 4 _ rfl), (q _).trans (hcell 5 _ rfl)⟩
  have j0 : (0 : Int) ≤ (k : Int) := by omega
  have j1 : (k : Int) < (l.length : Int) := by omega
  have j2 : (l.length : Int) ≤ 32 := by have := HN.out; omega
  have HI1 : Hid (MkIn p ws { T with M := sendAll T.M (l.take k) } O1 wr) := h1
  have HS2 : Hid (Save O w0 wr ∧ Moved O O1 w0) := ⟨h2, h3⟩
  have HLen := hid hlen
  clear h1 h2 h3 hc hcell hno hx hk hlt hlen hbl hbg
  generalize sendAll T.M (l.take k) = M1 at *
  have HS : Hid (∀ W, Below wr.heap.size wr W → Calls Tryz.prog 72 #[.pointer (some ⟨p, 11, none⟩), .agg #[.int .i64 x.kind, .int .i64 x.deal, .int .i64 x.shop, .int .i64 x.c, .int .i64 x.d, .bool x.yes]] W fun e w' => e = .returned (.bool (sendR M1 x).1) ∧ To (MkIn p ws { T with M := (sendR M1 x).2 }) O1 W w') := fun W hW => gsend_mk x (HI1.out.next hW) HLen.out
  go_upto_region 4 with fail
  go_region_held3 (fun w' => w'.cell? ⟨bg, og + k * 6, none⟩ = some (.int .i64 x.kind) ∧ w'.cell? ⟨bg, og + k * 6 + 1, none⟩ = some (.int .i64 x.deal) ∧ w'.cell? ⟨bg, og + k * 6 + 2, none⟩ = some (.int .i64 x.shop) ∧ w'.cell? ⟨bg, og + k * 6 + 3, none⟩ = some (.int .i64 x.c) ∧ w'.cell? ⟨bg, og + k * 6 + 4, none⟩ = some (.int .i64 x.d) ∧ w'.cell? ⟨bg, og + k * 6 + 5, none⟩ = some (.bool x.yes))
    (first | exact HQ.out _ HT9.out.save | exact HQ.out _ (.of_below (by go_grown)))
    (first | (go_at_call 72; refine Calls.mono (HS.out _ (by go_grown)) ?_; rintro e w9 ⟨rfl, hT9⟩; have HT9 : Hid (To (MkIn p ws { T with M := (sendR M1 x).2 }) O1 wr w9) := hT9.behind (by go_grown); clear hT9))
  all_goals
    go_wp2_with fail
    go_roundg (l.length - (k + 1))
    case measure => have := HKn.out; omega
    case rel => exact ⟨k + 1, HKn.out, rfl, by simp, by rw [HE2.out]; exact To.comp HS2.out.1 HS2.out.2 HT9.out⟩

end Go.Proofs.YtbgnajcmhmpjlacGreat

namespace Go.Proofs.YtbgnajcmhmpjlacGreat
open Go.RowKit

def CutR (p : Nat) (ws : Nat → Int) (T : Twn) (O2 : Nat → Prop) (w3 : World) (y : Ml) (nb : Nat) (wx : World) : Prop := ∃ O3, MBx wx nb y ∧ MkIn p ws T O3 wx ∧ Save O2 w3 wx ∧ Moved O2 O3 w3 ∧ ¬ O3 nb
theorem cut_after {p : Nat} {ws : Nat → Int} {T : Twn} {O2 : Nat → Prop} {w3 w9 : World} {y : Ml} (h : To (MkIn p ws T) O2 w3 w9) : CutR p ws T O2 w3 y w9.heap.size (w9.alloc (.cells #[.int .i64 y.kind, .int .i64 y.deal, .int .i64 y.shop, .int .i64 y.c, .int .i64 y.d, .bool y.yes] 70)) := by
  obtain ⟨O3, h3, hS3, hM3⟩ := h
  have hb : Below w9.heap.size w9 (w9.alloc (.cells #[.int .i64 y.kind, .int .i64 y.deal, .int .i64 y.shop, .int .i64 y.c, .int .i64 y.d, .bool y.yes] 70)) := (Below.refl _ _).alloc (Nat.le_refl _) _
  exact ⟨O3, MBx.new w9 y, h3.next hb, hS3.next hb, hM3, fun q => by have := h3.own _ q; omega⟩
theorem cut_before {p : Nat} {ws : Nat → Int} {T : Twn} {O2 : Nat → Prop} {w3 w9 W : World} {y : Ml} {t : TypeId} (h : To (MkIn p ws T) O2 W w9) (hW : Below (w3.alloc (.cells #[.int .i64 0, .int .i64 0, .int .i64 0, .int .i64 0, .int .i64 0, .bool false] t)).heap.size (w3.alloc (.cells #[.int .i64 0, .int .i64 0, .int .i64 0, .int .i64 0, .int .i64 0, .bool false] t)) W) (hO : ∀ k, O2 k → k < w3.heap.size) : CutR p ws T O2 w3 y w3.heap.size ((((((w9.setCell ⟨w3.heap.size, 0, none⟩ (.int .i64 y.kind)).setCell ⟨w3.heap.size, 1, none⟩ (.int .i64 y.deal)).setCell ⟨w3.heap.size, 2, none⟩ (.int .i64 y.shop)).setCell ⟨w3.heap.size, 3, none⟩ (.int .i64 y.c)).setCell ⟨w3.heap.size, 4, none⟩ (.int .i64 y.d)).setCell ⟨w3.heap.size, 5, none⟩ (.bool y.yes)) := by
  obtain ⟨O3, h3, hS3, hM3⟩ := h
  have hz := hW.size
  simp at hz
  have hn2 : ¬ O2 w3.heap.size := fun q => by have := hO _ q; omega
  have hn3 : ¬ O3 w3.heap.size := fun q => (hM3 _ q).elim hn2 (fun z => by omega)
  have ec : ∀ o, w9.cell? ⟨w3.heap.size, o, none⟩ = (w3.alloc (.cells #[.int .i64 0, .int .i64 0, .int .i64 0, .int .i64 0, .int .i64 0, .bool false] t)).cell? ⟨w3.heap.size, o, none⟩ := fun o => (hS3.cell (p := ⟨w3.heap.size, o, none⟩) (show w3.heap.size < W.heap.size by omega) hn2).trans (hW.cell (p := ⟨w3.heap.size, o, none⟩) (by simp))
  have hs9 : w3.heap.size < w9.heap.size := by have := hS3.size; omega
  have hsv : Save (fun j => j = w3.heap.size) w9 ((((((w9.setCell ⟨w3.heap.size, 0, none⟩ (.int .i64 y.kind)).setCell ⟨w3.heap.size, 1, none⟩ (.int .i64 y.deal)).setCell ⟨w3.heap.size, 2, none⟩ (.int .i64 y.shop)).setCell ⟨w3.heap.size, 3, none⟩ (.int .i64 y.c)).setCell ⟨w3.heap.size, 4, none⟩ (.int .i64 y.d)).setCell ⟨w3.heap.size, 5, none⟩ (.bool y.yes)) := ((((((Save.refl (fun j => j = w3.heap.size) w9).setCell (p := ⟨w3.heap.size, 0, none⟩) (fun _ => rfl) _).setCell (p := ⟨w3.heap.size, 1, none⟩) (fun _ => rfl) _).setCell (p := ⟨w3.heap.size, 2, none⟩) (fun _ => rfl) _).setCell (p := ⟨w3.heap.size, 3, none⟩) (fun _ => rfl) _).setCell (p := ⟨w3.heap.size, 4, none⟩) (fun _ => rfl) _).setCell (p := ⟨w3.heap.size, 5, none⟩) (fun _ => rfl) _
  refine ⟨O3, ⟨by simpa using hs9, ?_, ?_, ?_, ?_, ?_, ?_⟩, (mk_stands p ws T).save h3 hsv (fun k hk e => hn3 (by rw [← e]; exact hk)), ?_, fun k hk => ?_, hn3⟩
  · simp [go_sem, ec]
  · simp [go_sem, ec]
  · simp [go_sem, ec]
  · simp [go_sem, ec]
  · simp [go_sem, ec]
  · simp [go_sem, ec]
  · have a1 : Save O2 w3 w9 := ((Save.of_below ((Below.refl _ _).alloc (Nat.le_refl _) _)).next hW).trans hS3 (fun _ _ q => q)
    exact a1.trans hsv (fun j hj e => by omega)
  · rcases hM3 k hk with z | z
    · exact .inl z
    · exact .inr (by omega)

set_option maxHeartbeats 8000000 in
set_option maxRecDepth 100000 in
theorem mdeliver_any {O : Nat → Prop} {p : Nat} {ws : Nat → Int} {T : Twn} (n : Int) {w : World} (h : MkIn p ws T O w) (hR : Rdy ws T) :
    Calls Tryz.prog 35 #[.pointer (some ⟨p, 0, none⟩), .int .i64 n] w fun e w' => e = .returned (.int .i64 (delivR T n).1) ∧ To (MkIn p ws (delivR T n).2) O w w' := by
  have HC : Hid (Calls Tryz.prog 36 #[.pointer (some ⟨p, 11, none⟩), .int .i64 n] w fun e w' => e = .returned (.tuple #[mlV (takeR T.M n).1, .bool (takeR T.M n).2.1]) ∧ To (MkIn p ws { T with M := (takeR T.M n).2.2 }) O w w') := by
    obtain ⟨Om, hM, _, hS⟩ := h.bag
    exact (gtake_any Om T.M p 11 n w hM (by have := hR.ml; omega)).mono (fun e w' q => ⟨q.1, hS w' _ q.2⟩)
  cases hok : (takeR T.M n).2.1 with
  | false =>
    rw [deliv_no hok]
    rw [hok, take_no hok] at HC
    generalize (takeR T.M n).1 = x at HC
    clear h hR hok
    go_enter Tryz.func35, Tryz.ntmps35
    go_wp2_with fail
    refine Calls.mono HC.out ?_
    rintro e w1 ⟨rfl, hT⟩
    have HT := hid hT
    clear hT
    simp only [mlV]
    go_wp2_with fail
    go_ret
    exact ⟨rfl, HT.out.next (mk_stands ..) (by go_grown)⟩
  | true =>
    rw [deliv_yes hok]
    rw [hok] at HC
    have HR : Hid (Rdy ws { T with M := (takeR T.M n).2.2 }) := hR.less (take_len _ _ hR.ml)
    generalize (takeR T.M n).1 = x at HC ⊢
    generalize (takeR T.M n).2.2 = M1 at HC HR ⊢
    generalize hT1 : ({ T with M := M1 } : Twn) = T1 at HC HR ⊢
    clear h hR hok hT1
    go_enter Tryz.func35, Tryz.ntmps35
    go_wp2_with fail
    refine Calls.mono HC.out ?_
    rintro e w1 ⟨rfl, hT⟩
    obtain ⟨O2, h2, hS2, hM2⟩ := hT
    have HI2 := hid h2
    have HS2 : Hid (Save O w w1 ∧ Moved O O2 w) := ⟨hS2, hM2⟩
    clear h2 hS2 hM2 HC
    simp only [mlV]
    go_upto_region 4 with fail
    have hb3 : Below w1.heap.size w1 (w1.alloc (.cells #[.int .i64 x.kind, .int .i64 x.deal, .int .i64 x.shop, .int .i64 x.c, .int .i64 x.d, .bool x.yes] 70)) := (Below.refl _ _).alloc (Nat.le_refl _) _
    have hX := MBx.new w1 x
    have HI3 : Hid (MkIn p ws T1 O2 (w1.alloc (.cells #[.int .i64 x.kind, .int .i64 x.deal, .int .i64 x.shop, .int .i64 x.c, .int .i64 x.d, .bool x.yes] 70))) := HI2.out.next hb3
    have HNo : Hid (¬ O2 w1.heap.size) := fun q => by have := HI2.out.own _ q; omega
    have HB3 : Hid (Below w1.heap.size w1 (w1.alloc (.cells #[.int .i64 x.kind, .int .i64 x.deal, .int .i64 x.shop, .int .i64 x.c, .int .i64 x.d, .bool x.yes] 70))) := hb3
    generalize (w1.alloc (.cells #[.int .i64 x.kind, .int .i64 x.deal, .int .i64 x.shop, .int .i64 x.c, .int .i64 x.d, .bool x.yes] 70)) = w3 at hb3 hX HI3 HB3 ⊢
    generalize w1.heap.size = bx at hX HNo ⊢
    clear hb3
    have x0 := hX.c0
    have HX : Hid (MBx w3 bx x) := hX
    have HBL : Hid (∀ w', Below w3.heap.size w3 w' → w'.cell? ⟨bx, 0, none⟩ = some (.int .i64 x.kind) ∧ w'.cell? ⟨bx, 1, none⟩ = some (.int .i64 x.deal) ∧ w'.cell? ⟨bx, 2, none⟩ = some (.int .i64 x.shop) ∧ w'.cell? ⟨bx, 3, none⟩ = some (.int .i64 x.c) ∧ w'.cell? ⟨bx, 4, none⟩ = some (.int .i64 x.d) ∧ w'.cell? ⟨bx, 5, none⟩ = some (.bool x.yes)) := fun w' hb => ⟨(HX.out.next hb).c0, (HX.out.next hb).c1, (HX.out.next hb).c2, (HX.out.next hb).c3, (HX.out.next hb).c4, (HX.out.next hb).c5⟩
    have HBS : Hid (∀ w', Save O2 w3 w' → w'.cell? ⟨bx, 0, none⟩ = some (.int .i64 x.kind) ∧ w'.cell? ⟨bx, 1, none⟩ = some (.int .i64 x.deal) ∧ w'.cell? ⟨bx, 2, none⟩ = some (.int .i64 x.shop) ∧ w'.cell? ⟨bx, 3, none⟩ = some (.int .i64 x.c) ∧ w'.cell? ⟨bx, 4, none⟩ = some (.int .i64 x.d) ∧ w'.cell? ⟨bx, 5, none⟩ = some (.bool x.yes)) := fun w' hs => by
      have q := HX.out.save hs HNo.out
      exact ⟨q.c0, q.c1, q.c2, q.c3, q.c4, q.c5⟩
    by_cases hk : x.kind = 2 ∨ x.kind = 4
    · have HE := hid (come_hear (T := T1) hk)
      have HS : Hid (∀ W, Below w3.heap.size w3 W → Calls Tryz.prog 73 #[.pointer (some ⟨p, 0, none⟩), .agg #[.int .i64 x.kind, .int .i64 x.deal, .int .i64 x.shop, .int .i64 x.c, .int .i64 x.d, .bool x.yes]] W fun e w' => e = .returned (.tuple #[]) ∧ To (MkIn p ws { T1 with B := hearR T1.B x }) O2 W w') := fun W hW => qhear_mk x (HI3.out.next hW) HR.out.brk
      by_cases hk2 : x.kind = 2
      · have hk2' : (x.kind == 2) = true := by simp [hk2]
        clear hX hk hk2
        go_upto_region 5 with fail
        clear x0
        go_region_held3 (fun w' => w'.cell? ⟨bx, 0, none⟩ = some (.int .i64 x.kind) ∧ w'.cell? ⟨bx, 1, none⟩ = some (.int .i64 x.deal) ∧ w'.cell? ⟨bx, 2, none⟩ = some (.int .i64 x.shop) ∧ w'.cell? ⟨bx, 3, none⟩ = some (.int .i64 x.c) ∧ w'.cell? ⟨bx, 4, none⟩ = some (.int .i64 x.d) ∧ w'.cell? ⟨bx, 5, none⟩ = some (.bool x.yes))
          (first | exact HBS.out _ HT9.out.save | exact HBL.out _ (by go_grown))
          (first | (go_at_call 73; refine Calls.mono (HS.out _ (by go_grown)) ?_; rintro e w9 ⟨rfl, hT9⟩; have HT9 : Hid (To (MkIn p ws { T1 with B := hearR T1.B x }) O2 w3 w9) := hT9.behind (by go_grown); clear hT9))
        all_goals
          go_wp2_with fail
          go_ret
          exact ⟨rfl, by rw [HE.out]; exact To.comp HS2.out.1 HS2.out.2 (HT9.out.behind HB3.out)⟩
      · have hk2' : (x.kind == 2) = false := by simpa using hk2
        have hk4' : (x.kind == 4) = true := by rcases hk with q | q; exact absurd q hk2; simp [q]
        clear hX hk hk2
        go_upto_region 5 with fail
        clear x0
        go_region_held3 (fun w' => w'.cell? ⟨bx, 0, none⟩ = some (.int .i64 x.kind) ∧ w'.cell? ⟨bx, 1, none⟩ = some (.int .i64 x.deal) ∧ w'.cell? ⟨bx, 2, none⟩ = some (.int .i64 x.shop) ∧ w'.cell? ⟨bx, 3, none⟩ = some (.int .i64 x.c) ∧ w'.cell? ⟨bx, 4, none⟩ = some (.int .i64 x.d) ∧ w'.cell? ⟨bx, 5, none⟩ = some (.bool x.yes))
          (first | exact HBS.out _ HT9.out.save | exact HBL.out _ (by go_grown))
          (first | (go_at_call 73; refine Calls.mono (HS.out _ (by go_grown)) ?_; rintro e w9 ⟨rfl, hT9⟩; have HT9 : Hid (To (MkIn p ws { T1 with B := hearR T1.B x }) O2 w3 w9) := hT9.behind (by go_grown); clear hT9))
        all_goals
          go_wp2_with fail
          go_ret
          exact ⟨rfl, by rw [HE.out]; exact To.comp HS2.out.1 HS2.out.2 (HT9.out.behind HB3.out)⟩
    · have HE := hid (come_ans (T := T1) hk)
      have hk2' : (x.kind == 2) = false := by simpa using fun q => hk (.inl q)
      have hk4' : (x.kind == 4) = false := by simpa using fun q => hk (.inr q)
      have x2 := hX.c2
      clear hk
      by_cases hn : 0 ≤ x.shop ∧ x.shop < 3
      case neg =>
        have hEn : ansT T1 x = T1 := by unfold ansT; rw [if_neg hn]
        have HEn := hid hEn
        by_cases h0 : x.shop < 0
        · have h0' : ¬ 0 ≤ x.shop := by omega
          clear hn hEn hX
          go_wp2_with fail
          go_ret
          exact ⟨rfl, by rw [HE.out, HEn.out]; exact To.comp HS2.out.1 HS2.out.2 ((To.stay (mk_stands ..) HI3.out (Below.refl _ _)).behind HB3.out)⟩
        · have h0' : 0 ≤ x.shop := by omega
          have h3' : ¬ x.shop < 3 := by omega
          clear hn hEn hX h0
          go_wp2_with fail
          go_ret
          exact ⟨rfl, by rw [HE.out, HEn.out]; exact To.comp HS2.out.1 HS2.out.2 ((To.stay (mk_stands ..) HI3.out (Below.refl _ _)).behind HB3.out)⟩
      obtain ⟨kd, dl, sh, cc, dd, yy⟩ := x
      dsimp only at *
      obtain ⟨s, rfl⟩ : ∃ s : Nat, sh = (s : Int) := ⟨sh.toNat, by omega⟩
      have hs : s < 3 := by omega
      have hEa := ansT_at (T := T1) (x := ⟨kd, dl, (s : Int), cc, dd, yy⟩) rfl hs
      have s0 : 0 ≤ (s : Int) := hn.1
      have s3 : (s : Int) < 3 := hn.2
      obtain ⟨OP0, q, hq0, _⟩ := HI3.out.pen hs
      have hpl := HI3.out.lt
      have HA : Hid (∀ W, Below w3.heap.size w3 W → Calls Tryz.prog 74 #[.pointer (some ⟨q, 0, none⟩), .agg #[.int .i64 kd, .int .i64 dl, .int .i64 (s : Int), .int .i64 cc, .int .i64 dd, .bool yy]] W fun e w' => e = .returned (ansV (ansR (s : Int) (T1.P s) ⟨kd, dl, (s : Int), cc, dd, yy⟩)) ∧ To (MkIn p ws { T1 with P := updP T1.P s (ansR (s : Int) (T1.P s) ⟨kd, dl, (s : Int), cc, dd, yy⟩).2.2 }) O2 W w' ∧ w'.cell? ⟨p, 8 + s, none⟩ = some (.pointer (some ⟨q, 0, none⟩))) := fun W hW => by
        obtain ⟨OP, q', hq', hP, hsub, hnp, hS⟩ := (HI3.out.next hW).pen hs
        have e1 : W.cell? ⟨p, 8 + s, none⟩ = some (.pointer (some ⟨q, 0, none⟩)) := ((bcell hW).1 _ _ hpl).trans hq0
        rw [e1] at hq'
        have e2 : q = q' := by simpa using hq'
        subst e2
        obtain ⟨_, g1, no, g2, g3, g4⟩ := HR.out.shop s hs
        have z := pans_any OP (T1.P s) q ⟨kd, dl, (s : Int), cc, dd, yy⟩ W hP g1 (by omega) (by omega) (by omega)
        rw [no] at z
        exact z.mono (fun e w' r => ⟨r.1, hS w' _ r.2, (r.2.choose_spec.2.1.cell (p := ⟨p, 8 + s, none⟩) (Nat.lt_of_lt_of_le hpl hW.size) hnp).trans e1⟩)
      have HK : Hid (∀ w', Below w3.heap.size w3 w' → w'.cell? ⟨p, 8 + s, none⟩ = some (.pointer (some ⟨q, 0, none⟩)) ∧ w'.cell? ⟨bx, 0, none⟩ = some (.int .i64 kd) ∧ w'.cell? ⟨bx, 1, none⟩ = some (.int .i64 dl) ∧ w'.cell? ⟨bx, 2, none⟩ = some (.int .i64 (s : Int)) ∧ w'.cell? ⟨bx, 3, none⟩ = some (.int .i64 cc) ∧ w'.cell? ⟨bx, 4, none⟩ = some (.int .i64 dd) ∧ w'.cell? ⟨bx, 5, none⟩ = some (.bool yy)) := fun w' hb => ⟨((bcell hb).1 _ _ hpl).trans hq0, HBL.out w' hb⟩
      have HML : Hid (T1.M.length ≤ 40) := HR.out.ml
      have HEE : Hid (comeR T1 ⟨kd, dl, (s : Int), cc, dd, yy⟩ = { T1 with P := updP T1.P s (ansR (s : Int) (T1.P s) ⟨kd, dl, (s : Int), cc, dd, yy⟩).2.2, M := if (ansR (s : Int) (T1.P s) ⟨kd, dl, (s : Int), cc, dd, yy⟩).2.1 = true then (sendR T1.M (ansR (s : Int) (T1.P s) ⟨kd, dl, (s : Int), cc, dd, yy⟩).1).2 else T1.M }) := HE.out.trans hEa
      have HPL : Hid (p < w3.heap.size ∧ bx < w3.heap.size) := ⟨hpl, HX.out.lt⟩
      clear hn hEa hs hX HE HBL HX
      generalize ansR (s : Int) (T1.P s) ⟨kd, dl, (s : Int), cc, dd, yy⟩ = r at HA HEE
      obtain ⟨y, ok, K'⟩ := r
      simp only [ansV, mlV] at HA
      dsimp only at HEE
      go_upto_region 8 with fail
      clear x0 x2
      go_cut [7, 8] (fun s7 s8 wx => ∃ nb, s7 = .pointer (some ⟨nb, 0, none⟩) ∧ s8 = .bool ok ∧ CutR p ws { T1 with P := updP T1.P s K' } O2 w3 y nb wx)
      case first =>
        have HNw : Hid (¬ O2 w3.heap.size) := fun z => by have := HI3.out.own _ z; omega
        clear HEE HML hq0 hpl
        go_region_held3 (fun w' => w'.cell? ⟨p, 8 + s, none⟩ = some (.pointer (some ⟨q, 0, none⟩)) ∧ w'.cell? ⟨bx, 0, none⟩ = some (.int .i64 kd) ∧ w'.cell? ⟨bx, 1, none⟩ = some (.int .i64 dl) ∧ w'.cell? ⟨bx, 2, none⟩ = some (.int .i64 (s : Int)) ∧ w'.cell? ⟨bx, 3, none⟩ = some (.int .i64 cc) ∧ w'.cell? ⟨bx, 4, none⟩ = some (.int .i64 dd) ∧ w'.cell? ⟨bx, 5, none⟩ = some (.bool yy))
          (first | exact HKr.out _ (by go_grown) | exact HK.out _ (by go_grown))
          (first | (go_at_call 74; refine Calls.mono (HA.out _ (by go_grown)) ?_; rintro e w9 ⟨rfl, hT9, hp9⟩; have HT0 := hid hT9; have HT9 : Hid (To (MkIn p ws { T1 with P := updP T1.P s K' }) O2 w3 w9) := hT9.behind (by go_grown); have HKr : Hid (∀ w', Below w3.heap.size w9 w' → w'.cell? ⟨p, 8 + s, none⟩ = some (.pointer (some ⟨q, 0, none⟩)) ∧ w'.cell? ⟨bx, 0, none⟩ = some (.int .i64 kd) ∧ w'.cell? ⟨bx, 1, none⟩ = some (.int .i64 dl) ∧ w'.cell? ⟨bx, 2, none⟩ = some (.int .i64 (s : Int)) ∧ w'.cell? ⟨bx, 3, none⟩ = some (.int .i64 cc) ∧ w'.cell? ⟨bx, 4, none⟩ = some (.int .i64 dd) ∧ w'.cell? ⟨bx, 5, none⟩ = some (.bool yy)) := (fun w' hb => by obtain ⟨f0, f1, f2, f3, f4, f5⟩ := HBS.out _ HT9.out.save; exact ⟨(hb.cell (p := ⟨p, 8 + s, none⟩) HPL.out.1).trans hp9, (hb.cell (p := ⟨bx, 0, none⟩) HPL.out.2).trans f0, (hb.cell (p := ⟨bx, 1, none⟩) HPL.out.2).trans f1, (hb.cell (p := ⟨bx, 2, none⟩) HPL.out.2).trans f2, (hb.cell (p := ⟨bx, 3, none⟩) HPL.out.2).trans f3, (hb.cell (p := ⟨bx, 4, none⟩) HPL.out.2).trans f4, (hb.cell (p := ⟨bx, 5, none⟩) HPL.out.2).trans f5⟩); have hz9 : w3.heap.size ≤ w9.heap.size := HT9.out.save.size; (try (have ec : ∀ o, w9.cell? ⟨w3.heap.size, o, none⟩ = _ := fun o => HT0.out.save.cell (p := ⟨w3.heap.size, o, none⟩) (by simp) HNw.out; have ef : ∀ o, w9.frozen? ⟨w3.heap.size, o, none⟩ = _ := fun o => HT0.out.save.frozen (p := ⟨w3.heap.size, o, none⟩) (by simp) HNw.out; have hy9 := HT0.out.save.size; simp at hy9; have : w3.heap.size < w9.heap.size := by omega)); clear hT9 hp9))
        all_goals
          go_wp2_with fail
          go_meet
          case rel =>
            refine ⟨_, rfl, rfl, ?_⟩
            first
              | (with_reducible exact cut_after HT9.out)
              | (with_reducible exact cut_before HT0.out ((Below.refl _ _).drew) HI3.out.own)
      case rest =>
      obtain ⟨nb, rfl, rfl, O3, hY, h4, hS4, hM4, hno⟩ := hcut
      have HI4 := hid h4
      have HS4 : Hid (Save O2 w3 wc ∧ Moved O2 O3 w3) := ⟨hS4, hM4⟩
      have HNb := hid hno
      have HY := hid hY
      clear hY h4 hS4 hM4 hno HA HK hq0 HBS
      have HFin : Hid (∀ (T3 : Twn) (wf : World), To (MkIn p ws T3) O3 wc wf → To (MkIn p ws T3) O w wf) := fun T3 wf hz => To.comp HS2.out.1 HS2.out.2 ((To.comp HS4.out.1 HS4.out.2 hz).behind HB3.out)
      cases ok with
      | false =>
        go_wp2_with fail
        go_ret
        exact ⟨rfl, by rw [HEE.out]; exact HFin.out _ _ (To.stay (mk_stands ..) HI4.out (Below.refl _ _))⟩
      | true =>
        have HS : Hid (∀ W, Below wc.heap.size wc W → Calls Tryz.prog 72 #[.pointer (some ⟨p, 11, none⟩), .agg #[.int .i64 y.kind, .int .i64 y.deal, .int .i64 y.shop, .int .i64 y.c, .int .i64 y.d, .bool y.yes]] W fun e w' => e = .returned (.bool (sendR T1.M y).1) ∧ To (MkIn p ws { T1 with P := updP T1.P s K', M := (sendR T1.M y).2 }) O3 W w') := fun W hW => gsend_mk y (HI4.out.next hW) HML.out
        have HKl : Hid (∀ w', Below wc.heap.size wc w' → w'.cell? ⟨nb, 0, none⟩ = some (.int .i64 y.kind) ∧ w'.cell? ⟨nb, 1, none⟩ = some (.int .i64 y.deal) ∧ w'.cell? ⟨nb, 2, none⟩ = some (.int .i64 y.shop) ∧ w'.cell? ⟨nb, 3, none⟩ = some (.int .i64 y.c) ∧ w'.cell? ⟨nb, 4, none⟩ = some (.int .i64 y.d) ∧ w'.cell? ⟨nb, 5, none⟩ = some (.bool y.yes)) := fun w' hb => ⟨(HY.out.next hb).c0, (HY.out.next hb).c1, (HY.out.next hb).c2, (HY.out.next hb).c3, (HY.out.next hb).c4, (HY.out.next hb).c5⟩
        have HKs : Hid (∀ w', Save O3 wc w' → w'.cell? ⟨nb, 0, none⟩ = some (.int .i64 y.kind) ∧ w'.cell? ⟨nb, 1, none⟩ = some (.int .i64 y.deal) ∧ w'.cell? ⟨nb, 2, none⟩ = some (.int .i64 y.shop) ∧ w'.cell? ⟨nb, 3, none⟩ = some (.int .i64 y.c) ∧ w'.cell? ⟨nb, 4, none⟩ = some (.int .i64 y.d) ∧ w'.cell? ⟨nb, 5, none⟩ = some (.bool y.yes)) := fun w' hs => by
          have q := HY.out.save hs HNb.out
          exact ⟨q.c0, q.c1, q.c2, q.c3, q.c4, q.c5⟩
        go_upto_region 10 with fail
        go_region_held3 (fun w' => w'.cell? ⟨nb, 0, none⟩ = some (.int .i64 y.kind) ∧ w'.cell? ⟨nb, 1, none⟩ = some (.int .i64 y.deal) ∧ w'.cell? ⟨nb, 2, none⟩ = some (.int .i64 y.shop) ∧ w'.cell? ⟨nb, 3, none⟩ = some (.int .i64 y.c) ∧ w'.cell? ⟨nb, 4, none⟩ = some (.int .i64 y.d) ∧ w'.cell? ⟨nb, 5, none⟩ = some (.bool y.yes))
          (first | exact HKs.out _ HT8.out.save | exact HKl.out _ (by go_grown))
          (first | (go_at_call 72; refine Calls.mono (HS.out _ (by go_grown)) ?_; rintro e w8 ⟨rfl, hT8⟩; have HT8 : Hid (To (MkIn p ws { T1 with P := updP T1.P s K', M := (sendR T1.M y).2 }) O3 wc w8) := hT8.behind (by go_grown); clear hT8))
        all_goals
          go_wp2_with fail
          go_ret
          exact ⟨rfl, by rw [HEE.out]; exact HFin.out _ _ HT8.out⟩

end Go.Proofs.YtbgnajcmhmpjlacGreat

namespace Go.Proofs.YtbgnajcmhmpjlacGreat
open Go.RowKit

theorem MkIn.bagc {p : Nat} {ws : Nat → Int} {T : Twn} {O : Nat → Prop} {w : World} (h : MkIn p ws T O w) : ∃ ga cap, w.cell? ⟨p, 11, none⟩ = some (.slice ga T.M.length cap) ∧ MailsAt w ga T.M ∧ T.M.length ≤ cap := by
  obtain ⟨OM, hM, _⟩ := h.bag
  obtain ⟨mv, h1, h2, _⟩ := hM.raw
  have h2' := h2
  obtain ⟨ga, cap, rfl, h3, _⟩ := mails_of_own h2
  refine ⟨ga, cap, h1, h3, ?_⟩
  rcases h2'.2 with ⟨e1, e0⟩ | ⟨g, cap', cur, e1, hb, hg, hc, _⟩
  · omega
  · simp at e1
    omega

set_option maxHeartbeats 8000000 in
set_option maxRecDepth 100000 in
theorem mcalm_any {O : Nat → Prop} {p : Nat} {ws : Nat → Int} {T : Twn} {w : World} (h : MkIn p ws T O w) (hF : Full ws T) (ok : ∀ s : Nat, s < 3 → newOk (s : Int) ws = true) :
    Calls Tryz.prog 14 #[.pointer (some ⟨p, 0, none⟩)] w fun e w' => e = .returned (.int .i64 ((calmR 20 0 T).1 : Int)) ∧ To (MkIn p ws (calmR 20 0 T).2) O w w' := by
  have HI := hid h
  have HF := hid hF
  have HO := hid ok
  clear h hF ok
  go_enter Tryz.func14, Tryz.ntmps14
  go_wp2_with fail
  go_loopg [3] 20 (fun g s3 wr => ∃ (n : Nat) (T' : Twn), g = 20 - n ∧ s3 = .int .i64 n ∧ Hid (Clm ws T n T') ∧ Hid (To (MkIn p ws T') O w wr))
  case atStart => exact ⟨0, T, rfl, rfl, clm_start HF.out, To.stay (mk_stands ..) HI.out (Below.refl _ _)⟩
  case round =>
  obtain ⟨n, T', rfl, rfl, HD, HT⟩ := hrel
  have HN : Hid (n < 20) := HD.out.few HF.out
  have j0 : (n : Int) < 20 := by have := HN.out; omega
  have HDr := hid HD.out.drained
  have HX1 : Hid (dueR (drainR 80 T').B = [] → calmR 20 0 T = (n, drainR 80 T')) := fun q => HD.out.out HN.out q
  have HX2 : Hid (dueR (drainR 80 T').B ≠ [] → Clm ws T (n + 1) (tickR (drainR 80 T'))) := fun q => HD.out.turn HN.out q
  have HD0 := hid (drn_start HD.out.full)
  go_wp2_with fail
  go_loopg [] 80 (fun g wx => ∃ T2 : Twn, Hid (Drn ws T' g T2) ∧ Hid (To (MkIn p ws T2) O w wx))
  case atStart => exact ⟨T', HD0, HT⟩
  case round =>
  clear HT HD0
  obtain ⟨T2, HD2, HT2⟩ := hrel
  obtain ⟨O1, h1, h2, h3⟩ := HT2.out
  have HI1 := hid h1
  have HS1 : Hid (Save O w wr ∧ Moved O O1 w) := ⟨h2, h3⟩
  obtain ⟨ga, cap, hbc, _, _⟩ := h1.bagc
  have hpl := h1.lt
  clear h1 h2 h3
  by_cases hM : T2.M = []
  case neg =>
    have hl : (0 : Int) < (T2.M.length : Int) := by
      have : 0 < T2.M.length := List.length_pos_iff.2 hM
      omega
    obtain ⟨_, f, hf, hD3⟩ := HD2.out.step hM
    have HC := hid (mdeliver_any 0 HI1.out (HD2.out.full.rdy HO.out))
    have HD3 := hid hD3
    clear hM hD3
    subst hf
    go_wp2_with fail
    refine Calls.mono HC.out ?_
    rintro e w1 ⟨rfl, hT1⟩
    have HT1 := hid hT1
    clear hT1 hbc HC
    go_wp2_with fail
    go_roundg f
    case measure => omega
    case rel => exact ⟨_, HD3, To.comp HS1.out.1 HS1.out.2 HT1.out⟩
  have hl : ¬ (0 : Int) < (T2.M.length : Int) := by rw [hM]; simp
  have hDe := HD2.out.done hM
  rw [hDe] at HDr HX1 HX2
  clear hM hDe HD2 HD
  have HU := hid (qdue_mk HI1.out HDr.out.1.brk)
  go_wp2_with fail
  refine Calls.mono HU.out ?_
  rintro e w2 ⟨⟨gd, cd, rfl, _⟩, hb2⟩
  have HI2 := hid (HI1.out.next hb2)
  have HB2 := hid hb2
  clear hb2 HU hbc
  by_cases hz : dueR T2.B = []
  · have HE := hid (HX1.out hz)
    have hz' : (((dueR T2.B).length : Int) == 0) = true := by rw [hz]; rfl
    clear hz
    go_wp2_with fail
    go_ret
    exact ⟨by rw [HE.out]; rfl, by rw [HE.out]; exact To.comp HS1.out.1 HS1.out.2 ((To.stay (mk_stands ..) HI2.out (Below.refl _ _)).behind HB2.out)⟩
  · have hz' : (((dueR T2.B).length : Int) == 0) = false := by
      rw [beq_eq_false_iff_ne]
      intro q
      exact hz (List.eq_nil_of_length_eq_zero (by omega))
    have HCl := hid (HX2.out hz)
    have HTk := hid (mtick_any HI2.out HDr.out.1.brk (by rw [HDr.out.2]; simp))
    clear hz
    go_wp2_with fail
    refine Calls.mono HTk.out ?_
    rintro e w3 ⟨rfl, hT3⟩
    have HT3 := hid hT3
    clear hT3 HTk
    go_wp2_with fail
    go_roundg (20 - (n + 1))
    case measure => have := HN.out; omega
    case rel => exact ⟨n + 1, _, rfl, by simp, HCl, To.comp HS1.out.1 HS1.out.2 (HT3.out.behind HB2.out)⟩

end Go.Proofs.YtbgnajcmhmpjlacGreat

namespace Go.Proofs.YtbgnajcmhmpjlacGreat
open Go.RowKit

theorem CutR.to {p : Nat} {ws : Nat → Int} {T : Twn} {O2 : Nat → Prop} {w3 : World} {y : Ml} {nb : Nat} {wx : World} (h : CutR p ws T O2 w3 y nb wx) : To (MkIn p ws T) O2 w3 wx := by
  obtain ⟨O3, _, h1, h2, h3, _⟩ := h
  exact ⟨O3, h1, h2, h3⟩
theorem rep_is {no : Int} {ws : Nat → Int} {K : Kb} {la : Option Addr} {ca : Nat} {w : World} (hG : GoodK (book0 no ws) K) (hok : newOk no ws = true) (hl : StepsAt w la K.rs) (hs : K.rs.length ≤ 24) :
    Calls Tryz.prog 39 #[.int .i64 no, .agg #[.int .i64 (ws 0), .int .i64 (ws 1), .int .i64 (ws 2), .int .i64 (ws 3), .int .i64 (ws 4), .int .i64 (ws 5)], .slice la K.rs.length ca] w fun e w' => (∃ q O, e = .returned (.tuple #[.pointer (some ⟨q, 0, none⟩), .agg #[.int .i64 0, .int .i64 0]]) ∧ BoothIn O w' q K.A ∧ ∀ k, O k → w.heap.size ≤ k) ∧ Below w.heap.size w w' := by
  refine (brep_any no ws la K.rs.length ca K.rs w hl rfl (by omega)).mono ?_
  rintro e w' ⟨h, hb⟩
  unfold BRepIs at h
  rw [if_pos hok, if_pos (by rw [hG.fault]), hG.run] at h
  exact ⟨h, hb⟩

set_option maxHeartbeats 8000000 in
set_option maxRecDepth 100000 in
theorem mstep_any {O : Nat → Prop} {p : Nat} {ws : Nat → Int} {T : Twn} (x : TSp) {sa : Option Addr} {sc : Nat} {w : World} (h : MkIn p ws T O w) (hR : Rdy ws T) (hx : WantsAt w sa x.w) :
    Calls Tryz.prog 9 #[.pointer (some ⟨p, 0, none⟩), .agg #[.int .i64 x.kind, .int .i64 x.n, .slice sa x.w.length sc]] w fun e w' => e = .returned (.int .i64 (townR T x).1) ∧ To (MkIn p ws (townR T x).2) O w w' := by
  have HR := hid hR
  go_enter Tryz.func9, Tryz.ntmps9
  go_upto_region 1 with fail
  have hb1 : Below w.heap.size w (w.alloc (.cells #[.int .i64 x.kind, .int .i64 x.n, .slice sa x.w.length sc] 34)) := (Below.refl _ _).alloc (Nat.le_refl _) _
  have hY : BoxAt (w.alloc (.cells #[.int .i64 x.kind, .int .i64 x.n, .slice sa x.w.length sc] 34)) w.heap.size [.int .i64 x.kind, .int .i64 x.n, .slice sa x.w.length sc] := BoxAt.new w [.int .i64 x.kind, .int .i64 x.n, .slice sa x.w.length sc] 34
  have HI : Hid (MkIn p ws T O (w.alloc (.cells #[.int .i64 x.kind, .int .i64 x.n, .slice sa x.w.length sc] 34))) := h.next hb1
  have HX : Hid (WantsAt (w.alloc (.cells #[.int .i64 x.kind, .int .i64 x.n, .slice sa x.w.length sc] 34)) sa x.w) := hx.below hb1 (Nat.le_refl _)
  have HB : Hid (Below w.heap.size w (w.alloc (.cells #[.int .i64 x.kind, .int .i64 x.n, .slice sa x.w.length sc] 34))) := hb1
  have HNo : Hid (¬ O w.heap.size) := fun q => by have := h.own _ q; omega
  clear h hR hx hb1
  generalize (w.alloc (.cells #[.int .i64 x.kind, .int .i64 x.n, .slice sa x.w.length sc] 34)) = w1 at hY HI HX HB ⊢
  generalize w.heap.size = bx at hY HNo ⊢
  have y0 := hY.2 0 _ rfl
  have y1 := hY.2 1 _ rfl
  have y2 := hY.2 2 _ rfl
  have hbx := hY.1
  have HY := hid hY
  clear hY
  have hpl : p < w1.heap.size := HI.out.lt
  have HKs : Hid (∀ w', Save O w1 w' → w'.cell? ⟨bx, 1, none⟩ = some (.int .i64 x.n) ∧ w'.cell? ⟨bx, 2, none⟩ = some (.slice sa x.w.length sc)) := fun w' hs => ⟨(HY.out.save hs HNo.out).2 1 _ rfl, (HY.out.save hs HNo.out).2 2 _ rfl⟩
  by_cases h1 : x.kind = 1
  · have h1' : (x.kind == 1) = true := by simp [h1]
    have HE := hid (townR_begin T h1)
    clear h1
    have HC : Hid (∀ W, Below w1.heap.size w1 W → Calls Tryz.prog 33 #[.pointer (some ⟨p, 0, none⟩), .slice sa x.w.length sc] W fun e w' => e = .returned (.tuple #[.int .i64 (beginR T.B x.w).1, .int .i64 (beginR T.B x.w).2.1]) ∧ To (MkIn p ws { T with B := (beginR T.B x.w).2.2 }) O W w') := fun W hW => by
      obtain ⟨Ob, hB, _, hS⟩ := (HI.out.next hW).book
      exact (qbegin_any Ob T.B p sa x.w.length sc x.w W hB HR.out.brk (HX.out.below hW (Nat.le_refl _)) rfl).mono (fun e w' z => ⟨z.1, hS w' _ z.2⟩)
    generalize beginR T.B x.w = r at HE HC
    go_upto_region 3 with fail
    go_region_held3 (fun w' => w'.cell? ⟨bx, 1, none⟩ = some (.int .i64 x.n) ∧ w'.cell? ⟨bx, 2, none⟩ = some (.slice sa x.w.length sc))
      (first | exact HKs.out _ HT9.out.save | exact HKs.out _ (.of_below (by go_grown)))
      (first | (go_at_call 33; refine Calls.mono (HC.out _ (by go_grown)) ?_; rintro e w9 ⟨rfl, hT9⟩; have HT9 : Hid (To (MkIn p ws { T with B := r.2.2 }) O w1 w9) := hT9.behind (by go_grown); clear hT9))
    all_goals
      go_wp2_with fail
      go_ret
      exact ⟨by rw [HE.out]; rfl, by rw [HE.out]; exact HT9.out.behind HB.out⟩
  have h1' : (x.kind == 1) = false := by simpa using h1
  by_cases h2 : x.kind = 2
  · have h2' : (x.kind == 2) = true := by simp [h2]
    have HE := hid (townR_tick T h2)
    have HC := hid (mtick_any HI.out HR.out.brk HR.out.ml)
    clear h1 h2
    go_wp2_with fail
    refine Calls.mono HC.out ?_
    rintro e w2 ⟨rfl, hT⟩
    go_wp2_with fail
    go_ret
    exact ⟨by rw [HE.out]; rfl, by rw [HE.out]; exact hT.behind HB.out⟩
  have h2' : (x.kind == 2) = false := by simpa using h2
  by_cases h3 : x.kind = 3
  · have h3' : (x.kind == 3) = true := by simp [h3]
    have HE := hid (townR_deliver T h3)
    have HC := hid (mdeliver_any x.n HI.out HR.out)
    clear h1 h2 h3
    go_wp2_with fail
    refine Calls.mono HC.out ?_
    rintro e w2 ⟨rfl, hT⟩
    go_wp2_with fail
    go_ret
    exact ⟨by rw [HE.out]; rfl, by rw [HE.out]; exact hT.behind HB.out⟩
  have h3' : (x.kind == 3) = false := by simpa using h3
  by_cases h4 : x.kind = 4
  · have h4' : (x.kind == 4) = true := by simp [h4]
    have HE := hid (townR_lose T h4)
    have HC : Hid (∀ W, Below w1.heap.size w1 W → Calls Tryz.prog 36 #[.pointer (some ⟨p, 11, none⟩), .int .i64 x.n] W fun e w' => e = .returned (.tuple #[mlV (takeR T.M x.n).1, .bool (takeR T.M x.n).2.1]) ∧ To (MkIn p ws { T with M := (takeR T.M x.n).2.2 }) O W w') := fun W hW => by
      obtain ⟨Om, hM, _, hS⟩ := (HI.out.next hW).bag
      exact (gtake_any Om T.M p 11 x.n W hM (by have := HR.out.ml; omega)).mono (fun e w' q => ⟨q.1, hS w' _ q.2⟩)
    clear h1 h2 h3 h4
    generalize takeR T.M x.n = r at HE HC
    obtain ⟨y, ok, l'⟩ := r
    simp only [mlV] at HC
    dsimp only at HE
    go_upto_region 11 with fail
    go_cut [7, 8] (fun s7 s8 wx => ∃ nb, s7 = .pointer (some ⟨nb, 0, none⟩) ∧ s8 = .bool ok ∧ CutR p ws { T with M := l' } O w1 y nb wx)
    case first =>
      have HPL := hid hbx
      have HNw : Hid (¬ O w1.heap.size) := fun z => by have := HI.out.own _ z; omega
      clear HE hbx hpl
      go_region_held3 (fun w' => w'.cell? ⟨bx, 1, none⟩ = some (.int .i64 x.n) ∧ w'.cell? ⟨bx, 2, none⟩ = some (.slice sa x.w.length sc))
        (first | exact HKr.out _ (by go_grown) | exact HKs.out _ (.of_below (by go_grown)))
        (first | (go_at_call 36; refine Calls.mono (HC.out _ (by go_grown)) ?_; rintro e w9 ⟨rfl, hT9⟩; have HT0 := hid hT9; have HT9 : Hid (To (MkIn p ws { T with M := l' }) O w1 w9) := hT9.behind (by go_grown); have HKr : Hid (∀ w', Below w1.heap.size w9 w' → w'.cell? ⟨bx, 1, none⟩ = some (.int .i64 x.n) ∧ w'.cell? ⟨bx, 2, none⟩ = some (.slice sa x.w.length sc)) := (fun w' hb => by obtain ⟨f0, f1⟩ := HKs.out _ HT9.out.save; exact ⟨(hb.cell (p := ⟨bx, 1, none⟩) HPL.out).trans f0, (hb.cell (p := ⟨bx, 2, none⟩) HPL.out).trans f1⟩); have hz9 : w1.heap.size ≤ w9.heap.size := HT9.out.save.size; (try (have ec : ∀ o, w9.cell? ⟨w1.heap.size, o, none⟩ = _ := fun o => HT0.out.save.cell (p := ⟨w1.heap.size, o, none⟩) (by simp) HNw.out; have ef : ∀ o, w9.frozen? ⟨w1.heap.size, o, none⟩ = _ := fun o => HT0.out.save.frozen (p := ⟨w1.heap.size, o, none⟩) (by simp) HNw.out; have hy9 := HT0.out.save.size; simp at hy9; have : w1.heap.size < w9.heap.size := by omega)); clear hT9))
      all_goals
        go_wp2_with fail
        go_meet
        case rel =>
          refine ⟨_, rfl, rfl, ?_⟩
          first
            | (with_reducible exact cut_after HT9.out)
            | (with_reducible exact cut_before HT0.out ((Below.refl _ _).drew) HI.out.own)
    case rest =>
      obtain ⟨nb, rfl, rfl, hCut⟩ := hcut
      have HT9 := hid hCut.to
      clear hCut HC
      cases ok with
      | true =>
        go_wp2_with fail
        go_ret
        exact ⟨by rw [HE.out]; rfl, by rw [HE.out]; exact HT9.out.behind HB.out⟩
      | false =>
        go_wp2_with fail
        go_ret
        exact ⟨by rw [HE.out]; rfl, by rw [HE.out]; exact HT9.out.behind HB.out⟩
  have h4' : (x.kind == 4) = false := by simpa using h4
  by_cases h5 : x.kind = 5
  · have h5' : (x.kind == 5) = true := by simp [h5]
    have HE := hid (townR_double T h5)
    obtain ⟨ga, cap, hbc, _, _⟩ := HI.out.bagc
    clear h1 h2 h3 h4 h5
    by_cases hz : T.M.length = 0
    · have hz' : ((T.M.length : Int) == 0) = true := by simp [hz]
      have HD : Hid (dblR T.M x.n = (false, T.M)) := by show _ = _; rw [List.eq_nil_of_length_eq_zero hz, dblR_nil]
      have HZ := hid hz
      clear hz
      go_wp2_with fail
      go_ret
      exact ⟨by rw [HE.out, if_pos HZ.out]; rfl, by rw [HE.out, HD.out]; exact (To.stay (mk_stands ..) HI.out (Below.refl _ _)).behind HB.out⟩
    · have hz' : ((T.M.length : Int) == 0) = false := by rw [beq_eq_false_iff_ne]; omega
      rw [if_neg hz] at HE
      clear hz
      have HC : Hid (∀ W, Below w1.heap.size w1 W → Calls Tryz.prog 37 #[.pointer (some ⟨p, 11, none⟩), .int .i64 x.n] W fun e w' => e = .returned (.bool (dblR T.M x.n).1) ∧ To (MkIn p ws { T with M := (dblR T.M x.n).2 }) O W w') := fun W hW => by
        obtain ⟨Om, hM, _, hS⟩ := (HI.out.next hW).bag
        exact (gdbl_any Om T.M p 11 x.n W hM (by have := HR.out.ml; omega)).mono (fun e w' q => ⟨q.1, hS w' _ q.2⟩)
      generalize dblR T.M x.n = r at HE HC
      obtain ⟨ok, l'⟩ := r
      cases ok
      all_goals dsimp only at HE HC
      all_goals simp only [if_true, if_false, Bool.false_eq_true] at HE
      case false =>
        go_upto_region 18 with fail
        go_region_held3 (fun w' => w'.cell? ⟨bx, 1, none⟩ = some (.int .i64 x.n) ∧ w'.cell? ⟨bx, 2, none⟩ = some (.slice sa x.w.length sc))
          (first | exact HKs.out _ HT9.out.save | exact HKs.out _ (.of_below (by go_grown)))
          (first | (go_at_call 37; refine Calls.mono (HC.out _ (by go_grown)) ?_; rintro e w9 ⟨rfl, hT9⟩; have HT9 : Hid (To (MkIn p ws { T with M := l' }) O w1 w9) := hT9.behind (by go_grown); clear hT9))
        all_goals
          go_wp2_with fail
          go_ret
          exact ⟨by rw [HE.out]; rfl, by rw [HE.out]; exact HT9.out.behind HB.out⟩
      case true =>
        go_upto_region 18 with fail
        go_region_held3 (fun w' => w'.cell? ⟨bx, 1, none⟩ = some (.int .i64 x.n) ∧ w'.cell? ⟨bx, 2, none⟩ = some (.slice sa x.w.length sc))
          (first | exact HKs.out _ HT9.out.save | exact HKs.out _ (.of_below (by go_grown)))
          (first | (go_at_call 37; refine Calls.mono (HC.out _ (by go_grown)) ?_; rintro e w9 ⟨rfl, hT9⟩; have HT9 : Hid (To (MkIn p ws { T with M := l' }) O w1 w9) := hT9.behind (by go_grown); clear hT9))
        all_goals
          go_wp2_with fail
          go_ret
          exact ⟨by rw [HE.out]; rfl, by rw [HE.out]; exact HT9.out.behind HB.out⟩
  have h5' : (x.kind == 5) = false := by simpa using h5
  by_cases h6 : x.kind = 6
  · have h6' : (x.kind == 6) = true := by simp [h6]
    have HE := hid (townR_quits T h6)
    clear h1 h2 h3 h4 h5 h6
    have HC : Hid (∀ W, Below w1.heap.size w1 W → Calls Tryz.prog 38 #[.pointer (some ⟨p, 0, none⟩), .int .i64 x.n] W fun e w' => e = .returned (.int .i64 (quitR T.B x.n).1) ∧ To (MkIn p ws { T with B := (quitR T.B x.n).2 }) O W w') := fun W hW => by
      obtain ⟨Ob, hB, _, hS⟩ := (HI.out.next hW).book
      exact (qquit_any Ob T.B p x.n W hB HR.out.brk).mono (fun e w' z => ⟨z.1, hS w' _ z.2⟩)
    generalize quitR T.B x.n = r at HE HC
    go_upto_region 22 with fail
    go_region_held3 (fun w' => w'.cell? ⟨bx, 1, none⟩ = some (.int .i64 x.n) ∧ w'.cell? ⟨bx, 2, none⟩ = some (.slice sa x.w.length sc))
      (first | exact HKs.out _ HT9.out.save | exact HKs.out _ (.of_below (by go_grown)))
      (first | (go_at_call 38; refine Calls.mono (HC.out _ (by go_grown)) ?_; rintro e w9 ⟨rfl, hT9⟩; have HT9 : Hid (To (MkIn p ws { T with B := r.2 }) O w1 w9) := hT9.behind (by go_grown); clear hT9))
    all_goals
      go_wp2_with fail
      go_ret
      exact ⟨by rw [HE.out]; rfl, by rw [HE.out]; exact HT9.out.behind HB.out⟩
  have h6' : (x.kind == 6) = false := by simpa using h6
  by_cases h7 : x.kind = 7
  · have h7' : (x.kind == 7) = true := by simp [h7]
    have HE := hid (townR_shop T h7)
    clear h1 h2 h3 h4 h5 h6 h7
    by_cases hn0 : x.n < 0
    · rw [if_pos hn0] at HE
      go_wp2_with fail
      go_ret
      exact ⟨by rw [HE.out]; rfl, by rw [HE.out]; exact (To.stay (mk_stands ..) HI.out (Below.refl _ _)).behind HB.out⟩
    by_cases hn3 : 3 ≤ x.n
    · rw [if_neg hn0, if_pos hn3] at HE
      go_wp2_with fail
      go_ret
      exact ⟨by rw [HE.out]; rfl, by rw [HE.out]; exact (To.stay (mk_stands ..) HI.out (Below.refl _ _)).behind HB.out⟩
    rw [if_neg hn0, if_neg hn3] at HE
    obtain ⟨kd, xn, xw⟩ := x
    dsimp only at *
    obtain ⟨s, rfl⟩ : ∃ s : Nat, xn = (s : Int) := ⟨xn.toNat, by omega⟩
    have hs : s < 3 := by omega
    have t0 : (0 : Int) ≤ (s : Int) := by omega
    have t3 : (s : Int) < 3 := by omega
    obtain ⟨OP, q, hq0, hP, _, hnp, hSt⟩ := HI.out.pen hs
    obtain ⟨Os, qb, rv, hRw, _, _, _, hrow, _⟩ := hP.raw
    obtain ⟨la, ca, rfl, hSA, _⟩ := steps_of_own hrow
    have hql := hRw.lt
    have hq1 := hRw.c1
    have hqp : ¬ q = p := fun e => hnp (by rw [← e]; exact hP.mine)
    have hqb : ¬ q = bx := fun e => HNo.out (by rw [← e]; exact (‹∀ k, OP k → O k›) q hP.mine)
    obtain ⟨g1, _, _, _, _, g2⟩ := HR.out.shop s hs
    have HRp : Hid (∀ W, Below w1.heap.size w1 W → Calls Tryz.prog 39 #[.int .i64 (s : Int), .agg #[.int .i64 (ws 0), .int .i64 (ws 1), .int .i64 (ws 2), .int .i64 (ws 3), .int .i64 (ws 4), .int .i64 (ws 5)], .slice la (T.P s).rs.length ca] W fun e w' => (∃ q O, e = .returned (.tuple #[.pointer (some ⟨q, 0, none⟩), .agg #[.int .i64 0, .int .i64 0]]) ∧ BoothIn O w' q (T.P s).A ∧ ∀ k, O k → W.heap.size ≤ k) ∧ Below W.heap.size W w') := fun W hW => rep_is g1 (HR.out.ok s hs) (hSA.below hW (Nat.le_refl _)) g2
    have HAg : Hid (∀ (w9 : World) (qn : Nat) (O9 : Nat → Prop), Below w1.heap.size w1 w9 → BoothIn O9 w9 qn (T.P s).A → (∀ k, O9 k → w1.heap.size ≤ k) → To (MkIn p ws T) O w1 (w9.setCell ⟨q, 0, none⟩ (.pointer (some ⟨qn, 0, none⟩)))) := fun w9 qn O9 hb hBo hO9 => by
      have := hSt _ _ (pen_again hP hb hBo hO9)
      rwa [updP_id] at this
    have HFr : Hid (∀ w', Below w1.heap.size w1 w' → w'.cell? ⟨bx, 1, none⟩ = some (.int .i64 (s : Int)) ∧ w'.cell? ⟨p, 2, none⟩ = some (.int .i64 (ws 0)) ∧ w'.cell? ⟨p, 3, none⟩ = some (.int .i64 (ws 1)) ∧ w'.cell? ⟨p, 4, none⟩ = some (.int .i64 (ws 2)) ∧ w'.cell? ⟨p, 5, none⟩ = some (.int .i64 (ws 3)) ∧ w'.cell? ⟨p, 6, none⟩ = some (.int .i64 (ws 4)) ∧ w'.cell? ⟨p, 7, none⟩ = some (.int .i64 (ws 5)) ∧ w'.cell? ⟨q, 1, none⟩ = some (.slice la (T.P s).rs.length ca)) := fun w' hb => by
      have f := fun k hk => MktIn.fr (HI.out.next hb) (k := k) hk
      exact ⟨((bcell hb).1 _ _ hbx).trans y1, f 0 (by omega), f 1 (by omega), f 2 (by omega), f 3 (by omega), f 4 (by omega), f 5 (by omega), ((bcell hb).1 _ _ hql).trans hq1⟩
    have HFs : Hid (∀ (w' : World) (u : Value), Below w1.heap.size w1 w' → (w'.setCell ⟨q, 0, none⟩ u).cell? ⟨bx, 1, none⟩ = some (.int .i64 (s : Int)) ∧ (w'.setCell ⟨q, 0, none⟩ u).cell? ⟨p, 2, none⟩ = some (.int .i64 (ws 0)) ∧ (w'.setCell ⟨q, 0, none⟩ u).cell? ⟨p, 3, none⟩ = some (.int .i64 (ws 1)) ∧ (w'.setCell ⟨q, 0, none⟩ u).cell? ⟨p, 4, none⟩ = some (.int .i64 (ws 2)) ∧ (w'.setCell ⟨q, 0, none⟩ u).cell? ⟨p, 5, none⟩ = some (.int .i64 (ws 3)) ∧ (w'.setCell ⟨q, 0, none⟩ u).cell? ⟨p, 6, none⟩ = some (.int .i64 (ws 4)) ∧ (w'.setCell ⟨q, 0, none⟩ u).cell? ⟨p, 7, none⟩ = some (.int .i64 (ws 5)) ∧ (w'.setCell ⟨q, 0, none⟩ u).cell? ⟨q, 1, none⟩ = some (.slice la (T.P s).rs.length ca)) := fun w' u hb => by
      obtain ⟨f0, f1, f2, f3, f4, f5, f6, f7⟩ := HFr.out w' hb
      exact ⟨(cell_set_block (fun e => hqb e.symm)).trans f0, (cell_set_block (fun e => hqp e.symm)).trans f1, (cell_set_block (fun e => hqp e.symm)).trans f2, (cell_set_block (fun e => hqp e.symm)).trans f3, (cell_set_block (fun e => hqp e.symm)).trans f4, (cell_set_block (fun e => hqp e.symm)).trans f5, (cell_set_block (fun e => hqp e.symm)).trans f6, (cell_set_off (by omega)).trans f7⟩
    have HC0 : Hid (∀ w', Below w1.heap.size w1 w' → w'.cell? ⟨q, 0, none⟩ = some (.pointer (some ⟨qb, 0, none⟩)) ∧ (∀ k, w'.frozen? ⟨q, k, none⟩ = false) ∧ q < w'.heap.size) := fun w' hb => ⟨((bcell hb).1 _ _ hql).trans hRw.c0, loose q hb hql hRw.loose, Nat.lt_of_lt_of_le hql hb.size⟩
    clear hn0 hn3 hs hP hSt hrow hSA g1 g2 hRw
    go_upto_region 26 with fail
    go_quiet (fail)
    go_upto_region 27 with fail
    have HDr : Hid (Below w1.heap.size w1 (w1.drewN nq)) := bdrewN (Below.refl _ _) nq
    clear y0 y1 y2 hq0 hq1 hpl hbx hql
    generalize w1.drewN nq = W1 at HDr ⊢
    have HRq : Hid (∀ W, Below W1.heap.size W1 W → Below w1.heap.size w1 W) := fun W hW => after HDr.out hW HDr.out.size
    go_region_held3 (fun w' => w'.cell? ⟨bx, 1, none⟩ = some (.int .i64 (s : Int)) ∧ w'.cell? ⟨p, 2, none⟩ = some (.int .i64 (ws 0)) ∧ w'.cell? ⟨p, 3, none⟩ = some (.int .i64 (ws 1)) ∧ w'.cell? ⟨p, 4, none⟩ = some (.int .i64 (ws 2)) ∧ w'.cell? ⟨p, 5, none⟩ = some (.int .i64 (ws 3)) ∧ w'.cell? ⟨p, 6, none⟩ = some (.int .i64 (ws 4)) ∧ w'.cell? ⟨p, 7, none⟩ = some (.int .i64 (ws 5)) ∧ w'.cell? ⟨q, 1, none⟩ = some (.slice la (T.P s).rs.length ca))
      (first | exact HFs.out _ _ hw9 | exact HFr.out _ (HRq.out _ (by go_grown)))
      (first | (go_at_call 39; refine Calls.mono (HRp.out _ (HRq.out _ (by go_grown))) ?_; rintro e w9 ⟨⟨qn, O9, rfl, hI9, hO9⟩, hb9⟩; have hv9 : Below W1.heap.size W1 w9 := after (by go_grown) hb9 (by first | omega | (simp <;> omega)); have hw9 : Below w1.heap.size w1 w9 := HRq.out _ hv9; have hz9 : W1.heap.size ≤ w9.heap.size := hv9.size; have hzw : w1.heap.size ≤ W1.heap.size := HDr.out.size; have HI9 := hid hI9; have HO9 : Hid (∀ k, O9 k → w1.heap.size ≤ k) := (fun k hk => by have := hO9 k hk; first | omega | (simp at this; omega)); clear hI9 hO9; obtain ⟨u9, hf9, hl9⟩ := HC0.out _ hw9))
    all_goals
      go_wp2_with fail
      go_ret
      exact ⟨by rw [HE.out]; rfl, by rw [HE.out]; exact (HAg.out w9 qn O9 hw9 HI9.out HO9.out).behind HB.out⟩
  have h7' : (x.kind == 7) = false := by simpa using h7
  by_cases h8 : x.kind = 8
  · have h8' : (x.kind == 8) = true := by simp [h8]
    have HE := hid (townR_broker T h8)
    obtain ⟨Ob, hB, _, hS⟩ := HI.out.book
    have HC := hid (qcrash_any Ob T.B p w1 hB HR.out.brk)
    have HS := hid hS
    clear hB hS
    clear h1 h2 h3 h4 h5 h6 h7 h8
    go_wp2_with fail
    refine Calls.mono HC.out ?_
    rintro e w2 ⟨rfl, hT⟩
    go_wp2_with fail
    go_ret
    exact ⟨by rw [HE.out]; rfl, by rw [HE.out]; exact (HS.out w2 _ hT).behind HB.out⟩
  have h8' : (x.kind == 8) = false := by simpa using h8
  have HE := hid (townR_none T h1 h2 h3 h4 h5 h6 h7 h8)
  clear h1 h2 h3 h4 h5 h6 h7 h8
  go_wp2_with fail
  go_ret
  exact ⟨by rw [HE.out]; rfl, by rw [HE.out]; exact (To.stay (mk_stands ..) HI.out (Below.refl _ _)).behind HB.out⟩

end Go.Proofs.YtbgnajcmhmpjlacGreat

namespace Go.Proofs.YtbgnajcmhmpjlacGreat
open Go.RowKit

theorem MkIn.deal {p : Nat} {ws : Nat → Int} {T : Twn} {O : Nat → Prop} {w : World} (h : MkIn p ws T O w) (hI : BInv T.B) {k : Nat} {n : Int} (hk : T.B.ord[k]? = some n) : ∃ kn gl capl go capo sw cw, n = ((kn : Nat) : Int) ∧ kn < T.B.L.length ∧ w.cell? ⟨p, 0, none⟩ = some (.slice (some ⟨gl, 0, none⟩) T.B.L.length capl) ∧ w.cell? ⟨p, 1, none⟩ = some (.slice (some ⟨go, 0, none⟩) T.B.ord.length capo) ∧ w.cell? ⟨go, k, none⟩ = some (.int .i64 n) ∧ w.cell? ⟨gl, kn * 4, none⟩ = some (.slice sw (wantsR T.B n).length cw) ∧ WantsAt w sw (wantsR T.B n) ∧ gl < w.heap.size ∧ go < w.heap.size := by
  obtain ⟨OB, hB, _⟩ := h.book
  obtain ⟨rv, ov, V, hR, _⟩ := hB.raw
  obtain ⟨D, hD, _⟩ := (hI.ord n).1 (List.mem_of_getElem? hk)
  obtain ⟨kn, rfl, hkn⟩ : ∃ kn : Nat, n = (kn : Int) ∧ T.B.L[kn]? = some D := by
    unfold dealAt at hD
    split at hD
    · exact absurd hD (by simp)
    · exact ⟨n.toNat, by omega, hD⟩
  have hkl : kn < T.B.L.length := (List.getElem?_eq_some_iff.1 hkn).1
  obtain ⟨v, hv⟩ : ∃ v, V[kn]? = some v := ⟨_, List.getElem?_eq_getElem (by rw [hR.len]; exact hkl)⟩
  obtain ⟨gl, capl, rfl⟩ := own_any hR.row (by omega)
  obtain ⟨go, capo, rfl⟩ := own_any hR.ord (by have := (List.getElem?_eq_some_iff.1 hk).1; omega)
  obtain ⟨_, _, _, _, hcl⟩ := own_row hR.row
  obtain ⟨_, _, _, _, hco⟩ := own_row hR.ord
  have lt1 := hR.row.lt gl rfl
  have lt2 := hR.ord.lt go rfl
  have hw : wantsR T.B (kn : Int) = D.w := by unfold wantsR; rw [hD]
  have hW := (hR.deal kn D v hkn hv).1
  obtain ⟨sw, cw, e, hWA, _⟩ := wants_of_own hW
  refine ⟨kn, gl, capl, go, capo, sw, cw, rfl, hkl, hR.c0, hR.c1, hco k _ (by rw [List.getElem?_map, hk]; rfl), ?_, by rw [hw]; exact hWA, lt1.2, lt2.2⟩
  rw [hw, ← e]
  exact hcl _ _ (flatD_at hkn hv).1
theorem MkIn.ordc {p : Nat} {ws : Nat → Int} {T : Twn} {O : Nat → Prop} {w : World} (h : MkIn p ws T O w) : ∃ go capo, w.cell? ⟨p, 1, none⟩ = some (.slice go T.B.ord.length capo) ∧ NumsAt w go T.B.ord := by
  obtain ⟨OB, hB, _⟩ := h.book
  obtain ⟨rv, ov, V, hR, _⟩ := hB.raw
  have h1 := hR.c1
  obtain ⟨go, capo, rfl, hN, _⟩ := nums_of_own hR.ord
  exact ⟨go, capo, h1, hN⟩

set_option maxHeartbeats 8000000 in
set_option maxRecDepth 100000 in
theorem mserial_any {O : Nat → Prop} {p : Nat} {ws : Nat → Int} {T : Twn} {w : World} (h : MkIn p ws T O w) (hF : Full ws T) :
    Calls Tryz.prog 12 #[.pointer (some ⟨p, 0, none⟩)] w fun e w' => e = .returned (.tuple #[wldV (curR ws T), .int .i64 0]) ∧ Below w.heap.size w w' := by
  have HI := hid h
  have HBr := hid hF.brk
  have HSer : Hid (serR T.B ws T.B.ord = (curR ws T, 0)) := hF.town.ser
  have HZ : Hid ((serR T.B ws T.B.ord).2 = 0) := by show _ = _; rw [HSer.out]
  have p1 := MktIn.fr h (k := 0) (by omega)
  have p2 := MktIn.fr h (k := 1) (by omega)
  have p3 := MktIn.fr h (k := 2) (by omega)
  have p4 := MktIn.fr h (k := 3) (by omega)
  have p5 := MktIn.fr h (k := 4) (by omega)
  have p6 := MktIn.fr h (k := 5) (by omega)
  have hpl := h.lt
  clear h hF
  go_enter Tryz.func12, Tryz.ntmps12
  go_upto_region 2 with fail
  have hS := S6.begin w 23 ws
  generalize ((w.alloc (.cells #[.int .i64 0, .int .i64 0, .int .i64 0, .int .i64 0, .int .i64 0, .int .i64 0] 23)).alloc (.cells #[.int .i64 (ws 0), .int .i64 (ws 1), .int .i64 (ws 2), .int .i64 (ws 3), .int .i64 (ws 4), .int .i64 (ws 5)] 23)) = w1 at hS ⊢
  clear p1 p2 p3 p4 p5 p6
  have HS1 := hid hS
  have HOl : Hid (T.B.ord.length ≤ 8 ∧ T.B.L.length ≤ 8) := ⟨HBr.out.ordLen, HBr.out.len⟩
  clear hS
  go_wp2_with fail
  go_loopg [5, 6, 7] T.B.ord.length (fun g s5 _ _ wr => ∃ k : Nat, k ≤ T.B.ord.length ∧ g = T.B.ord.length - k ∧ s5 = .int .i64 k ∧ Hid (S6 w.heap.size w (serR T.B ws (T.B.ord.take k)).1 wr))
  case atStart => exact ⟨0, Nat.zero_le _, rfl, rfl, HS1.out⟩
  case round =>
  obtain ⟨k, hk, rfl, rfl, HS⟩ := hrel
  clear HS1
  have hpw : p < wr.heap.size := by have := HS.out.lt; omega
  by_cases hlt : k < T.B.ord.length
  case neg =>
    have j1 : ¬ (k : Int) < (T.B.ord.length : Int) := by omega
    obtain ⟨go, capo, hoc, _⟩ := (HI.out.next HS.out.below).ordc
    have HE : Hid ((serR T.B ws (T.B.ord.take k)).1 = curR ws T) := by
      show _ = _
      rw [List.take_of_length_le (by omega), HSer.out]
    have hS2 : S6 w.heap.size w (curR ws T) wr := by have := HS.out; rw [HE.out] at this; exact this
    clear HS
    have z0 := hS2.zer 0 (by omega)
    have z1 := hS2.zer 1 (by omega)
    have z2 := hS2.zer 2 (by omega)
    have z3 := hS2.zer 3 (by omega)
    have z4 := hS2.zer 4 (by omega)
    have z5 := hS2.zer 5 (by omega)
    have a0 := hS2.row 0 (by omega)
    have a1 := hS2.row 1 (by omega)
    have a2 := hS2.row 2 (by omega)
    have a3 := hS2.row 3 (by omega)
    have a4 := hS2.row 4 (by omega)
    have a5 := hS2.row 5 (by omega)
    have g0 := hS2.f0
    have hb := hS2.below
    have hl2 := hS2.lt
    clear hS2
    go_wp2_with fail
    exact bodyPost_ret (v := .tuple #[wldV (curR ws T), .int .i64 0]) (by simp [wldV, results, Tryz.results12, go_sem, z0, z1, z2, z3, z4, z5]) rfl ⟨rfl, by go_grown⟩
  obtain ⟨n, hn⟩ : ∃ n, T.B.ord[k]? = some n := ⟨_, List.getElem?_eq_getElem hlt⟩
  obtain ⟨ha, hb⟩ := ser_next HZ.out hn
  obtain ⟨kn, gl, capl, go, capo, sw, cw, rfl, hkl, d0, d1, d2, d3, hWA, lgl, lgo⟩ := (HI.out.next HS.out.below).deal HBr.out hn
  have HA := hid ha
  have HB := hid hb
  have HK : Hid (k < T.B.ord.length) := hlt
  generalize (serR T.B ws (T.B.ord.take k)).1 = vs at *
  have j0 : (0 : Int) ≤ (k : Int) := by omega
  have j1 : (k : Int) < (T.B.ord.length : Int) := by omega
  have j2 : (T.B.ord.length : Int) ≤ 8 := by have := HOl.out; omega
  have n0 : (0 : Int) ≤ (kn : Int) := by omega
  have n1 : (kn : Int) < (T.B.L.length : Int) := by omega
  have n2 : (T.B.L.length : Int) ≤ 8 := by have := HOl.out; omega
  have HWA := hid hWA
  have HP : Hid (∀ w', Below wr.heap.size wr w' → w'.cell? ⟨p, 0, none⟩ = some (.slice (some ⟨gl, 0, none⟩) T.B.L.length capl) ∧ w'.cell? ⟨p, 1, none⟩ = some (.slice (some ⟨go, 0, none⟩) T.B.ord.length capo) ∧ w'.cell? ⟨go, k, none⟩ = some (.int .i64 (kn : Int)) ∧ w'.cell? ⟨gl, kn * 4, none⟩ = some (.slice sw (wantsR T.B (kn : Int)).length cw) ∧ w'.cell? ⟨w.heap.size + 1, 0, none⟩ = some (.int .i64 (vs 0)) ∧ w'.cell? ⟨w.heap.size + 1, 1, none⟩ = some (.int .i64 (vs 1)) ∧ w'.cell? ⟨w.heap.size + 1, 2, none⟩ = some (.int .i64 (vs 2)) ∧ w'.cell? ⟨w.heap.size + 1, 3, none⟩ = some (.int .i64 (vs 3)) ∧ w'.cell? ⟨w.heap.size + 1, 4, none⟩ = some (.int .i64 (vs 4)) ∧ w'.cell? ⟨w.heap.size + 1, 5, none⟩ = some (.int .i64 (vs 5))) := fun w' hb => ⟨((bcell hb).1 _ _ hpw).trans d0, ((bcell hb).1 _ _ hpw).trans d1, ((bcell hb).1 _ _ lgo).trans d2, ((bcell hb).1 _ _ lgl).trans d3, (HS.out.next hb).row 0 (by omega), (HS.out.next hb).row 1 (by omega), (HS.out.next hb).row 2 (by omega), (HS.out.next hb).row 3 (by omega), (HS.out.next hb).row 4 (by omega), (HS.out.next hb).row 5 (by omega)⟩
  clear hn ha hb hk hlt hWA hkl
  generalize hr : appW vs (wantsR T.B (kn : Int)) = r at HA HB
  go_upto_region 5 with fail
  go_cut [6, 7] (fun s6 s7 wx => ∃ nb nf, s6 = .pointer (some ⟨nb, 0, none⟩) ∧ s7 = .pointer (some ⟨nf, 0, none⟩) ∧ BoxAt wx nb [.int .i64 (r.1 0), .int .i64 (r.1 1), .int .i64 (r.1 2), .int .i64 (r.1 3), .int .i64 (r.1 4), .int .i64 (r.1 5)] ∧ BoxAt wx nf [.int .i64 r.2.1, .int .i64 r.2.2] ∧ Below wr.heap.size wr wx)
  case first =>
    have HAp : Hid (∀ W : World, Below wr.heap.size wr W → Calls Tryz.prog 55 #[.agg #[.int .i64 (vs 0), .int .i64 (vs 1), .int .i64 (vs 2), .int .i64 (vs 3), .int .i64 (vs 4), .int .i64 (vs 5)], .slice sw (wantsR T.B (kn : Int)).length cw] W fun e w' => e = .returned (.tuple #[.agg #[.int .i64 (r.1 0), .int .i64 (r.1 1), .int .i64 (r.1 2), .int .i64 (r.1 3), .int .i64 (r.1 4), .int .i64 (r.1 5)], .agg #[.int .i64 r.2.1, .int .i64 r.2.2]]) ∧ Below W.heap.size W w') := fun W hW => by rw [← hr]; exact applied_any vs sw _ cw _ W (HWA.out.below hW (Nat.le_refl _)) rfl
    clear hr HS HA HB HI HBr HSer HZ hpl d0 d1 d2 d3 lgl lgo hpw HWA
    go_region_held3 (fun w' => w'.cell? ⟨p, 0, none⟩ = some (.slice (some ⟨gl, 0, none⟩) T.B.L.length capl) ∧ w'.cell? ⟨p, 1, none⟩ = some (.slice (some ⟨go, 0, none⟩) T.B.ord.length capo) ∧ w'.cell? ⟨go, k, none⟩ = some (.int .i64 (kn : Int)) ∧ w'.cell? ⟨gl, kn * 4, none⟩ = some (.slice sw (wantsR T.B (kn : Int)).length cw) ∧ w'.cell? ⟨w.heap.size + 1, 0, none⟩ = some (.int .i64 (vs 0)) ∧ w'.cell? ⟨w.heap.size + 1, 1, none⟩ = some (.int .i64 (vs 1)) ∧ w'.cell? ⟨w.heap.size + 1, 2, none⟩ = some (.int .i64 (vs 2)) ∧ w'.cell? ⟨w.heap.size + 1, 3, none⟩ = some (.int .i64 (vs 3)) ∧ w'.cell? ⟨w.heap.size + 1, 4, none⟩ = some (.int .i64 (vs 4)) ∧ w'.cell? ⟨w.heap.size + 1, 5, none⟩ = some (.int .i64 (vs 5)))
      (first | exact HP.out _ (by go_grown))
      (first | (go_at_call 55; refine (HAp.out _ (by go_grown)).mono ?_; rintro e w9 ⟨rfl, hb9⟩; have hw9 : Below wr.heap.size wr w9 := after (by go_grown) hb9 (by first | omega | (simp <;> omega)); have hz9 : wr.heap.size ≤ w9.heap.size := hw9.size; have hy9 := hb9.size; (try simp [Nat.add_one_le_iff] at hy9); obtain ⟨hc9, hf9⟩ := bcell hb9; (try (have ec90 : ∀ o, w9.cell? ⟨wr.heap.size, o, none⟩ = _ := fun o => hc9 _ o (by first | omega | (simp; done) | (simp; omega)); have ef90 : ∀ o, w9.frozen? ⟨wr.heap.size, o, none⟩ = _ := fun o => hf9 _ o (by first | omega | (simp; done) | (simp; omega)))); (try (have ec91 : ∀ o, w9.cell? ⟨wr.heap.size + 1, o, none⟩ = _ := fun o => hc9 _ o (by first | omega | (simp; done) | (simp; omega)); have ef91 : ∀ o, w9.frozen? ⟨wr.heap.size + 1, o, none⟩ = _ := fun o => hf9 _ o (by first | omega | (simp; done) | (simp; omega)))); (try (have : wr.heap.size < w9.heap.size := by omega)); (try (have : wr.heap.size < w9.heap.size + 1 := by omega)); (try (have : wr.heap.size < w9.heap.size + 1 + 1 := by omega)); (try (have : ¬ wr.heap.size = w9.heap.size := by omega)); (try (have : ¬ w9.heap.size = wr.heap.size := by omega)); (try (have : ¬ wr.heap.size = w9.heap.size + 1 := by omega)); (try (have : ¬ w9.heap.size + 1 = wr.heap.size := by omega)); (try (have : wr.heap.size + 1 < w9.heap.size := by omega)); (try (have : wr.heap.size + 1 < w9.heap.size + 1 := by omega)); (try (have : wr.heap.size + 1 < w9.heap.size + 1 + 1 := by omega)); (try (have : ¬ wr.heap.size + 1 = w9.heap.size := by omega)); (try (have : ¬ w9.heap.size = wr.heap.size + 1 := by omega)); (try (have : ¬ wr.heap.size + 1 = w9.heap.size + 1 := by omega)); (try (have : ¬ w9.heap.size + 1 = wr.heap.size + 1 := by omega))))
    all_goals
      clear HP HAp
      go_wp2_with fail
      go_meet
      case rel =>
        refine ⟨_, _, rfl, rfl, ?_, ?_, ?_⟩
        · refine box_s6 ?_ ?_ ?_ ?_ ?_ ?_ ?_
          · have := hb9.size
            simp at this ⊢
            try omega
          all_goals simp [go_sem, *]
        · refine box_s2 ?_ ?_ ?_
          · have := hb9.size
            simp at this ⊢
            try omega
          all_goals simp [go_sem, *]
        · go_grown
  case rest =>
    obtain ⟨nb, nf, rfl, rfl, hN, hF, hb5⟩ := hcut
    have hS5 := HS.out.next hb5
    clear HP HS hb5 d0 d1 d2 d3
    have f0 := hF.2 0 _ rfl
    have n0 := hN.2 0 _ rfl
    have n1 := hN.2 1 _ rfl
    have n2 := hN.2 2 _ rfl
    have n3 := hN.2 3 _ rfl
    have n4 := hN.2 4 _ rfl
    have n5 := hN.2 5 _ rfl
    have a0 := hS5.row 0 (by omega)
    have a1 := hS5.row 1 (by omega)
    have a2 := hS5.row 2 (by omega)
    have a3 := hS5.row 3 (by omega)
    have a4 := hS5.row 4 (by omega)
    have a5 := hS5.row 5 (by omega)
    have g1 := hS5.f1
    have hl5 := hS5.lt
    have HS5 := hid hS5
    have hz : (r.2.1 != 0) = false := by rw [HA.out]; rfl
    clear hS5
    go_wp2_with fail
    go_roundg (T.B.ord.length - (k + 1))
    case measure => have := HK.out; omega
    case rel => exact ⟨k + 1, HK.out, rfl, by simp, by rw [HB.out]; exact HS5.out.put r.1⟩

end Go.Proofs.YtbgnajcmhmpjlacGreat

namespace Go.Proofs.YtbgnajcmhmpjlacGreat
open Go.RowKit

set_option maxHeartbeats 8000000 in
set_option maxRecDepth 100000 in
theorem mworld_any {O : Nat → Prop} {p : Nat} {ws : Nat → Int} {T : Twn} {w : World} (h : MkIn p ws T O w) :
    Calls Tryz.prog 43 #[.pointer (some ⟨p, 0, none⟩)] w fun e w' => e = .returned (wldV (valT T)) ∧ Below w.heap.size w w' := by
  have HI := hid h
  clear h
  go_enter Tryz.func43, Tryz.ntmps43
  go_wp2_with fail
  go_loopg [4, 5] 3 (fun g s4 _ wr => ∃ k : Nat, k ≤ 3 ∧ g = 3 - k ∧ s4 = .int .i64 k ∧ S6 w.heap.size w (uptoW (valT T) (k * 2)) wr)
  case atStart => exact ⟨0, Nat.zero_le _, rfl, rfl, (S6.begin w 23 (fun _ => 0)).congr (fun j hj => by simp [uptoW])⟩
  case round =>
  obtain ⟨k, hk, rfl, rfl, hS⟩ := hrel
  by_cases hlt : k < 3
  case neg =>
    have j1 : ¬ (k : Int) < 3 := by omega
    have hk3 : k = 3 := by omega
    subst hk3
    have hS2 : S6 w.heap.size w (valT T) wr := hS.congr (fun j hj => by unfold uptoW; rw [if_pos (by omega)])
    clear hS
    have z0 := hS2.zer 0 (by omega)
    have z1 := hS2.zer 1 (by omega)
    have z2 := hS2.zer 2 (by omega)
    have z3 := hS2.zer 3 (by omega)
    have z4 := hS2.zer 4 (by omega)
    have z5 := hS2.zer 5 (by omega)
    have a0 := hS2.row 0 (by omega)
    have a1 := hS2.row 1 (by omega)
    have a2 := hS2.row 2 (by omega)
    have a3 := hS2.row 3 (by omega)
    have a4 := hS2.row 4 (by omega)
    have a5 := hS2.row 5 (by omega)
    have g0 := hS2.f0
    have hb := hS2.below
    have hl2 := hS2.lt
    clear hS2
    go_wp2_with fail
    exact bodyPost_ret (v := wldV (valT T)) (by simp [wldV, results, Tryz.results43, go_sem, z0, z1, z2, z3, z4, z5]) rfl ⟨rfl, by go_grown⟩
  have j1 : (k : Int) < 3 := by omega
  have j0 : (0 : Int) ≤ (k : Int) := by omega
  have HK := hid hlt
  clear hk hlt
  go_wp2_with fail
  go_loopg [5] 2 (fun g s5 wx => ∃ i : Nat, i ≤ 2 ∧ g = 2 - i ∧ s5 = .int .i64 i ∧ S6 w.heap.size w (uptoW (valT T) (k * 2 + i)) wx)
  case atStart => exact ⟨0, Nat.zero_le _, rfl, rfl, hS⟩
  case round =>
  clear hS
  obtain ⟨i, hi, rfl, rfl, hX⟩ := hrel
  by_cases hit : i < 2
  case neg =>
    have i1 : ¬ (i : Int) < 2 := by omega
    have hi2 : i = 2 := by omega
    subst hi2
    have hHX := hid hX
    clear hX
    go_wp2_with fail
    go_roundg (3 - (k + 1))
    case measure => have := HK.out; omega
    case rel => exact ⟨k + 1, by have := HK.out; omega, rfl, by simp, by rw [show (k + 1) * 2 = k * 2 + 2 by omega]; exact hHX.out⟩
  have i1 : (i : Int) < 2 := by omega
  have i0 : (0 : Int) ≤ (i : Int) := by omega
  have HI2 : Hid (i < 2) := hit
  obtain ⟨n, hn⟩ : ∃ n : Nat, n = k * 2 + i := ⟨_, rfl⟩
  obtain ⟨c, q, v0, v1, v2, v3⟩ := MktIn.vals (HI.out.next hX.below) HK.out
  have v4 : wr.cell? ⟨q, 1 + i, none⟩ = some (.int .i64 (valT T n)) := by
    rw [hn]
    match i, hit with
    | 0, _ => exact v2
    | 1, _ => exact v3
  have HN := hid hn
  have hrow := hX.row n (by have := HK.out; omega)
  have hn6 : (n : Int) < 6 := by have := HK.out; omega
  have hn0 : (0 : Int) ≤ (n : Int) := by omega
  have hwr : IntKind.i64.wrap ((k : Int) * 2 + (i : Int)) = (n : Int) := by
    rw [show (k : Int) * 2 + (i : Int) = (n : Int) by omega]
    go_unwrap
  have hf1 := hX.f1
  have hlt1 := hX.lt
  have hHX := hid hX
  clear hi hit hX hn v2 v3
  go_wp2_with fail
  go_roundg (2 - (i + 1))
  case measure => have := HI2.out; omega
  case rel =>
    have hq := hid (hHX.out.set n (by have := HK.out; have := HI2.out; have := HN.out; omega) (valT T n))
    refine ⟨i + 1, by have := HI2.out; omega, rfl, by simp, ?_⟩
    have he : uptoW (valT T) (k * 2 + (i + 1)) = upd (uptoW (valT T) (k * 2 + i)) n (valT T n) := by rw [HN.out, uptoW_next]; rfl
    rw [he]
    exact hq.out

end Go.Proofs.YtbgnajcmhmpjlacGreat

namespace Go.Proofs.YtbgnajcmhmpjlacGreat
open Go.RowKit

def MNewIs (ws : Nat → Int) (w w' : World) (e : Ending) : Prop := (OkT ws → ∃ p O, e = .returned (.pointer (some ⟨p, 0, none⟩)) ∧ MkIn p ws (T00 ws) O w' ∧ ∀ k, O k → w.heap.size ≤ k) ∧ (¬ OkT ws → e = .returned (.pointer none))
theorem mk_new0 {n0 : Nat} {ws : Nat → Int} {w : World} (hn : n0 ≤ w.heap.size) (t : TypeId) : MktNew (w.alloc (.cells #[.slice none 0 0, .slice none 0 0, .int .i64 (ws 0), .int .i64 (ws 1), .int .i64 (ws 2), .int .i64 (ws 3), .int .i64 (ws 4), .int .i64 (ws 5), .pointer none, .pointer none, .pointer none, .slice none 0 0] t)) n0 w.heap.size ws ws 0 := by
  refine ⟨fun _ _ => False, fun _ => 0, hn, by simp, fun j => by simp [go_sem], by simp [go_sem], by simp [go_sem], fun j hj => ?_, fun s hs => ?_, by simp [go_sem], fun s hs => absurd hs (by omega), fun s hs => absurd hs (by omega), fun s hs => absurd hs (by omega), fun s t hs => absurd hs (by omega)⟩
  · rcases six_cases hj with rfl | rfl | rfl | rfl | rfl | rfl <;> simp [go_sem]
  · match s, hs with
    | 0, _ => simp [go_sem]
    | 1, _ => simp [go_sem]
    | 2, _ => simp [go_sem]

set_option maxHeartbeats 8000000 in
set_option maxRecDepth 100000 in
theorem mnew_any (ws : Nat → Int) (w : World) : Calls Tryz.prog 7 #[wldV ws] w fun e w' => MNewIs ws w w' e ∧ Below w.heap.size w w' := by
  unfold wldV
  go_enter Tryz.func7, Tryz.ntmps7
  go_upto_region 1 with fail
  have hb1 : Below w.heap.size w (w.alloc (.cells #[.int .i64 (ws 0), .int .i64 (ws 1), .int .i64 (ws 2), .int .i64 (ws 3), .int .i64 (ws 4), .int .i64 (ws 5)] 23)) := (Below.refl _ _).alloc (Nat.le_refl _) _
  have hX : BoxAt (w.alloc (.cells #[.int .i64 (ws 0), .int .i64 (ws 1), .int .i64 (ws 2), .int .i64 (ws 3), .int .i64 (ws 4), .int .i64 (ws 5)] 23)) w.heap.size [.int .i64 (ws 0), .int .i64 (ws 1), .int .i64 (ws 2), .int .i64 (ws 3), .int .i64 (ws 4), .int .i64 (ws 5)] := BoxAt.new w _ _
  generalize (w.alloc (.cells #[.int .i64 (ws 0), .int .i64 (ws 1), .int .i64 (ws 2), .int .i64 (ws 3), .int .i64 (ws 4), .int .i64 (ws 5)] 23)) = w1 at hb1 hX ⊢
  have HB1 := hid hb1
  have HX := hid hX
  have x0 := hX.2 0 _ rfl
  have x1 := hX.2 1 _ rfl
  have x2 := hX.2 2 _ rfl
  have x3 := hX.2 3 _ rfl
  have x4 := hX.2 4 _ rfl
  have x5 := hX.2 5 _ rfl
  clear hb1 hX
  go_upto_region 2 with fail
  have hN := mk_new0 (n0 := w.heap.size) (ws := ws) (w := w1) HB1.out.size 64
  have hb10 : Below w1.heap.size w1 (w1.alloc (.cells #[.slice none 0 0, .slice none 0 0, .int .i64 (ws 0), .int .i64 (ws 1), .int .i64 (ws 2), .int .i64 (ws 3), .int .i64 (ws 4), .int .i64 (ws 5), .pointer none, .pointer none, .pointer none, .slice none 0 0] 64)) := (Below.refl _ _).alloc (Nat.le_refl _) _
  have hX2 := HX.out.next hb10
  have hbw := after HB1.out hb10 HB1.out.size
  have hlp : w.heap.size < w1.heap.size := HX.out.1
  generalize (w1.alloc (.cells #[.slice none 0 0, .slice none 0 0, .int .i64 (ws 0), .int .i64 (ws 1), .int .i64 (ws 2), .int .i64 (ws 3), .int .i64 (ws 4), .int .i64 (ws 5), .pointer none, .pointer none, .pointer none, .slice none 0 0] 64)) = w10 at hN hX2 hbw ⊢
  generalize w1.heap.size = p at hN hlp ⊢
  have HN0 := hid hN
  have HX0 := hid hX2
  have HW0 := hid hbw
  have HLP := hid hlp
  clear hb10 HX HB1 hN hX2 hbw hlp x0 x1 x2 x3 x4 x5
  go_wp2_with fail
  go_loopg [4] 3 (fun g s4 wr => ∃ k : Nat, k ≤ 3 ∧ g = 3 - k ∧ s4 = .int .i64 k ∧ Hid (∀ s : Nat, s < k → newOk (s : Int) ws = true) ∧ Hid (MktNew wr w.heap.size p ws ws k) ∧ Hid (BoxAt wr w.heap.size [.int .i64 (ws 0), .int .i64 (ws 1), .int .i64 (ws 2), .int .i64 (ws 3), .int .i64 (ws 4), .int .i64 (ws 5)]) ∧ Hid (Below w.heap.size w wr))
  case atStart => exact ⟨0, Nat.zero_le _, rfl, rfl, fun s hs => absurd hs (by omega), HN0, HX0, HW0⟩
  case round =>
  obtain ⟨k, hk, rfl, rfl, HOk, HN, HXr, HW⟩ := hrel
  clear HN0 HX0 HW0
  by_cases hlt : k < 3
  case neg =>
    have j1 : ¬ (k : Int) < 3 := by omega
    have hk3 : k = 3 := by omega
    subst hk3
    go_wp2_with fail
    go_ret
    refine ⟨⟨fun _ => ?_, fun q => absurd HOk.out q⟩, HW.out⟩
    obtain ⟨O, h1, h2⟩ := MktNew.done (tD := 107) (tW := 42) (tI := 3) HN.out
    exact ⟨p, O, rfl, h1, h2⟩
  have j1 : (k : Int) < 3 := by omega
  have j0 : (0 : Int) ≤ (k : Int) := by omega
  have HKn := hid hlt
  have HK : Hid (∀ w', Below wr.heap.size wr w' → w'.cell? ⟨w.heap.size, 0, none⟩ = some (.int .i64 (ws 0)) ∧ w'.cell? ⟨w.heap.size, 1, none⟩ = some (.int .i64 (ws 1)) ∧ w'.cell? ⟨w.heap.size, 2, none⟩ = some (.int .i64 (ws 2)) ∧ w'.cell? ⟨w.heap.size, 3, none⟩ = some (.int .i64 (ws 3)) ∧ w'.cell? ⟨w.heap.size, 4, none⟩ = some (.int .i64 (ws 4)) ∧ w'.cell? ⟨w.heap.size, 5, none⟩ = some (.int .i64 (ws 5))) := fun w' hb => ⟨(HXr.out.next hb).2 0 _ rfl, (HXr.out.next hb).2 1 _ rfl, (HXr.out.next hb).2 2 _ rfl, (HXr.out.next hb).2 3 _ rfl, (HXr.out.next hb).2 4 _ rfl, (HXr.out.next hb).2 5 _ rfl⟩
  have HSt : Hid (∀ (w' : World) (u : Value), Below wr.heap.size wr w' → (w'.setCell ⟨p, 8 + k, none⟩ u).cell? ⟨w.heap.size, 0, none⟩ = some (.int .i64 (ws 0)) ∧ (w'.setCell ⟨p, 8 + k, none⟩ u).cell? ⟨w.heap.size, 1, none⟩ = some (.int .i64 (ws 1)) ∧ (w'.setCell ⟨p, 8 + k, none⟩ u).cell? ⟨w.heap.size, 2, none⟩ = some (.int .i64 (ws 2)) ∧ (w'.setCell ⟨p, 8 + k, none⟩ u).cell? ⟨w.heap.size, 3, none⟩ = some (.int .i64 (ws 3)) ∧ (w'.setCell ⟨p, 8 + k, none⟩ u).cell? ⟨w.heap.size, 4, none⟩ = some (.int .i64 (ws 4)) ∧ (w'.setCell ⟨p, 8 + k, none⟩ u).cell? ⟨w.heap.size, 5, none⟩ = some (.int .i64 (ws 5))) := fun w' u hb => by
    have hq := (HXr.out.next hb).save ((Save.refl (fun j => j = p) w').setCell (p := ⟨p, 8 + k, none⟩) (fun _ => rfl) u) (by have := HLP.out; show ¬ _ = _; omega)
    exact ⟨hq.2 0 _ rfl, hq.2 1 _ rfl, hq.2 2 _ rfl, hq.2 3 _ rfl, hq.2 4 _ rfl, hq.2 5 _ rfl⟩
  have HCell : Hid (∀ w', Below wr.heap.size wr w' → ∃ u, w'.cell? ⟨p, 8 + k, none⟩ = some u ∧ (∀ j, w'.frozen? ⟨p, j, none⟩ = false) ∧ p < w'.heap.size) := fun w' hb => by
    obtain ⟨Q, q, r⟩ := HN.out.next hb
    exact ⟨_, Option.eq_some_of_isSome (r.here k HKn.out), r.loose, r.lt⟩
  have HC := hid (fun W (_ : Below wr.heap.size wr W) => npen_any (k : Int) ws W)
  clear hk hlt
  by_cases hok : newOk (k : Int) ws = true
  case neg =>
    have HNo : Hid (¬ OkT ws) := fun q => hok (q k HKn.out)
    have HOf := hid hok
    clear hok
    go_upto_region 5 with fail
    go_region_held3 (fun w' => w'.cell? ⟨w.heap.size, 0, none⟩ = some (.int .i64 (ws 0)) ∧ w'.cell? ⟨w.heap.size, 1, none⟩ = some (.int .i64 (ws 1)) ∧ w'.cell? ⟨w.heap.size, 2, none⟩ = some (.int .i64 (ws 2)) ∧ w'.cell? ⟨w.heap.size, 3, none⟩ = some (.int .i64 (ws 3)) ∧ w'.cell? ⟨w.heap.size, 4, none⟩ = some (.int .i64 (ws 4)) ∧ w'.cell? ⟨w.heap.size, 5, none⟩ = some (.int .i64 (ws 5)))
      (first | exact HSt.out _ _ hw9 | exact HK.out _ (by go_grown))
      (first | (go_at_call 24; refine Calls.mono (HC.out _ (by go_grown)) ?_; rintro e w9 ⟨hN9, hb9⟩; have hw9 : Below wr.heap.size wr w9 := after (by go_grown) hb9 (by first | omega | (simp <;> omega)); have hz9 : wr.heap.size ≤ w9.heap.size := hw9.size; unfold NewPIs at hN9; rw [if_neg HOf.out] at hN9; subst hN9; obtain ⟨u9, hu9, hfz9, hpl9⟩ := HCell.out _ hw9))
    all_goals
      go_wp2_with fail
      go_ret
      exact ⟨⟨fun q => absurd q HNo.out, fun _ => rfl⟩, (after HW.out hw9 HW.out.size).setCell (p := ⟨p, 8 + k, none⟩) (by show _ ≤ p; have := HLP.out; omega) _⟩
  have HOK := hid hok
  clear hok
  go_upto_region 5 with fail
  go_region_held3 (fun w' => w'.cell? ⟨w.heap.size, 0, none⟩ = some (.int .i64 (ws 0)) ∧ w'.cell? ⟨w.heap.size, 1, none⟩ = some (.int .i64 (ws 1)) ∧ w'.cell? ⟨w.heap.size, 2, none⟩ = some (.int .i64 (ws 2)) ∧ w'.cell? ⟨w.heap.size, 3, none⟩ = some (.int .i64 (ws 3)) ∧ w'.cell? ⟨w.heap.size, 4, none⟩ = some (.int .i64 (ws 4)) ∧ w'.cell? ⟨w.heap.size, 5, none⟩ = some (.int .i64 (ws 5)))
    (first | exact HSt.out _ _ hw9 | exact HK.out _ (by go_grown))
    (first | (go_at_call 24; refine Calls.mono (HC.out _ (by go_grown)) ?_; rintro e w9 ⟨hN9, hb9⟩; have hw9 : Below wr.heap.size wr w9 := after (by go_grown) hb9 (by first | omega | (simp <;> omega)); have hz9 : wr.heap.size ≤ w9.heap.size := hw9.size; unfold NewPIs at hN9; rw [if_pos HOK.out] at hN9; obtain ⟨q9, O9, rfl, hI9, hO9⟩ := hN9; have HI9 := hid hI9; have HO9 : Hid (∀ j, O9 j → wr.heap.size ≤ j) := (fun j hj => by have := hO9 j hj; first | omega | (simp at this; omega)); clear hI9 hO9; obtain ⟨u9, hu9, hfz9, hpl9⟩ := HCell.out _ hw9))
  all_goals
    go_wp2_with fail
    go_roundg (3 - (k + 1))
    case measure => have := HKn.out; omega
    case rel =>
      refine ⟨k + 1, HKn.out, rfl, by simp, fun s hs => ?_, HN.out.pen HKn.out hw9 HI9.out HO9.out, ?_, (after HW.out hw9 HW.out.size).setCell (p := ⟨p, 8 + k, none⟩) (by show _ ≤ p; have := HLP.out; omega) _⟩
      · by_cases e : s = k
        · subst e; exact HOK.out
        · exact HOk.out s (by omega)
      · exact (HXr.out.next hw9).save ((Save.refl (fun j => j = p) w9).setCell (p := ⟨p, 8 + k, none⟩) (fun _ => rfl) _) (by have := HLP.out; show ¬ _ = _; omega)

end Go.Proofs.YtbgnajcmhmpjlacGreat
