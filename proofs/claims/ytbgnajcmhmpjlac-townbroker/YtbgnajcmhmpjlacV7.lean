/- For every world and every list of steps: the statement TownBroker of the program returns true, and its arguments read as before (no condition). -/
import Derived.BigQuiet
import Derived.Deep.RegionHeld3
import Derived.Test.YtbgnajcmhmpjlacRows
import Derived.Test.YtbgnajcmhmpjlacN6

/- What a law keeps while a town goes on: a world and a list of numbers in blocks of its own. -/
namespace Go.Proofs.Ytbgnajcmhmpjlac
open Go.RowKit

/-- The blocks that are kept. -/
def Zk (bx : Nat) (ga : Option Addr) : Nat → Prop := fun k => k = bx ∨ ∃ a, ga = some a ∧ a.block = k
theorem nums_save {O : Nat → Prop} {w w' : World} {ga : Option Addr} {l : List Int} (h : NumsAt w ga l) (hs : Save O w w') (hn : ∀ a, ga = some a → ¬ O a.block) : NumsAt w' ga l := by
  intro k x hk
  obtain ⟨b, off, e, hl, hc⟩ := h k x hk
  exact ⟨b, off, e, Nat.lt_of_lt_of_le hl hs.size, (hs.cell (p := ⟨b, off + k, none⟩) hl (hn ⟨b, off, none⟩ e)).trans hc⟩
structure Kpt (w : World) (bx : Nat) (f : Nat → Int) (ga : Option Addr) (l : List Int) : Prop where
  box : BoxAt w bx [.int .i64 (f 0), .int .i64 (f 1), .int .i64 (f 2), .int .i64 (f 3), .int .i64 (f 4), .int .i64 (f 5)]
  num : NumsAt w ga l
theorem Kpt.next {w w' : World} {bx : Nat} {f : Nat → Int} {ga : Option Addr} {l : List Int} (h : Kpt w bx f ga l) (hb : Below w.heap.size w w') : Kpt w' bx f ga l := ⟨h.box.next hb, h.num.below hb (Nat.le_refl _)⟩
theorem Kpt.step {w w' : World} {bx : Nat} {f : Nat → Int} {ga : Option Addr} {l : List Int} (h : Kpt w bx f ga l) (hs : Save (fun k => ¬ Zk bx ga k) w w') : Kpt w' bx f ga l :=
  ⟨h.box.save hs (fun q => q (.inl rfl)), nums_save h.num hs (fun a ha q => q (.inr ⟨a, ha, rfl⟩))⟩
/-- What a town that is kept beside them tells. -/
theorem world_is {w0 W : World} {Z : Nat → Prop} {p b m : Nat} {c : Nat → Nat} {ws f : Nat → Int} {T : Twn} (h : TLv w0 Z W p b m c ws T) (hf : ∀ k, k < 6 → valT T k = f k) : Calls Try.prog 31 #[.pointer (some ⟨p, 0, none⟩)] W fun e w' => e = .returned (.agg #[.int .i64 (f 0), .int .i64 (f 1), .int .i64 (f 2), .int .i64 (f 3), .int .i64 (f 4), .int .i64 (f 5)]) ∧ Below W.heap.size W w' := by
  have := world_tlv h
  unfold wldV at this
  rw [hf 0 (by omega), hf 1 (by omega), hf 2 (by omega), hf 3 (by omega), hf 4 (by omega), hf 5 (by omega)] at this
  exact this
theorem done_is {w0 W : World} {Z : Nat → Prop} {p b m : Nat} {c : Nat → Nat} {ws : Nat → Int} {T : Twn} {L : List Int} (h : TLv w0 Z W p b m c ws T) (hL : T.B.ord = L) : Calls Try.prog 20 #[.pointer (some ⟨b, 0, none⟩)] W fun e w' => (∃ g2 c2, e = .returned (.slice g2 L.length c2) ∧ NumsAt w' g2 L ∧ ∀ a, g2 = some a → W.heap.size ≤ a.block ∧ a.block < w'.heap.size) ∧ Below W.heap.size W w' := by
  refine (done_tlv h).mono ?_
  rintro e w' ⟨⟨v, he, hv⟩, hb⟩
  have hsl := hv
  obtain ⟨g2, c2, rfl, hN, _⟩ := nums_of_own hv
  rw [hL] at he hN
  exact ⟨⟨g2, c2, he, hN, fun a ha => by subst ha; exact hsl.lt a.block rfl⟩, hb⟩
theorem same_is {W : World} {g1 g2 : Option Addr} {c1 c2 : Nat} {L : List Int} (h1 : NumsAt W g1 L) (h2 : NumsAt W g2 L) (hl : L.length ≤ 8) : Calls Try.prog 39 #[.slice g1 L.length c1, .slice g2 L.length c2] W fun e w' => e = .returned (.bool true) ∧ Below W.heap.size W w' := by
  have := sameInts_any g1 g2 L.length L.length c1 c2 L L W h1 h2 rfl rfl (by omega)
  rw [decide_eq_true rfl] at this
  exact this
theorem mail_no {w0 W : World} {Z : Nat → Prop} {p b m : Nat} {c : Nat → Nat} {ws : Nat → Int} {T : Twn} (h : TLv w0 Z W p b m c ws T) (hM : T.M = []) : Calls Try.prog 27 #[.pointer (some ⟨p, 0, none⟩)] W fun e w' => (∃ g2 c2, e = .returned (.slice g2 0 c2)) ∧ Below W.heap.size W w' := by
  refine (mail_tlv h).mono ?_
  rintro e w' ⟨⟨g2, c2, he, _⟩, hb⟩
  rw [hM] at he
  exact ⟨⟨g2, c2, he⟩, hb⟩

end Go.Proofs.Ytbgnajcmhmpjlac

/- The walk of TownBroker: it answers true, whatever it is given. -/
namespace Go.Proofs.Ytbgnajcmhmpjlac
open Go.RowKit

set_option maxHeartbeats 16000000 in
set_option maxRecDepth 100000 in
theorem tbroker_walk (ws : Nat → Int) (la : Option Addr) (ll lc : Nat) (l : List TSp) (w : World) (hl : TStAt w la l) (hll : l.length = ll) :
    Calls Try.prog 11 #[.agg #[.int .i64 (ws 0), .int .i64 (ws 1), .int .i64 (ws 2), .int .i64 (ws 3), .int .i64 (ws 4), .int .i64 (ws 5)], .slice la ll lc] w fun e w' => e = .returned (.bool true) ∧ Below w.heap.size w w' := by
  have HL0 := hid hl
  have HLL := hid hll
  clear hl hll
  go_enter Try.func11, Try.ntmps11
  go_upto_region 1 with fail
  have hb1 : Below w.heap.size w (w.alloc (.cells #[.int .i64 (ws 0), .int .i64 (ws 1), .int .i64 (ws 2), .int .i64 (ws 3), .int .i64 (ws 4), .int .i64 (ws 5)] 42)) := (Below.refl _ _).alloc (Nat.le_refl _) _
  have hX : BoxAt (w.alloc (.cells #[.int .i64 (ws 0), .int .i64 (ws 1), .int .i64 (ws 2), .int .i64 (ws 3), .int .i64 (ws 4), .int .i64 (ws 5)] 42)) w.heap.size [.int .i64 (ws 0), .int .i64 (ws 1), .int .i64 (ws 2), .int .i64 (ws 3), .int .i64 (ws 4), .int .i64 (ws 5)] := BoxAt.new w _ _
  generalize (w.alloc (.cells #[.int .i64 (ws 0), .int .i64 (ws 1), .int .i64 (ws 2), .int .i64 (ws 3), .int .i64 (ws 4), .int .i64 (ws 5)] 42)) = w1 at hb1 hX ⊢
  generalize hbx : w.heap.size = bx at hX ⊢
  have HB1 := hid hb1
  have HX1 := hid hX
  have HBX := hid hbx
  clear hb1 hX hbx
  go_wp2_with fail
  refine Calls.mono (tbegun_any w1) ?_
  rintro e w2 ⟨rfl, hb2⟩
  have HX2 := hid (HX1.out.next hb2)
  have HB2 := hid (after HB1.out hb2 HB1.out.size)
  have HL2 := hid (HL0.out.below HB2.out)
  clear hb2 HX1 HB1
  go_wp2_with fail
  refine Calls.mono (greatT_any la ll lc l w2 HL2.out HLL.out) ?_
  rintro e w3 ⟨⟨g, rfl, hg⟩, rfl⟩
  have HB3 : Hid (Below w.heap.size w w3) := HB2
  have HL3 : Hid (TStAt w3 la l) := HL2
  have HX3 : Hid (BoxAt w3 bx [.int .i64 (ws 0), .int .i64 (ws 1), .int .i64 (ws 2), .int .i64 (ws 3), .int .i64 (ws 4), .int .i64 (ws 5)]) := HX2
  clear HB2 HL2 HX2
  cases g with
  | true =>
    clear hg
    go_wp2_with fail
    go_ret
    exact ⟨rfl, HB3.out⟩
  | false =>
  have HG := hid (hg rfl)
  clear hg
  have x0 := HX3.out.2 0 _ rfl
  have x1 := HX3.out.2 1 _ rfl
  have x2 := HX3.out.2 2 _ rfl
  have x3 := HX3.out.2 3 _ rfl
  have x4 := HX3.out.2 4 _ rfl
  have x5 := HX3.out.2 5 _ rfl
  by_cases hok : OkT ws
  case neg =>
    have HC := hid (new_nil hok w3)
    clear hok
    go_wp2_with fail
    refine Calls.mono HC.out ?_
    rintro e w4 ⟨rfl, hb4⟩
    have HB4 := hid (after HB3.out hb4 HB3.out.size)
    clear hb4 HC x0 x1 x2 x3 x4 x5
    go_wp2_with fail
    go_ret
    exact ⟨rfl, HB4.out⟩
  have HC := hid (new_tlv hok w3)
  clear hok
  go_wp2_with fail
  refine Calls.mono HC.out ?_
  rintro e w4 ⟨p, b, m, c, rfl, hT4⟩
  have HT4 := hid hT4
  have j2 : (ll : Int) ≤ 250 := by have := HG.out.1; omega
  clear hT4 HC x0 x1 x2 x3 x4 x5
  go_wp2_with fail
  go_loopg [6] ll (fun g s6 wr => ∃ (k : Nat) (T : Twn), k ≤ ll ∧ g = ll - k ∧ s6 = .int .i64 k ∧ Hid (TLv w3 (fun k => k ∈ ([] : List Nat)) wr p b m c ws T))
  case atStart => exact ⟨0, _, Nat.zero_le _, rfl, rfl, HT4⟩
  case round =>
  obtain ⟨k, T, hk, rfl, rfl, HT⟩ := hrel
  by_cases hlt : k < ll
  case pos =>
    obtain ⟨x, hx⟩ : ∃ x, l[k]? = some x := ⟨_, List.getElem?_eq_getElem (by have := HLL.out; omega)⟩
    obtain ⟨bl, ol, sa, sc, rfl, hbl, hWx, q0, q1, q2⟩ := HL3.out.at HT.out.below hx
    have HC := hid (step_tlv (sc := sc) x HT.out hWx)
    have HK := hid hlt
    have j0 : (0 : Int) ≤ (k : Int) := by omega
    have j1 : (k : Int) < (ll : Int) := by omega
    clear hWx hx hk hlt hbl
    go_wp2_with fail
    refine Calls.mono HC.out ?_
    rintro e w5 ⟨rfl, hT5, _⟩
    have HT5 := hid hT5
    clear HC hT5 q0 q1 q2
    go_wp2_with fail
    go_roundg (ll - (k + 1))
    case measure => have := HK.out; omega
    case rel => exact ⟨k + 1, _, HK.out, rfl, by simp, HT5⟩
  have j1 : ¬ (k : Int) < (ll : Int) := by omega
  clear hk hlt
  obtain ⟨L, hL⟩ : ∃ L, T.B.ord = L := ⟨_, rfl⟩
  have HO0 := hid hL
  have HDn0 := hid (done_is HT.out hL)
  have c0 := HT.out.c0.1
  have HL8 : Hid (L.length ≤ 8) := by rw [← hL]; exact HT.out.full.brk.ordLen
  have HB8 : Hid (T.B.L.length ≤ 8) := HT.out.full.brk.len
  have HCr := hid (crash_calm HT.out.full)
  have HOr := hid HT.out.full.brk.ord
  clear hL HT4
  go_wp2_with fail
  refine Calls.mono HDn0.out ?_
  rintro e w50 ⟨⟨gd, cd, rfl, hN, hga⟩, hb50⟩
  have HT5 := hid (HT.out.more hb50 (Z' := fun k => ∃ a, gd = some a ∧ a.block = k) (fun k ⟨a, ha, hk⟩ => .inr (by rw [← hk]; exact hga a ha)))
  have HN5 := hid hN
  clear HT hN hga hb50 c0 HDn0
  have HT := HT5
  clear HT5
  have HSr := hid (serial_tlv HT.out)
  obtain ⟨f, hf⟩ : ∃ f, f = curR ws T := ⟨_, rfl⟩
  have HF := hid hf
  rw [← hf] at HSr
  clear hf
  go_wp2_with fail
  refine Calls.mono HSr.out ?_
  rintro e w5 ⟨rfl, hb5⟩
  simp only [wldV]
  go_upto_region 14 with fail
  have hbn : Below w5.heap.size w5 (w5.alloc (.cells #[.int .i64 (f 0), .int .i64 (f 1), .int .i64 (f 2), .int .i64 (f 3), .int .i64 (f 4), .int .i64 (f 5)] 42)) := (Below.refl _ _).alloc (Nat.le_refl _) _
  have hX : BoxAt (w5.alloc (.cells #[.int .i64 (f 0), .int .i64 (f 1), .int .i64 (f 2), .int .i64 (f 3), .int .i64 (f 4), .int .i64 (f 5)] 42)) w5.heap.size [.int .i64 (f 0), .int .i64 (f 1), .int .i64 (f 2), .int .i64 (f 3), .int .i64 (f 4), .int .i64 (f 5)] := BoxAt.new w5 _ _
  have HT6 : Hid (TLv w3 (Zk w5.heap.size gd) (w5.alloc (.cells #[.int .i64 (f 0), .int .i64 (f 1), .int .i64 (f 2), .int .i64 (f 3), .int .i64 (f 4), .int .i64 (f 5)] 42)) p b m c ws T) := (HT.out.next hb5).more hbn (fun k hk => hk.elim (fun q => .inr (by rw [q]; exact ⟨Nat.le_refl _, hX.1⟩)) (fun q => .inl q))
  have HKp6 : Hid (Kpt (w5.alloc (.cells #[.int .i64 (f 0), .int .i64 (f 1), .int .i64 (f 2), .int .i64 (f 3), .int .i64 (f 4), .int .i64 (f 5)] 42)) w5.heap.size f gd L) := ⟨hX, (HN5.out.below hb5 (Nat.le_refl _)).below hbn (Nat.le_refl _)⟩
  generalize (w5.alloc (.cells #[.int .i64 (f 0), .int .i64 (f 1), .int .i64 (f 2), .int .i64 (f 3), .int .i64 (f 4), .int .i64 (f 5)] 42)) = w6 at HKp6 HT6 ⊢
  generalize w5.heap.size = bf at HKp6 HT6 ⊢
  clear hX hbn hb5 HSr HT HN5
  have HSt := hid (step_tlv (sa := none) (sc := 0) ⟨8, 0, []⟩ HT6.out (no_wants _))
  rw [townR_crash] at HSt
  dsimp only at HSt
  go_wp2_with fail
  refine Calls.mono HSt.out ?_
  rintro e w7 ⟨rfl, hT7, hS7⟩
  have HKp7 := hid (HKp6.out.step hS7)
  have HT7 := hid hT7
  have HOc : Hid (({ T with B := crashR T.B } : Twn).B.ord = L) := HCr.out.1.trans HO0.out
  have HDn7 := hid (done_is hT7 HOc.out)
  have c0 := hT7.c0.1
  clear hT7 hS7 HSt HKp6 HT6
  go_wp2_with fail
  refine Calls.mono HDn7.out ?_
  rintro e w8 ⟨⟨g2, c2, rfl, hN2, _⟩, hb8⟩
  have HKp8 := hid (HKp7.out.next hb8)
  have HT8 := hid (HT7.out.next hb8)
  have HSm := hid (same_is (c1 := cd) (c2 := c2) HKp8.out.num hN2 HL8.out)
  clear hb8 hN2 HDn7 c0 HKp7 HT7
  go_wp2_with fail
  refine Calls.mono HSm.out ?_
  rintro e w9 ⟨rfl, hb9⟩
  have HKp9 := hid (HKp8.out.next hb9)
  have HT9 := hid (HT8.out.next hb9)
  clear hb9 HSm HKp8 HT8
  go_wp2_with fail
  go_loopg [10] T.B.L.length (fun g s10 wr => ∃ i : Nat, i ≤ T.B.L.length ∧ g = T.B.L.length - i ∧ s10 = .int .i64 i ∧ Hid (TLv w3 (Zk bf gd) wr p b m c ws { T with B := crashR T.B }) ∧ Hid (Kpt wr bf f gd L))
  case atStart => exact ⟨0, Nat.zero_le _, rfl, rfl, HT9, HKp9⟩
  case round =>
  clear HT9 HKp9
  obtain ⟨i, hi, rfl, rfl, HT, HKp⟩ := hrel
  have c0 := HT.out.c0.1
  have HLn := hid (len_tlv HT.out)
  have hle : ({ T with B := crashR T.B } : Twn).B.L.length = T.B.L.length := by show (crashR T.B).L.length = _; unfold crashR; simp
  rw [hle] at HLn
  by_cases hlt : i < T.B.L.length
  case pos =>
    have i1 : (i : Int) < (T.B.L.length : Int) := by omega
    have i8 : (i : Int) < 8 := by have := HB8.out; omega
    have HI := hid hlt
    have HS := hid (state_tlv (i : Int) HT.out)
    have hs : stR (crashR T.B) (i : Int) = if stR T.B (i : Int) = 0 then 2 else stR T.B (i : Int) := crash_state hlt
    have HIn := hid (in_any gd L.length cd L (i : Int) wr HKp.out.num rfl (by have := HL8.out; omega))
    have hin : decide ((i : Int) ∈ L) = (stR T.B (i : Int) == 1) := by
      have h1 : (i : Int) ∈ L ↔ stR T.B (i : Int) = 1 := by
        rw [← HO0.out, HOr.out]
        have hD : dealAt T.B (i : Int) = some T.B.L[i] := by rw [dealAt_nat]; exact List.getElem?_eq_getElem hlt
        rw [hD, stR_some hD]
        exact ⟨fun ⟨E, h1, h2⟩ => by obtain rfl := Option.some.inj h1; exact h2, fun q => ⟨_, rfl, q⟩⟩
      by_cases q : (i : Int) ∈ L
      · rw [decide_eq_true q, h1.1 q]; rfl
      · rw [decide_eq_false q, beq_eq_false_iff_ne.2 (fun z => q (h1.2 z))]
    rw [hin] at HIn
    have hs' : stR ({ T with B := crashR T.B } : Twn).B (i : Int) = stR (crashR T.B) (i : Int) := rfl
    rw [hs', hs] at HS
    clear hs hs' hin hi hlt hle
    by_cases h0 : stR T.B (i : Int) = 0
    · rw [h0] at HIn
      rw [if_pos h0] at HS
      clear h0
      have hf1 : ((0 : Int) == 1) = false := rfl
      rw [hf1] at HIn
      clear hf1
      go_wp2_with fail
      refine Calls.mono HLn.out ?_
      rintro e w8 ⟨rfl, rfl⟩
      go_wp2_with fail
      refine Calls.mono HS.out ?_
      rintro e w9 ⟨rfl, rfl⟩
      go_wp2_with fail
      refine Calls.mono HIn.out ?_
      rintro e w10 ⟨rfl, rfl⟩
      go_wp2_with fail
      refine Calls.mono HS.out ?_
      rintro e w11 ⟨rfl, rfl⟩
      go_wp2_with fail
      go_roundg (T.B.L.length - (i + 1))
      case measure => have := HI.out; omega
      case rel => exact ⟨i + 1, HI.out, rfl, by simp, HT, HKp⟩
    · have h0' : (stR T.B (i : Int) == 0) = false := by rw [beq_eq_false_iff_ne]; exact h0
      rw [if_neg h0] at HS
      clear h0
      obtain ⟨bo, hbo⟩ : ∃ bo, (stR T.B (i : Int) == 1) = bo := ⟨_, rfl⟩
      rw [hbo] at HIn
      generalize stR T.B (i : Int) = st at HS h0' hbo
      cases bo with
      | true =>
        go_wp2_with fail
        refine Calls.mono HLn.out ?_
        rintro e w8 ⟨rfl, rfl⟩
        go_wp2_with fail
        refine Calls.mono HS.out ?_
        rintro e w9 ⟨rfl, rfl⟩
        go_wp2_with fail
        refine Calls.mono HIn.out ?_
        rintro e w10 ⟨rfl, rfl⟩
        go_wp2_with fail
        refine Calls.mono HS.out ?_
        rintro e w11 ⟨rfl, rfl⟩
        go_wp2_with fail
        go_roundg (T.B.L.length - (i + 1))
        case measure => have := HI.out; omega
        case rel => exact ⟨i + 1, HI.out, rfl, by simp, HT, HKp⟩
      | false =>
        go_wp2_with fail
        refine Calls.mono HLn.out ?_
        rintro e w8 ⟨rfl, rfl⟩
        go_wp2_with fail
        refine Calls.mono HS.out ?_
        rintro e w9 ⟨rfl, rfl⟩
        go_wp2_with fail
        refine Calls.mono HIn.out ?_
        rintro e w10 ⟨rfl, rfl⟩
        go_wp2_with fail
        refine Calls.mono HS.out ?_
        rintro e w11 ⟨rfl, rfl⟩
        go_wp2_with fail
        go_roundg (T.B.L.length - (i + 1))
        case measure => have := HI.out; omega
        case rel => exact ⟨i + 1, HI.out, rfl, by simp, HT, HKp⟩
  have i1 : ¬ (i : Int) < (T.B.L.length : Int) := by omega
  clear hi hle
  go_wp2_with fail
  refine Calls.mono HLn.out ?_
  rintro e w8 ⟨rfl, rfl⟩
  clear c0 HLn
  have HC := hid (calm_tlv HT.out)
  go_wp2_with fail
  refine Calls.mono HC.out ?_
  rintro e wz ⟨rfl, hTz, hSz⟩
  have HKz := hid (HKp.out.step hSz)
  have HTz := hid hTz
  have HO : Hid ((calmR 20 0 { T with B := crashR T.B }).2.B.ord = L) := HCr.out.2.1.trans HO0.out
  have HV : Hid (∀ k, k < 6 → valT (calmR 20 0 { T with B := crashR T.B }).2 k = f k) := fun k hk => by rw [HF.out]; exact HCr.out.2.2 k hk
  clear HT HKp HC hTz hSz
  generalize (calmR 20 0 { T with B := crashR T.B }).2 = D at HTz HO HV
  have HT := HTz
  have HKp := HKz
  clear HTz HKz
  have HK : Hid (∀ w', Below wz.heap.size wz w' → w'.cell? ⟨p, 0, none⟩ = some (.pointer (some ⟨b, 0, none⟩)) ∧ w'.cell? ⟨bf, 0, none⟩ = some (.int .i64 (f 0)) ∧ w'.cell? ⟨bf, 1, none⟩ = some (.int .i64 (f 1)) ∧ w'.cell? ⟨bf, 2, none⟩ = some (.int .i64 (f 2)) ∧ w'.cell? ⟨bf, 3, none⟩ = some (.int .i64 (f 3)) ∧ w'.cell? ⟨bf, 4, none⟩ = some (.int .i64 (f 4)) ∧ w'.cell? ⟨bf, 5, none⟩ = some (.int .i64 (f 5))) := fun w' hb => ⟨(HT.out.next hb).c0.1, (HKp.out.next hb).box.2 0 _ rfl, (HKp.out.next hb).box.2 1 _ rfl, (HKp.out.next hb).box.2 2 _ rfl, (HKp.out.next hb).box.2 3 _ rfl, (HKp.out.next hb).box.2 4 _ rfl, (HKp.out.next hb).box.2 5 _ rfl⟩
  have HWd : Hid (∀ W, Below wz.heap.size wz W → Calls Try.prog 31 #[.pointer (some ⟨p, 0, none⟩)] W fun e w' => e = .returned (.agg #[.int .i64 (f 0), .int .i64 (f 1), .int .i64 (f 2), .int .i64 (f 3), .int .i64 (f 4), .int .i64 (f 5)]) ∧ Below W.heap.size W w') := fun W hW => world_is (HT.out.next hW) HV.out
  have HDn : Hid (∀ W, Below wz.heap.size wz W → Calls Try.prog 20 #[.pointer (some ⟨b, 0, none⟩)] W fun e w' => (∃ g2 c2, e = .returned (.slice g2 L.length c2) ∧ NumsAt w' g2 L ∧ ∀ a, g2 = some a → W.heap.size ≤ a.block ∧ a.block < w'.heap.size) ∧ Below W.heap.size W w') := fun W hW => done_is (HT.out.next hW) HO.out
  have HSi : Hid (∀ W g2 c2, Below wz.heap.size wz W → NumsAt W g2 L → Calls Try.prog 39 #[.slice gd L.length cd, .slice g2 L.length c2] W fun e w' => e = .returned (.bool true) ∧ Below W.heap.size W w') := fun W g2 c2 hW hN => same_is (HKp.out.next hW).num hN HL8.out
  have HBz := hid HT.out.below
  have hq := eq6
  go_upto_region 22 with fail
  clear HT HKp HV HO
  go_region_held3 (fun w' => w'.cell? ⟨p, 0, none⟩ = some (.pointer (some ⟨b, 0, none⟩)) ∧ w'.cell? ⟨bf, 0, none⟩ = some (.int .i64 (f 0)) ∧ w'.cell? ⟨bf, 1, none⟩ = some (.int .i64 (f 1)) ∧ w'.cell? ⟨bf, 2, none⟩ = some (.int .i64 (f 2)) ∧ w'.cell? ⟨bf, 3, none⟩ = some (.int .i64 (f 3)) ∧ w'.cell? ⟨bf, 4, none⟩ = some (.int .i64 (f 4)) ∧ w'.cell? ⟨bf, 5, none⟩ = some (.int .i64 (f 5)))
    (first | exact HK.out _ (by go_grown))
    (first | (go_at_call 31; refine Calls.mono (HWd.out _ (by go_grown)) ?_; rintro e w91 ⟨rfl, hb91⟩; have hw91 : Below wz.heap.size wz w91 := after (by go_grown) hb91 (by first | omega | (simp <;> omega)); have hz91 : wz.heap.size ≤ w91.heap.size := hw91.size) | (go_at_call 20; refine Calls.mono (HDn.out _ (by go_grown)) ?_; rintro e w92 ⟨⟨g2, c2, rfl, hN2, _⟩, hb92⟩; have HN2 := hid hN2; clear hN2; have hw92 : Below wz.heap.size wz w92 := after (by go_grown) hb92 (by first | omega | (simp <;> omega)); have hz92 : wz.heap.size ≤ w92.heap.size := hw92.size) | (go_at_call 39; refine Calls.mono (HSi.out _ _ _ (by go_grown) (HN2.out.below (by go_grown) (Nat.le_refl _))) ?_; rintro e w93 ⟨rfl, hb93⟩; have hw93 : Below wz.heap.size wz w93 := after (by go_grown) hb93 (by first | omega | (simp <;> omega)); have hz93 : wz.heap.size ≤ w93.heap.size := hw93.size))
  all_goals
    go_wp2_with fail
    go_ret
    exact ⟨rfl, after HB3.out (after HBz.out hw93 HBz.out.size) HB3.out.size⟩

end Go.Proofs.Ytbgnajcmhmpjlac

namespace Go.Proofs.Ytbgnajcmhmpjlac
open Go.ChangeShapes Go.WideShapes Go.ChangeAt Go.RowKit Go.Deep

theorem Try.ownTownBroker : ownKnob Try.prog.godebug = none := by kernel_rfl
theorem Try.laidOutTownBroker : laidOutB Try.prog = true := by kernel_rfl

set_option maxRecDepth 100000 in
theorem townBroker_lifted (os : Os) (started : os.Started) (H : Type) (enc : TypeId × Value → H) :
    ReturnsInHanded {} Try.checked os 11 .any (Rows.townBrokerSpec.pre6 enc Try.prog Try.f11 Rows.townBrokerRow.domain false) (Rows.townBrokerSpec.post enc Try.prog Try.f11 false true false false) := by
  refine returnsInHanded_of_change (C := Try.checked) Try.ownTownBroker started (by kernel_rfl) Try.func11
    (ChangeSpec.witness6 (enc := enc) (C := Try.checked) false ⟨#[], #[.agg #[.int .i64 0, .int .i64 0, .int .i64 0, .int .i64 0, .int .i64 0, .int .i64 0], .slice none 0 0], []⟩ 8 (by kernel_rfl) (by kernel_rfl) (by kernel_rfl) (by kernel_rfl)) ?_
  intro W base args ds gs before hval0 hW _ _
  have hval : ∀ (j : Nat) t v, Try.f11.params[j]? = some t → args[j]? = some v → Value.okWide Try.prog W .any base t v := hval0
  have hW' := hW
  obtain ⟨p, q, hA0, hV, rfl, hfz, hnd⟩ := hW
  have hA : DataW.TrodAll enc Try.prog W 0 (fun _ => true) true Try.f11.params.toList args.toList ds p := hA0
  rw [Try.params11] at hA hval
  obtain ⟨v0, v1, d0, d1, p0, p1, rfl, rfl, rfl, h0, h1⟩ := trodAll_two hA
  obtain ⟨rfl, rfl⟩ := trodVars_none hV
  have k0 := h0
  have lt0 : ∀ x ∈ p0, x.block < W.heap.size := by obtain ⟨m, hm⟩ := k0; exact DataW.trod_lt m _ _ _ hm
  have k1 := h1
  have lt1 : ∀ x ∈ p1, x.block < W.heap.size := by obtain ⟨m, hm⟩ := k1; exact DataW.trod_lt m _ _ _ hm
  obtain ⟨ws, rfl⟩ := open_world (hval 0 42 v0 rfl rfl) h0
  obtain ⟨a1, l1, c1, rfl⟩ := okWide_slice Try.underlying43 (hval 1 43 v1 rfl rfl)
  obtain ⟨l, hl, hll⟩ := open_tsteps h1
  clear hA0 hval0
  refine (tbroker_walk ws a1 l1 c1 l W hl hll).mono fun e W' ⟨hret, hb⟩ => ?_
  subst hret
  exact ⟨_, rfl, _, _, _, [], _, [], hW', trodAll_mk1 (shut_bool Try.underlying4 true), trodAll_mk2 (Below.trod Try.laidOutTownBroker (by kernel_rfl) (of_decide_eq_true (by kernel_rfl)) k0 hb lt0) (Below.trod Try.laidOutTownBroker (by kernel_rfl) (of_decide_eq_true (by kernel_rfl)) k1 hb lt1), rfl, hb.frame _, fun h => by cases h⟩

theorem townBroker_holds : Rows.TownBrokerSaid :=
  OpenClaim.holds_of_wide 11 Try.f11 rfl rfl rfl rfl rfl rfl rfl ⟨rfl, rfl, rfl, rfl, rfl⟩ rfl rfl rfl rfl rfl (by kernel_rfl) Try.func11 (by kernel_rfl)
    (of_decide_eq_true (by kernel_rfl)) (by unfold Func.isWrapper; first | (rw [if_pos (by decide +kernel)]; kernel_rfl) | (rw [if_neg (by decide +kernel)]; exact ⟨rfl, rfl⟩))
    (fun os started H enc _ => townBroker_lifted os started H enc)

#print axioms townBroker_holds
end Go.Proofs.Ytbgnajcmhmpjlac
