/- For every world and every list of steps: the statement TownSum of the program returns true, and its arguments read as before (no condition). -/
import Derived.BigQuiet
import Derived.Deep.RegionHeld3
import Derived.Test.YtbgnajcmhmpjlacRows
import Derived.Test.YtbgnajcmhmpjlacN6

/- What a law keeps while a town goes on: a world and a list of numbers in blocks of its own. -/
namespace Go.Proofs.Ytbgnajcmhmpjlac
open Go.RowKit

/-- The blocks that are kept. -/
def Zk (bx : Nat) (ga : Option Addr) : Nat → Prop := fun k => k = bx ∨ ∃ a, ga = some a ∧ a.block = k
theorem nums_save {O : Nat → Prop} {w w' : World} {ga : Option Addr} {l : List Int} (h : NumsAt w ga l) (hs : Save O w w') (hn : ∀ a, ga = some a → ¬ O a.block) : NumsAt w' ga l := by
  intro k x hk
  obtain ⟨b, off, e, hl, hc⟩ := h k x hk
  exact ⟨b, off, e, Nat.lt_of_lt_of_le hl hs.size, (hs.cell (p := ⟨b, off + k, none⟩) hl (hn ⟨b, off, none⟩ e)).trans hc⟩
structure Kpt (w : World) (bx : Nat) (f : Nat → Int) (ga : Option Addr) (l : List Int) : Prop where
  box : BoxAt w bx [.int .i64 (f 0), .int .i64 (f 1), .int .i64 (f 2), .int .i64 (f 3), .int .i64 (f 4), .int .i64 (f 5)]
  num : NumsAt w ga l
theorem Kpt.next {w w' : World} {bx : Nat} {f : Nat → Int} {ga : Option Addr} {l : List Int} (h : Kpt w bx f ga l) (hb : Below w.heap.size w w') : Kpt w' bx f ga l := ⟨h.box.next hb, h.num.below hb (Nat.le_refl _)⟩
theorem Kpt.step {w w' : World} {bx : Nat} {f : Nat → Int} {ga : Option Addr} {l : List Int} (h : Kpt w bx f ga l) (hs : Save (fun k => ¬ Zk bx ga k) w w') : Kpt w' bx f ga l :=
  ⟨h.box.save hs (fun q => q (.inl rfl)), nums_save h.num hs (fun a ha q => q (.inr ⟨a, ha, rfl⟩))⟩
/-- What a town that is kept beside them tells. -/
theorem world_is {w0 W : World} {Z : Nat → Prop} {p b m : Nat} {c : Nat → Nat} {ws f : Nat → Int} {T : Twn} (h : TLv w0 Z W p b m c ws T) (hf : ∀ k, k < 6 → valT T k = f k) : Calls Try.prog 31 #[.pointer (some ⟨p, 0, none⟩)] W fun e w' => e = .returned (.agg #[.int .i64 (f 0), .int .i64 (f 1), .int .i64 (f 2), .int .i64 (f 3), .int .i64 (f 4), .int .i64 (f 5)]) ∧ Below W.heap.size W w' := by
  have := world_tlv h
  unfold wldV at this
  rw [hf 0 (by omega), hf 1 (by omega), hf 2 (by omega), hf 3 (by omega), hf 4 (by omega), hf 5 (by omega)] at this
  exact this
theorem done_is {w0 W : World} {Z : Nat → Prop} {p b m : Nat} {c : Nat → Nat} {ws : Nat → Int} {T : Twn} {L : List Int} (h : TLv w0 Z W p b m c ws T) (hL : T.B.ord = L) : Calls Try.prog 20 #[.pointer (some ⟨b, 0, none⟩)] W fun e w' => (∃ g2 c2, e = .returned (.slice g2 L.length c2) ∧ NumsAt w' g2 L ∧ ∀ a, g2 = some a → W.heap.size ≤ a.block ∧ a.block < w'.heap.size) ∧ Below W.heap.size W w' := by
  refine (done_tlv h).mono ?_
  rintro e w' ⟨⟨v, he, hv⟩, hb⟩
  have hsl := hv
  obtain ⟨g2, c2, rfl, hN, _⟩ := nums_of_own hv
  rw [hL] at he hN
  exact ⟨⟨g2, c2, he, hN, fun a ha => by subst ha; exact hsl.lt a.block rfl⟩, hb⟩
theorem same_is {W : World} {g1 g2 : Option Addr} {c1 c2 : Nat} {L : List Int} (h1 : NumsAt W g1 L) (h2 : NumsAt W g2 L) (hl : L.length ≤ 8) : Calls Try.prog 39 #[.slice g1 L.length c1, .slice g2 L.length c2] W fun e w' => e = .returned (.bool true) ∧ Below W.heap.size W w' := by
  have := sameInts_any g1 g2 L.length L.length c1 c2 L L W h1 h2 rfl rfl (by omega)
  rw [decide_eq_true rfl] at this
  exact this
theorem mail_no {w0 W : World} {Z : Nat → Prop} {p b m : Nat} {c : Nat → Nat} {ws : Nat → Int} {T : Twn} (h : TLv w0 Z W p b m c ws T) (hM : T.M = []) : Calls Try.prog 27 #[.pointer (some ⟨p, 0, none⟩)] W fun e w' => (∃ g2 c2, e = .returned (.slice g2 0 c2)) ∧ Below W.heap.size W w' := by
  refine (mail_tlv h).mono ?_
  rintro e w' ⟨⟨g2, c2, he, _⟩, hb⟩
  rw [hM] at he
  exact ⟨⟨g2, c2, he⟩, hb⟩

end Go.Proofs.Ytbgnajcmhmpjlac

/- The walk of TownSum: it answers true, whatever it is given. -/
namespace Go.Proofs.Ytbgnajcmhmpjlac
open Go.RowKit

theorem box6_at {w : World} {b : Nat} {f : Nat → Int} (h : BoxAt w b [.int .i64 (f 0), .int .i64 (f 1), .int .i64 (f 2), .int .i64 (f 3), .int .i64 (f 4), .int .i64 (f 5)]) {k : Nat} (hk : k < 6) : w.cell? ⟨b, k, none⟩ = some (.int .i64 (f k)) := by
  rcases six_cases hk with rfl | rfl | rfl | rfl | rfl | rfl
  · exact h.2 0 _ rfl
  · exact h.2 1 _ rfl
  · exact h.2 2 _ rfl
  · exact h.2 3 _ rfl
  · exact h.2 4 _ rfl
  · exact h.2 5 _ rfl
set_option maxHeartbeats 16000000 in
set_option maxRecDepth 100000 in
theorem tsum_walk (ws : Nat → Int) (la : Option Addr) (ll lc : Nat) (l : List TSp) (w : World) (hl : TStAt w la l) (hll : l.length = ll) :
    Calls Try.prog 6 #[.agg #[.int .i64 (ws 0), .int .i64 (ws 1), .int .i64 (ws 2), .int .i64 (ws 3), .int .i64 (ws 4), .int .i64 (ws 5)], .slice la ll lc] w fun e w' => e = .returned (.bool true) ∧ Below w.heap.size w w' := by
  have HL0 := hid hl
  have HLL := hid hll
  clear hl hll
  go_enter Try.func6, Try.ntmps6
  go_upto_region 1 with fail
  have hb1 : Below w.heap.size w (w.alloc (.cells #[.int .i64 (ws 0), .int .i64 (ws 1), .int .i64 (ws 2), .int .i64 (ws 3), .int .i64 (ws 4), .int .i64 (ws 5)] 42)) := (Below.refl _ _).alloc (Nat.le_refl _) _
  have hX : BoxAt (w.alloc (.cells #[.int .i64 (ws 0), .int .i64 (ws 1), .int .i64 (ws 2), .int .i64 (ws 3), .int .i64 (ws 4), .int .i64 (ws 5)] 42)) w.heap.size [.int .i64 (ws 0), .int .i64 (ws 1), .int .i64 (ws 2), .int .i64 (ws 3), .int .i64 (ws 4), .int .i64 (ws 5)] := BoxAt.new w _ _
  generalize (w.alloc (.cells #[.int .i64 (ws 0), .int .i64 (ws 1), .int .i64 (ws 2), .int .i64 (ws 3), .int .i64 (ws 4), .int .i64 (ws 5)] 42)) = w1 at hb1 hX ⊢
  generalize hbx : w.heap.size = bx at hX ⊢
  have HB1 := hid hb1
  have HX1 := hid hX
  have HBX := hid hbx
  clear hb1 hX hbx
  go_wp2_with fail
  refine Calls.mono (tbegun_any w1) ?_
  rintro e w2 ⟨rfl, hb2⟩
  have HX2 := hid (HX1.out.next hb2)
  have HB2 := hid (after HB1.out hb2 HB1.out.size)
  have HL2 := hid (HL0.out.below HB2.out)
  clear hb2 HX1 HB1
  go_wp2_with fail
  refine Calls.mono (greatT_any la ll lc l w2 HL2.out HLL.out) ?_
  rintro e w3 ⟨⟨g, rfl, hg⟩, rfl⟩
  have HB3 : Hid (Below w.heap.size w w3) := HB2
  have HL3 : Hid (TStAt w3 la l) := HL2
  have HX3 : Hid (BoxAt w3 bx [.int .i64 (ws 0), .int .i64 (ws 1), .int .i64 (ws 2), .int .i64 (ws 3), .int .i64 (ws 4), .int .i64 (ws 5)]) := HX2
  clear HB2 HL2 HX2
  cases g with
  | true =>
    clear hg
    go_wp2_with fail
    go_ret
    exact ⟨rfl, HB3.out⟩
  | false =>
  have HG := hid (hg rfl)
  clear hg
  have x0 := HX3.out.2 0 _ rfl
  have x1 := HX3.out.2 1 _ rfl
  have x2 := HX3.out.2 2 _ rfl
  have x3 := HX3.out.2 3 _ rfl
  have x4 := HX3.out.2 4 _ rfl
  have x5 := HX3.out.2 5 _ rfl
  by_cases hok : OkT ws
  case neg =>
    have HC := hid (new_nil hok w3)
    clear hok
    go_wp2_with fail
    refine Calls.mono HC.out ?_
    rintro e w4 ⟨rfl, hb4⟩
    have HB4 := hid (after HB3.out hb4 HB3.out.size)
    clear hb4 HC x0 x1 x2 x3 x4 x5
    go_wp2_with fail
    go_ret
    exact ⟨rfl, HB4.out⟩
  have HC := hid (new_tlv hok w3)
  clear hok
  go_wp2_with fail
  refine Calls.mono HC.out ?_
  rintro e w4 ⟨p, b, m, c, rfl, hT4⟩
  have HT4 := hid hT4
  have j2 : (ll : Int) ≤ 250 := by have := HG.out.1; omega
  clear hT4 HC x0 x1 x2 x3 x4 x5
  have HV0 : Hid (∀ k, k < 6 → 0 ≤ ws k ∧ ws k ≤ 100) := fun k hk => by
    have h1 := HT4.out.full.val hk
    have h2 := HT4.out.full.town.inv.vals k hk
    have h3 : sumD (doneAt (T00 ws) k) (T00 ws).B.ord = 0 := rfl
    rw [h3] at h2
    omega
  go_wp2_with fail
  go_loopg [6, 7, 8] ll (fun g s6 _ _ wr => ∃ (k : Nat) (T : Twn), k ≤ ll ∧ g = ll - k ∧ s6 = .int .i64 k ∧ Hid (TLv w3 (fun k => k ∈ ([] : List Nat)) wr p b m c ws T) ∧ Hid (∀ D ∈ T.B.L, dsum D.w = 0))
  case atStart => exact ⟨0, _, Nat.zero_le _, rfl, rfl, HT4, fun D hD => by simp [T00] at hD⟩
  case round =>
  obtain ⟨k, T, hk, rfl, rfl, HT, HZ⟩ := hrel
  by_cases hlt : k < ll
  case pos =>
    obtain ⟨x, hx⟩ : ∃ x, l[k]? = some x := ⟨_, List.getElem?_eq_getElem (by have := HLL.out; omega)⟩
    have HX50 : Hid (x.w.length ≤ 50) := HG.out.2 x (List.mem_of_getElem? hx)
    obtain ⟨bl, ol, sa, sc, rfl, hbl, hWx, q0, q1, q2⟩ := HL3.out.at HT.out.below hx
    have HC := hid (step_tlv (sc := sc) x HT.out hWx)
    have HWx := hid hWx
    have HK := hid hlt
    have j0 : (0 : Int) ≤ (k : Int) := by omega
    have j1 : (k : Int) < (ll : Int) := by omega
    clear hWx hx hk hlt hbl
    go_wp2_with fail
    go_loopg [7, 8] x.w.length (fun g s7 s8 wx => ∃ i : Nat, i ≤ x.w.length ∧ g = x.w.length - i ∧ s7 = .int .i64 (sumOk (x.w.take i)) ∧ s8 = .int .i64 i ∧ wr = wx)
    case atStart => exact ⟨0, Nat.zero_le _, rfl, rfl, rfl, rfl⟩
    case round =>
    obtain ⟨i, hi, rfl, rfl, rfl, rfl⟩ := hrel
    by_cases hil : i < x.w.length
    case pos =>
      obtain ⟨⟨cc, d⟩, hcd⟩ : ∃ y, x.w[i]? = some y := ⟨_, List.getElem?_eq_getElem hil⟩
      obtain ⟨bw, ow, rfl, hbw, _, hdd⟩ := HWx.out i cc d hcd
      have HI := hid hil
      have i0 : (0 : Int) ≤ (i : Int) := by omega
      have i1 : (i : Int) < (x.w.length : Int) := by omega
      have i5 : (i : Int) < 50 := by have := HX50.out; omega
      have HB1 := hid (sumOk_bound (x.w.take i))
      have HTl : Hid ((x.w.take i).length ≤ 50) := by show _ ≤ _; have := HX50.out; simp; omega
      have HN : Hid (sumOk (x.w.take (i + 1)) = sumOk (x.w.take i) + if dlt d = 0 then d else 0) := by show _ = _; rw [take_snoc hcd, sumOk_snoc]
      have HD := hid (deltaFault_any d wr)
      by_cases hz : dlt d = 0
      · obtain ⟨_, d1, d2⟩ := dlt_ok hz
        have hr : IntKind.i64.wrap (sumOk (x.w.take i) + d) = sumOk (x.w.take i) + d := by
          have := HB1.out
          have := HTl.out
          go_unwrap
        rw [if_pos hz] at HN
        rw [hz] at HD
        clear hz hcd hi hil hbw d1 d2
        generalize sumOk (x.w.take i) = sm at *
        go_wp2_with fail
        refine Calls.mono HD.out ?_
        rintro e w5 ⟨rfl, rfl⟩
        go_wp2_with fail
        go_roundg (x.w.length - (i + 1))
        case measure => have := HI.out; omega
        case rel => exact ⟨i + 1, HI.out, rfl, by rw [HN.out], by simp, rfl⟩
      · have hz' : (dlt d == 0) = false := by rw [beq_eq_false_iff_ne]; exact hz
        rw [if_neg hz, Int.add_zero] at HN
        clear hz hcd hi hil hbw
        generalize sumOk (x.w.take i) = sm at *
        generalize dlt d = dd at HD hz'
        go_wp2_with fail
        refine Calls.mono HD.out ?_
        rintro e w5 ⟨rfl, rfl⟩
        go_wp2_with fail
        go_roundg (x.w.length - (i + 1))
        case measure => have := HI.out; omega
        case rel => exact ⟨i + 1, HI.out, rfl, by rw [HN.out], by simp, rfl⟩
    have i1 : ¬ (i : Int) < (x.w.length : Int) := by omega
    have hie : x.w.take i = x.w := List.take_of_length_le (by omega)
    rw [hie]
    clear hi hie
    by_cases hkd : x.kind = 1
    · have hkd' : (x.kind == 1) = true := by simp [hkd]
      by_cases hsm : sumOk x.w = 0
      · have hsm' : (sumOk x.w != 0) = false := by simp [hsm]
        have HZ2 := hid (sum_step (T := T) (x := x) HZ.out (fun _ => hsm))
        clear hkd hsm
        generalize sumOk x.w = sm at *
        go_wp2_with fail
        refine Calls.mono HC.out ?_
        rintro e w5 ⟨rfl, hT5, _⟩
        have HT5 := hid hT5
        clear HC hT5 q0 q1 q2
        go_wp2_with fail
        go_roundg (ll - (k + 1))
        case measure => have := HK.out; omega
        case rel => exact ⟨k + 1, _, HK.out, rfl, by simp, HT5, HZ2⟩
      · have hsm' : (sumOk x.w != 0) = true := by simpa using hsm
        clear hkd hsm
        generalize sumOk x.w = sm at *
        go_wp2_with fail
        go_roundg (ll - (k + 1))
        case measure => have := HK.out; omega
        case rel => exact ⟨k + 1, _, HK.out, rfl, by simp, HT, HZ⟩
    · have hkd' : (x.kind == 1) = false := by rw [beq_eq_false_iff_ne]; exact hkd
      have HZ2 := hid (sum_step (T := T) (x := x) HZ.out (fun q => absurd q hkd))
      clear hkd
      generalize sumOk x.w = sm at *
      go_wp2_with fail
      refine Calls.mono HC.out ?_
      rintro e w5 ⟨rfl, hT5, _⟩
      have HT5 := hid hT5
      clear HC hT5 q0 q1 q2
      go_wp2_with fail
      go_roundg (ll - (k + 1))
      case measure => have := HK.out; omega
      case rel => exact ⟨k + 1, _, HK.out, rfl, by simp, HT5, HZ2⟩
  have j1 : ¬ (k : Int) < (ll : Int) := by omega
  clear hk hlt
  have HC := hid (calm_tlv HT.out)
  have HSm := hid (sum_calm HT.out.full HZ.out)
  generalize (calmR 20 0 T).2 = D at HC HSm
  go_wp2_with fail
  refine Calls.mono HC.out ?_
  rintro e w5 ⟨rfl, hT5, _⟩
  have HT5 := hid hT5
  clear HC hT5 HT HT4 HZ
  obtain ⟨f, hf⟩ : ∃ f, f = valT D := ⟨_, rfl⟩
  have HF := hid hf
  have HWd := hid (world_is HT5.out (f := f) (fun k _ => by rw [hf]))
  have HVf : Hid (∀ k, k < 6 → 0 ≤ f k ∧ f k ≤ 100) := fun k hk => by rw [HF.out]; exact HT5.out.full.val hk
  clear hf
  go_wp2_with fail
  refine Calls.mono HWd.out ?_
  rintro e w6 ⟨rfl, hb6⟩
  have HB6 := hid (after HT5.out.below hb6 HT5.out.below.size)
  clear hb6 HWd
  go_upto_region 22 with fail
  have hbn : Below w6.heap.size w6 (w6.alloc (.cells #[.int .i64 (f 0), .int .i64 (f 1), .int .i64 (f 2), .int .i64 (f 3), .int .i64 (f 4), .int .i64 (f 5)] 42)) := (Below.refl _ _).alloc (Nat.le_refl _) _
  have hX : BoxAt (w6.alloc (.cells #[.int .i64 (f 0), .int .i64 (f 1), .int .i64 (f 2), .int .i64 (f 3), .int .i64 (f 4), .int .i64 (f 5)] 42)) w6.heap.size [.int .i64 (f 0), .int .i64 (f 1), .int .i64 (f 2), .int .i64 (f 3), .int .i64 (f 4), .int .i64 (f 5)] := BoxAt.new w6 _ _
  have HB7 := hid (after HB6.out hbn HB6.out.size)
  generalize (w6.alloc (.cells #[.int .i64 (f 0), .int .i64 (f 1), .int .i64 (f 2), .int .i64 (f 3), .int .i64 (f 4), .int .i64 (f 5)] 42)) = w7 at hX HB7 ⊢
  generalize w6.heap.size = bf at hX ⊢
  have HX := hid hX
  have HX0 := hid (HX3.out.next HB7.out)
  clear hX hbn HB6
  go_wp2_with fail
  go_loopg [9, 10, 12] 6 (fun g s9 s10 s12 wx => ∃ i : Nat, i ≤ 6 ∧ g = 6 - i ∧ s9 = .int .i64 (sumTo ws i) ∧ s10 = .int .i64 (sumTo f i) ∧ s12 = .int .i64 i ∧ Hid (Below w7.heap.size w7 wx))
  case atStart => exact ⟨0, Nat.zero_le _, rfl, rfl, rfl, rfl, Below.refl _ _⟩
  case round =>
  obtain ⟨i, hi, rfl, rfl, rfl, rfl, HBx⟩ := hrel
  by_cases hil : i < 6
  case pos =>
    have i1 : (i : Int) < 6 := by omega
    have i0 : (0 : Int) ≤ (i : Int) := by omega
    have HI := hid hil
    have e0 := box6_at (HX0.out.next HBx.out) hil
    have e1 := box6_at (HX.out.next HBx.out) hil
    have hr0 : IntKind.i64.wrap (sumTo ws i + ws i) = sumTo ws i + ws i := by
      have h1 := sumTo_bound HV0.out i (by omega)
      have h2 := HV0.out i hil
      go_unwrap
    have hr1 : IntKind.i64.wrap (sumTo f i + f i) = sumTo f i + f i := by
      have h1 := sumTo_bound HVf.out i (by omega)
      have h2 := HVf.out i hil
      go_unwrap
    have HN0 : Hid (sumTo ws (i + 1) = sumTo ws i + ws i) := rfl
    have HN1 : Hid (sumTo f (i + 1) = sumTo f i + f i) := rfl
    clear hi hil
    generalize sumTo ws i = a0 at *
    generalize sumTo f i = a1 at *
    go_wp2_with fail
    go_quiet (fail)
    go_wp2_with fail
    go_roundg (6 - (i + 1))
    case measure => have := HI.out; omega
    case rel => exact ⟨i + 1, HI.out, rfl, by rw [HN0.out], by rw [HN1.out], by simp, bdrewN HBx.out nq⟩
  have i1 : ¬ (i : Int) < 6 := by omega
  have hi6 : i = 6 := by omega
  subst hi6
  have hee : (sumTo ws 6 == sumTo f 6) = true := by rw [sumTo_six, sumTo_six, HF.out, HSm.out]; simp
  clear hi
  generalize sumTo ws 6 = a0 at *
  generalize sumTo f 6 = a1 at *
  go_wp2_with fail
  go_ret
  exact ⟨rfl, after HB3.out (after HB7.out HBx.out HB7.out.size) HB3.out.size⟩

end Go.Proofs.Ytbgnajcmhmpjlac

namespace Go.Proofs.Ytbgnajcmhmpjlac
open Go.ChangeShapes Go.WideShapes Go.ChangeAt Go.RowKit Go.Deep

theorem Try.ownTownSum : ownKnob Try.prog.godebug = none := by kernel_rfl
theorem Try.laidOutTownSum : laidOutB Try.prog = true := by kernel_rfl

set_option maxRecDepth 100000 in
theorem townSum_lifted (os : Os) (started : os.Started) (H : Type) (enc : TypeId × Value → H) :
    ReturnsInHanded {} Try.checked os 6 .any (Rows.townSumSpec.pre6 enc Try.prog Try.f6 Rows.townSumRow.domain false) (Rows.townSumSpec.post enc Try.prog Try.f6 false true false false) := by
  refine returnsInHanded_of_change (C := Try.checked) Try.ownTownSum started (by kernel_rfl) Try.func6
    (ChangeSpec.witness6 (enc := enc) (C := Try.checked) false ⟨#[], #[.agg #[.int .i64 0, .int .i64 0, .int .i64 0, .int .i64 0, .int .i64 0, .int .i64 0], .slice none 0 0], []⟩ 8 (by kernel_rfl) (by kernel_rfl) (by kernel_rfl) (by kernel_rfl)) ?_
  intro W base args ds gs before hval0 hW _ _
  have hval : ∀ (j : Nat) t v, Try.f6.params[j]? = some t → args[j]? = some v → Value.okWide Try.prog W .any base t v := hval0
  have hW' := hW
  obtain ⟨p, q, hA0, hV, rfl, hfz, hnd⟩ := hW
  have hA : DataW.TrodAll enc Try.prog W 0 (fun _ => true) true Try.f6.params.toList args.toList ds p := hA0
  rw [Try.params6] at hA hval
  obtain ⟨v0, v1, d0, d1, p0, p1, rfl, rfl, rfl, h0, h1⟩ := trodAll_two hA
  obtain ⟨rfl, rfl⟩ := trodVars_none hV
  have k0 := h0
  have lt0 : ∀ x ∈ p0, x.block < W.heap.size := by obtain ⟨m, hm⟩ := k0; exact DataW.trod_lt m _ _ _ hm
  have k1 := h1
  have lt1 : ∀ x ∈ p1, x.block < W.heap.size := by obtain ⟨m, hm⟩ := k1; exact DataW.trod_lt m _ _ _ hm
  obtain ⟨ws, rfl⟩ := open_world (hval 0 42 v0 rfl rfl) h0
  obtain ⟨a1, l1, c1, rfl⟩ := okWide_slice Try.underlying43 (hval 1 43 v1 rfl rfl)
  obtain ⟨l, hl, hll⟩ := open_tsteps h1
  clear hA0 hval0
  refine (tsum_walk ws a1 l1 c1 l W hl hll).mono fun e W' ⟨hret, hb⟩ => ?_
  subst hret
  exact ⟨_, rfl, _, _, _, [], _, [], hW', trodAll_mk1 (shut_bool Try.underlying4 true), trodAll_mk2 (Below.trod Try.laidOutTownSum (by kernel_rfl) (of_decide_eq_true (by kernel_rfl)) k0 hb lt0) (Below.trod Try.laidOutTownSum (by kernel_rfl) (of_decide_eq_true (by kernel_rfl)) k1 hb lt1), rfl, hb.frame _, fun h => by cases h⟩

theorem townSum_holds : Rows.TownSumSaid :=
  OpenClaim.holds_of_wide 6 Try.f6 rfl rfl rfl rfl rfl rfl rfl ⟨rfl, rfl, rfl, rfl, rfl⟩ rfl rfl rfl rfl rfl (by kernel_rfl) Try.func6 (by kernel_rfl)
    (of_decide_eq_true (by kernel_rfl)) (by unfold Func.isWrapper; first | (rw [if_pos (by decide +kernel)]; kernel_rfl) | (rw [if_neg (by decide +kernel)]; exact ⟨rfl, rfl⟩))
    (fun os started H enc _ => townSum_lifted os started H enc)

#print axioms townSum_holds
end Go.Proofs.Ytbgnajcmhmpjlac
