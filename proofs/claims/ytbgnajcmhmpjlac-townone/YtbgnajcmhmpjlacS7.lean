/- For every world, every list of steps and of wants: the statement TownOne of the program returns true, and its arguments read as before (no condition). -/
import Derived.BigQuiet
import Derived.Deep.RegionHeld3
import Derived.Test.YtbgnajcmhmpjlacRows
import Derived.Test.YtbgnajcmhmpjlacN6

/- What a law keeps while a town goes on: a world and a list of numbers in blocks of its own. -/
namespace Go.Proofs.Ytbgnajcmhmpjlac
open Go.RowKit

/-- The blocks that are kept. -/
def Zk (bx : Nat) (ga : Option Addr) : Nat → Prop := fun k => k = bx ∨ ∃ a, ga = some a ∧ a.block = k
theorem nums_save {O : Nat → Prop} {w w' : World} {ga : Option Addr} {l : List Int} (h : NumsAt w ga l) (hs : Save O w w') (hn : ∀ a, ga = some a → ¬ O a.block) : NumsAt w' ga l := by
  intro k x hk
  obtain ⟨b, off, e, hl, hc⟩ := h k x hk
  exact ⟨b, off, e, Nat.lt_of_lt_of_le hl hs.size, (hs.cell (p := ⟨b, off + k, none⟩) hl (hn ⟨b, off, none⟩ e)).trans hc⟩
structure Kpt (w : World) (bx : Nat) (f : Nat → Int) (ga : Option Addr) (l : List Int) : Prop where
  box : BoxAt w bx [.int .i64 (f 0), .int .i64 (f 1), .int .i64 (f 2), .int .i64 (f 3), .int .i64 (f 4), .int .i64 (f 5)]
  num : NumsAt w ga l
theorem Kpt.next {w w' : World} {bx : Nat} {f : Nat → Int} {ga : Option Addr} {l : List Int} (h : Kpt w bx f ga l) (hb : Below w.heap.size w w') : Kpt w' bx f ga l := ⟨h.box.next hb, h.num.below hb (Nat.le_refl _)⟩
theorem Kpt.step {w w' : World} {bx : Nat} {f : Nat → Int} {ga : Option Addr} {l : List Int} (h : Kpt w bx f ga l) (hs : Save (fun k => ¬ Zk bx ga k) w w') : Kpt w' bx f ga l :=
  ⟨h.box.save hs (fun q => q (.inl rfl)), nums_save h.num hs (fun a ha q => q (.inr ⟨a, ha, rfl⟩))⟩
/-- What a town that is kept beside them tells. -/
theorem world_is {w0 W : World} {Z : Nat → Prop} {p b m : Nat} {c : Nat → Nat} {ws f : Nat → Int} {T : Twn} (h : TLv w0 Z W p b m c ws T) (hf : ∀ k, k < 6 → valT T k = f k) : Calls Try.prog 31 #[.pointer (some ⟨p, 0, none⟩)] W fun e w' => e = .returned (.agg #[.int .i64 (f 0), .int .i64 (f 1), .int .i64 (f 2), .int .i64 (f 3), .int .i64 (f 4), .int .i64 (f 5)]) ∧ Below W.heap.size W w' := by
  have := world_tlv h
  unfold wldV at this
  rw [hf 0 (by omega), hf 1 (by omega), hf 2 (by omega), hf 3 (by omega), hf 4 (by omega), hf 5 (by omega)] at this
  exact this
theorem done_is {w0 W : World} {Z : Nat → Prop} {p b m : Nat} {c : Nat → Nat} {ws : Nat → Int} {T : Twn} {L : List Int} (h : TLv w0 Z W p b m c ws T) (hL : T.B.ord = L) : Calls Try.prog 20 #[.pointer (some ⟨b, 0, none⟩)] W fun e w' => (∃ g2 c2, e = .returned (.slice g2 L.length c2) ∧ NumsAt w' g2 L ∧ ∀ a, g2 = some a → W.heap.size ≤ a.block ∧ a.block < w'.heap.size) ∧ Below W.heap.size W w' := by
  refine (done_tlv h).mono ?_
  rintro e w' ⟨⟨v, he, hv⟩, hb⟩
  have hsl := hv
  obtain ⟨g2, c2, rfl, hN, _⟩ := nums_of_own hv
  rw [hL] at he hN
  exact ⟨⟨g2, c2, he, hN, fun a ha => by subst ha; exact hsl.lt a.block rfl⟩, hb⟩
theorem same_is {W : World} {g1 g2 : Option Addr} {c1 c2 : Nat} {L : List Int} (h1 : NumsAt W g1 L) (h2 : NumsAt W g2 L) (hl : L.length ≤ 8) : Calls Try.prog 39 #[.slice g1 L.length c1, .slice g2 L.length c2] W fun e w' => e = .returned (.bool true) ∧ Below W.heap.size W w' := by
  have := sameInts_any g1 g2 L.length L.length c1 c2 L L W h1 h2 rfl rfl (by omega)
  rw [decide_eq_true rfl] at this
  exact this
theorem mail_no {w0 W : World} {Z : Nat → Prop} {p b m : Nat} {c : Nat → Nat} {ws : Nat → Int} {T : Twn} (h : TLv w0 Z W p b m c ws T) (hM : T.M = []) : Calls Try.prog 27 #[.pointer (some ⟨p, 0, none⟩)] W fun e w' => (∃ g2 c2, e = .returned (.slice g2 0 c2)) ∧ Below W.heap.size W w' := by
  refine (mail_tlv h).mono ?_
  rintro e w' ⟨⟨g2, c2, he, _⟩, hb⟩
  rw [hM] at he
  exact ⟨⟨g2, c2, he⟩, hb⟩

end Go.Proofs.Ytbgnajcmhmpjlac

/- The walk of TownOne: it answers true, whatever it is given. -/
namespace Go.Proofs.Ytbgnajcmhmpjlac
open Go.RowKit

set_option maxHeartbeats 16000000 in
set_option maxRecDepth 100000 in
theorem tone_walk (ws : Nat → Int) (la : Option Addr) (ll lc : Nat) (l : List TSp) (la2 : Option Addr) (ll2 lc2 : Nat) (l2 : List (Int × Int)) (w : World) (hl : TStAt w la l) (hll : l.length = ll) (hl2 : WantsAt w la2 l2) (hll2 : l2.length = ll2) :
    Calls Try.prog 8 #[.agg #[.int .i64 (ws 0), .int .i64 (ws 1), .int .i64 (ws 2), .int .i64 (ws 3), .int .i64 (ws 4), .int .i64 (ws 5)], .slice la ll lc, .slice la2 ll2 lc2] w fun e w' => e = .returned (.bool true) ∧ Below w.heap.size w w' := by
  have HL0 := hid hl
  have HLL := hid hll
  have HM0 := hid hl2
  have HML := hid hll2
  clear hl hll hl2 hll2
  go_enter Try.func8, Try.ntmps8
  go_upto_region 1 with fail
  have hb1 : Below w.heap.size w (w.alloc (.cells #[.int .i64 (ws 0), .int .i64 (ws 1), .int .i64 (ws 2), .int .i64 (ws 3), .int .i64 (ws 4), .int .i64 (ws 5)] 42)) := (Below.refl _ _).alloc (Nat.le_refl _) _
  have hX : BoxAt (w.alloc (.cells #[.int .i64 (ws 0), .int .i64 (ws 1), .int .i64 (ws 2), .int .i64 (ws 3), .int .i64 (ws 4), .int .i64 (ws 5)] 42)) w.heap.size [.int .i64 (ws 0), .int .i64 (ws 1), .int .i64 (ws 2), .int .i64 (ws 3), .int .i64 (ws 4), .int .i64 (ws 5)] := BoxAt.new w _ _
  generalize (w.alloc (.cells #[.int .i64 (ws 0), .int .i64 (ws 1), .int .i64 (ws 2), .int .i64 (ws 3), .int .i64 (ws 4), .int .i64 (ws 5)] 42)) = w1 at hb1 hX ⊢
  generalize hbx : w.heap.size = bx at hX ⊢
  have HB1 := hid hb1
  have HX1 := hid hX
  have HBX := hid hbx
  clear hb1 hX hbx
  go_wp2_with fail
  refine Calls.mono (tbegun_any w1) ?_
  rintro e w2 ⟨rfl, hb2⟩
  have HX2 := hid (HX1.out.next hb2)
  have HB2 := hid (after HB1.out hb2 HB1.out.size)
  have HL2 := hid (HL0.out.below HB2.out)
  clear hb2 HX1 HB1
  go_wp2_with fail
  refine Calls.mono (greatT_any la ll lc l w2 HL2.out HLL.out) ?_
  rintro e w3 ⟨⟨g, rfl, hg⟩, rfl⟩
  have HB3 : Hid (Below w.heap.size w w3) := HB2
  have HL3 : Hid (TStAt w3 la l) := HL2
  have HX3 : Hid (BoxAt w3 bx [.int .i64 (ws 0), .int .i64 (ws 1), .int .i64 (ws 2), .int .i64 (ws 3), .int .i64 (ws 4), .int .i64 (ws 5)]) := HX2
  clear HB2 HL2 HX2
  cases g with
  | true =>
    clear hg
    go_wp2_with fail
    go_ret
    exact ⟨rfl, HB3.out⟩
  | false =>
  have HG := hid (hg rfl)
  clear hg
  by_cases hbig : 50 < ll2
  case pos =>
    have hbig' : (50 : Int) < (ll2 : Int) := by omega
    clear hbig
    go_wp2_with fail
    go_ret
    exact ⟨rfl, HB3.out⟩
  have hbig' : ¬ (50 : Int) < (ll2 : Int) := by omega
  have HM3 := hid (HM0.out.below HB3.out (Nat.le_refl _))
  have x0 := HX3.out.2 0 _ rfl
  have x1 := HX3.out.2 1 _ rfl
  have x2 := HX3.out.2 2 _ rfl
  have x3 := HX3.out.2 3 _ rfl
  have x4 := HX3.out.2 4 _ rfl
  have x5 := HX3.out.2 5 _ rfl
  by_cases hok : OkT ws
  case neg =>
    have HC := hid (new_nil hok w3)
    clear hok
    go_wp2_with fail
    refine Calls.mono HC.out ?_
    rintro e w4 ⟨rfl, hb4⟩
    have HB4 := hid (after HB3.out hb4 HB3.out.size)
    clear hb4 HC x0 x1 x2 x3 x4 x5
    go_wp2_with fail
    go_ret
    exact ⟨rfl, HB4.out⟩
  have HC := hid (new_tlv hok w3)
  clear hok
  go_wp2_with fail
  refine Calls.mono HC.out ?_
  rintro e w4 ⟨p, b, m, c, rfl, hT4⟩
  have HT4 := hid hT4
  have j2 : (ll : Int) ≤ 250 := by have := HG.out.1; omega
  clear hT4 HC x0 x1 x2 x3 x4 x5
  go_wp2_with fail
  go_loopg [8] ll (fun g s8 wr => ∃ (k : Nat) (T : Twn), k ≤ ll ∧ g = ll - k ∧ s8 = .int .i64 k ∧ Hid (TLv w3 (fun k => k ∈ ([] : List Nat)) wr p b m c ws T))
  case atStart => exact ⟨0, _, Nat.zero_le _, rfl, rfl, HT4⟩
  case round =>
  obtain ⟨k, T, hk, rfl, rfl, HT⟩ := hrel
  by_cases hlt : k < ll
  case pos =>
    obtain ⟨x, hx⟩ : ∃ x, l[k]? = some x := ⟨_, List.getElem?_eq_getElem (by have := HLL.out; omega)⟩
    obtain ⟨bl, ol, sa, sc, rfl, hbl, hWx, q0, q1, q2⟩ := HL3.out.at HT.out.below hx
    have HC := hid (step_tlv (sc := sc) x HT.out hWx)
    have HK := hid hlt
    have j0 : (0 : Int) ≤ (k : Int) := by omega
    have j1 : (k : Int) < (ll : Int) := by omega
    clear hWx hx hk hlt hbl
    go_wp2_with fail
    refine Calls.mono HC.out ?_
    rintro e w5 ⟨rfl, hT5, _⟩
    have HT5 := hid hT5
    clear HC hT5 q0 q1 q2
    go_wp2_with fail
    go_roundg (ll - (k + 1))
    case measure => have := HK.out; omega
    case rel => exact ⟨k + 1, _, HK.out, rfl, by simp, HT5⟩
  have j1 : ¬ (k : Int) < (ll : Int) := by omega
  clear hk hlt
  have HC := hid (calm_tlv HT.out)
  obtain ⟨_, hSt, _⟩ := HT.out.full.calm
  have HSt := hid hSt
  clear hSt
  generalize (calmR 20 0 T).2 = D at HC HSt
  go_wp2_with fail
  refine Calls.mono HC.out ?_
  rintro e w5 ⟨rfl, hT5, _⟩
  have HT5 := hid hT5
  clear HC hT5 HT HT4
  obtain ⟨f, hf⟩ : ∃ f, f = valT D := ⟨_, rfl⟩
  have HV0 : Hid (∀ k, k < 6 → valT D k = f k) := fun k _ => by rw [hf]
  clear hf
  have HWd : Hid (∀ W, Below w5.heap.size w5 W → Calls Try.prog 31 #[.pointer (some ⟨p, 0, none⟩)] W fun e w' => e = .returned (.agg #[.int .i64 (f 0), .int .i64 (f 1), .int .i64 (f 2), .int .i64 (f 3), .int .i64 (f 4), .int .i64 (f 5)]) ∧ Below W.heap.size W w') := fun W hW => world_is (HT5.out.next hW) HV0.out
  have HK : Hid (∀ w', Below w5.heap.size w5 w' → w'.cell? ⟨p, 0, none⟩ = some (.pointer (some ⟨b, 0, none⟩))) := fun w' hb => (HT5.out.next hb).c0.1
  have HLn : Hid (∀ W, Below w5.heap.size w5 W → Calls Try.prog 15 #[.pointer (some ⟨b, 0, none⟩)] W fun e w' => e = .returned (.int .i64 (D.B.L.length : Int)) ∧ w' = W) := fun W hW => len_tlv (HT5.out.next hW)
  go_upto_region 13 with fail
  go_cut [9, 10] (fun s9 s10 wx => ∃ nb, s9 = .pointer (some ⟨nb, 0, none⟩) ∧ s10 = .int .i64 (D.B.L.length : Int) ∧ BoxAt wx nb [.int .i64 (f 0), .int .i64 (f 1), .int .i64 (f 2), .int .i64 (f 3), .int .i64 (f 4), .int .i64 (f 5)] ∧ w5.heap.size ≤ nb ∧ Below w5.heap.size w5 wx)
  case first =>
    clear HSt HV0
    go_region_held3 (fun w' => w'.cell? ⟨p, 0, none⟩ = some (.pointer (some ⟨b, 0, none⟩)))
      (first | exact HK.out _ (by go_grown))
      (first | (go_at_call 31; refine (HWd.out _ (by go_grown)).mono ?_; rintro e w81 ⟨rfl, hb81⟩; have hw81 : Below w5.heap.size w5 w81 := after (by go_grown) hb81 (by first | omega | (simp <;> omega)); have hz81 : w5.heap.size ≤ w81.heap.size := hw81.size; have hy81 := hb81.size; (try simp [Nat.add_one_le_iff] at hy81); obtain ⟨hc81, hf81⟩ := bcell hb81; (try (have ec810 : ∀ o, w81.cell? ⟨w5.heap.size, o, none⟩ = _ := fun o => hc81 _ o (by first | omega | (simp; done) | (simp; omega)); have ef810 : ∀ o, w81.frozen? ⟨w5.heap.size, o, none⟩ = _ := fun o => hf81 _ o (by first | omega | (simp; done) | (simp; omega)))); (try (have : w5.heap.size < w81.heap.size := by omega)); (try (have : w5.heap.size < w81.heap.size + 1 := by omega)); (try (have : ¬ w5.heap.size = w81.heap.size := by omega)); (try (have : ¬ w81.heap.size = w5.heap.size := by omega))) | (go_at_call 15; refine (HLn.out _ (by go_grown)).mono ?_; rintro e w' ⟨rfl, rfl⟩))
    all_goals
      go_wp2_with fail
      go_meet
      case rel =>
        refine ⟨_, rfl, rfl, ?_, ?_, ?_⟩
        · refine box_s6 ?_ ?_ ?_ ?_ ?_ ?_ ?_
          · have := hb81.size
            simp at this ⊢
            try omega
          all_goals simp [go_sem, *]
        · first | omega | (simp <;> omega)
        · go_grown
  case rest =>
  obtain ⟨nb, rfl, rfl, hBx, hnb, hbc⟩ := hcut
  have HBx := hid hBx
  have HT6 : Hid (TLv w3 (fun k => k = nb) wc p b m c ws D) := HT5.out.more hbc (fun k hk => .inr (by rw [hk]; exact ⟨hnb, hBx.1⟩))
  clear hBx hnb hbc HK HWd HLn HT5
  have HWt := hid (HM3.out.below HT6.out.below (Nat.le_refl _))
  have HSp := hid (step_tlv (sc := lc2) ⟨1, 0, l2⟩ HT6.out HWt.out)
  rw [townR_begin D rfl, HML.out] at HSp
  dsimp only at HSp
  by_cases hcd : (beginR D.B l2).2.1 = 0
  case neg =>
    have hE := begin_bad hcd
    rw [hE] at HSp
    have hcd' : ((beginR D.B l2).2.1 != 0) = true := by simpa using hcd
    clear hcd hE
    generalize (beginR D.B l2).2.1 = cde at HSp hcd'
    go_wp2_with fail
    refine Calls.mono HSp.out ?_
    rintro e wz ⟨rfl, hTz, hSz⟩
    have HTz : Hid (TLv w3 (fun k => k = nb) wz p b m c ws D) := hTz
    have HBz := hid (HBx.out.save hSz (fun q => q rfl))
    clear hTz hSz HSp
    have HK : Hid (∀ w', Below wz.heap.size wz w' → w'.cell? ⟨p, 0, none⟩ = some (.pointer (some ⟨b, 0, none⟩)) ∧ w'.cell? ⟨nb, 0, none⟩ = some (.int .i64 (f 0)) ∧ w'.cell? ⟨nb, 1, none⟩ = some (.int .i64 (f 1)) ∧ w'.cell? ⟨nb, 2, none⟩ = some (.int .i64 (f 2)) ∧ w'.cell? ⟨nb, 3, none⟩ = some (.int .i64 (f 3)) ∧ w'.cell? ⟨nb, 4, none⟩ = some (.int .i64 (f 4)) ∧ w'.cell? ⟨nb, 5, none⟩ = some (.int .i64 (f 5))) := fun w' hb => ⟨(HTz.out.next hb).c0.1, (HBz.out.next hb).2 0 _ rfl, (HBz.out.next hb).2 1 _ rfl, (HBz.out.next hb).2 2 _ rfl, (HBz.out.next hb).2 3 _ rfl, (HBz.out.next hb).2 4 _ rfl, (HBz.out.next hb).2 5 _ rfl⟩
    have HWd : Hid (∀ W, Below wz.heap.size wz W → Calls Try.prog 31 #[.pointer (some ⟨p, 0, none⟩)] W fun e w' => e = .returned (.agg #[.int .i64 (f 0), .int .i64 (f 1), .int .i64 (f 2), .int .i64 (f 3), .int .i64 (f 4), .int .i64 (f 5)]) ∧ Below W.heap.size W w') := fun W hW => world_is (HTz.out.next hW) HV0.out
    have HLn : Hid (∀ W, Below wz.heap.size wz W → Calls Try.prog 15 #[.pointer (some ⟨b, 0, none⟩)] W fun e w' => e = .returned (.int .i64 (D.B.L.length : Int)) ∧ w' = W) := fun W hW => len_tlv (HTz.out.next hW)
    have HBw := hid HTz.out.below
    have hq := eq6
    go_upto_region 15 with fail
    clear HTz HBz HV0 HSt
    go_region_held3 (fun w' => w'.cell? ⟨p, 0, none⟩ = some (.pointer (some ⟨b, 0, none⟩)) ∧ w'.cell? ⟨nb, 0, none⟩ = some (.int .i64 (f 0)) ∧ w'.cell? ⟨nb, 1, none⟩ = some (.int .i64 (f 1)) ∧ w'.cell? ⟨nb, 2, none⟩ = some (.int .i64 (f 2)) ∧ w'.cell? ⟨nb, 3, none⟩ = some (.int .i64 (f 3)) ∧ w'.cell? ⟨nb, 4, none⟩ = some (.int .i64 (f 4)) ∧ w'.cell? ⟨nb, 5, none⟩ = some (.int .i64 (f 5)))
      (first | exact HK.out _ (by go_grown))
      (first | (go_at_call 31; refine Calls.mono (HWd.out _ (by go_grown)) ?_; rintro e w91 ⟨rfl, hb91⟩; have hw91 : Below wz.heap.size wz w91 := after (by go_grown) hb91 (by first | omega | (simp <;> omega)); have hz91 : wz.heap.size ≤ w91.heap.size := hw91.size) | (go_at_call 15; refine Calls.mono (HLn.out _ (by go_grown)) ?_; rintro e w' ⟨rfl, rfl⟩))
    all_goals
      go_wp2_with fail
      go_ret
      exact ⟨rfl, after HB3.out (after HBw.out hw91 HBw.out.size) HB3.out.size⟩
  have HOne := hid (one_law HSt.out hcd f (fun k hk => (HV0.out k hk).symm))
  rw [hcd] at HSp
  clear hcd
  generalize hD2 : ({ D with B := (beginR D.B l2).2.2 } : Twn) = D2 at HSp HOne
  clear hD2
  go_wp2_with fail
  refine Calls.mono HSp.out ?_
  rintro e w7 ⟨rfl, hT7, hS7⟩
  have HBx7 := hid (HBx.out.save hS7 (fun q => q rfl))
  have HC := hid (calm_tlv hT7)
  clear hS7 HSp hT7 HT6 HBx
  generalize (calmR 20 0 D2).2 = E at HC HOne
  go_wp2_with fail
  refine Calls.mono HC.out ?_
  rintro e w8 ⟨rfl, hT8, hS8⟩
  have HBx8 := hid (HBx7.out.save hS8 (fun q => q rfl))
  have HT8 := hid hT8
  have HAp := hid (apply_any f la2 ll2 lc2 l2 w8 (HM3.out.below hT8.below (Nat.le_refl _)) HML.out)
  have n0 := HBx8.out.2 0 _ rfl
  have n1 := HBx8.out.2 1 _ rfl
  have n2 := HBx8.out.2 2 _ rfl
  have n3 := HBx8.out.2 3 _ rfl
  have n4 := HBx8.out.2 4 _ rfl
  have n5 := HBx8.out.2 5 _ rfl
  clear hT8 hS8 HC HBx7
  generalize appW f l2 = r at HAp HOne
  go_wp2_with fail
  refine Calls.mono HAp.out ?_
  rintro e w9 ⟨rfl, hb9⟩
  have HT9 := hid (HT8.out.next hb9)
  have HBx9 := hid (HBx8.out.next hb9)
  clear hb9 n0 n1 n2 n3 n4 n5 HAp HT8 HBx8
  go_upto_region 18 with fail
  obtain ⟨hP, hQ2, hbn⟩ := pair_new w9 [.int .i64 (r.1 0), .int .i64 (r.1 1), .int .i64 (r.1 2), .int .i64 (r.1 3), .int .i64 (r.1 4), .int .i64 (r.1 5)] [.int .i64 r.2.1, .int .i64 r.2.2] 42 81
  change BoxAt ((w9.alloc (.cells #[.int .i64 (r.1 0), .int .i64 (r.1 1), .int .i64 (r.1 2), .int .i64 (r.1 3), .int .i64 (r.1 4), .int .i64 (r.1 5)] 42)).alloc (.cells #[.int .i64 r.2.1, .int .i64 r.2.2] 81)) _ _ at hP
  change BoxAt ((w9.alloc (.cells #[.int .i64 (r.1 0), .int .i64 (r.1 1), .int .i64 (r.1 2), .int .i64 (r.1 3), .int .i64 (r.1 4), .int .i64 (r.1 5)] 42)).alloc (.cells #[.int .i64 r.2.1, .int .i64 r.2.2] 81)) _ _ at hQ2
  change Below _ _ ((w9.alloc (.cells #[.int .i64 (r.1 0), .int .i64 (r.1 1), .int .i64 (r.1 2), .int .i64 (r.1 3), .int .i64 (r.1 4), .int .i64 (r.1 5)] 42)).alloc (.cells #[.int .i64 r.2.1, .int .i64 r.2.2] 81)) at hbn
  have HTz := hid (HT9.out.next hbn)
  have HBz := hid (HBx9.out.next hbn)
  generalize ((w9.alloc (.cells #[.int .i64 (r.1 0), .int .i64 (r.1 1), .int .i64 (r.1 2), .int .i64 (r.1 3), .int .i64 (r.1 4), .int .i64 (r.1 5)] 42)).alloc (.cells #[.int .i64 r.2.1, .int .i64 r.2.2] 81)) = wz at hP hQ2 HTz HBz ⊢
  generalize w9.heap.size + 1 = b12 at hQ2 ⊢
  generalize w9.heap.size = b11 at hP ⊢
  have HP := hid hP
  have fc := hQ2.2 0 _ rfl
  clear hbn hP hQ2 HT9 HBx9
  have HS : Hid (∀ W, Below wz.heap.size wz W → Calls Try.prog 19 #[.pointer (some ⟨b, 0, none⟩), .int .i64 (D.B.L.length : Int)] W fun e w' => e = .returned (.int .i64 (stR E.B (D.B.L.length : Int))) ∧ w' = W) := fun W hW => state_tlv _ (HTz.out.next hW)
  have HBw := hid HTz.out.below
  have hq := eq6
  by_cases hrc : r.2.1 = 0
  case pos =>
    obtain ⟨h1, h2⟩ := HOne.out.1 hrc
    rw [h1] at HS
    have hrc' : (r.2.1 != 0) = false := by simp [hrc]
    have HK : Hid (∀ w', Below wz.heap.size wz w' → w'.cell? ⟨p, 0, none⟩ = some (.pointer (some ⟨b, 0, none⟩)) ∧ w'.cell? ⟨b11, 0, none⟩ = some (.int .i64 (r.1 0)) ∧ w'.cell? ⟨b11, 1, none⟩ = some (.int .i64 (r.1 1)) ∧ w'.cell? ⟨b11, 2, none⟩ = some (.int .i64 (r.1 2)) ∧ w'.cell? ⟨b11, 3, none⟩ = some (.int .i64 (r.1 3)) ∧ w'.cell? ⟨b11, 4, none⟩ = some (.int .i64 (r.1 4)) ∧ w'.cell? ⟨b11, 5, none⟩ = some (.int .i64 (r.1 5))) := fun w' hb => ⟨(HTz.out.next hb).c0.1, (HP.out.next hb).2 0 _ rfl, (HP.out.next hb).2 1 _ rfl, (HP.out.next hb).2 2 _ rfl, (HP.out.next hb).2 3 _ rfl, (HP.out.next hb).2 4 _ rfl, (HP.out.next hb).2 5 _ rfl⟩
    have HWd : Hid (∀ W, Below wz.heap.size wz W → Calls Try.prog 31 #[.pointer (some ⟨p, 0, none⟩)] W fun e w' => e = .returned (.agg #[.int .i64 (r.1 0), .int .i64 (r.1 1), .int .i64 (r.1 2), .int .i64 (r.1 3), .int .i64 (r.1 4), .int .i64 (r.1 5)]) ∧ Below W.heap.size W w') := fun W hW => world_is (HTz.out.next hW) h2
    clear hrc h1 h2
    go_upto_region 20 with fail
    clear HTz HBz HP HOne HSt HV0 fc
    go_region_held3 (fun w' => w'.cell? ⟨p, 0, none⟩ = some (.pointer (some ⟨b, 0, none⟩)) ∧ w'.cell? ⟨b11, 0, none⟩ = some (.int .i64 (r.1 0)) ∧ w'.cell? ⟨b11, 1, none⟩ = some (.int .i64 (r.1 1)) ∧ w'.cell? ⟨b11, 2, none⟩ = some (.int .i64 (r.1 2)) ∧ w'.cell? ⟨b11, 3, none⟩ = some (.int .i64 (r.1 3)) ∧ w'.cell? ⟨b11, 4, none⟩ = some (.int .i64 (r.1 4)) ∧ w'.cell? ⟨b11, 5, none⟩ = some (.int .i64 (r.1 5)))
      (first | exact HK.out _ (by go_grown))
      (first | (go_at_call 31; refine Calls.mono (HWd.out _ (by go_grown)) ?_; rintro e w91 ⟨rfl, hb91⟩; have hw91 : Below wz.heap.size wz w91 := after (by go_grown) hb91 (by first | omega | (simp <;> omega)); have hz91 : wz.heap.size ≤ w91.heap.size := hw91.size) | (go_at_call 19; refine Calls.mono (HS.out _ (by go_grown)) ?_; rintro e w' ⟨rfl, rfl⟩))
    all_goals
      go_wp2_with fail
      go_ret
      exact ⟨rfl, after HB3.out (after HBw.out hw91 HBw.out.size) HB3.out.size⟩
  obtain ⟨h1, h2⟩ := HOne.out.2 hrc
  rw [h1] at HS
  have hrc' : (r.2.1 != 0) = true := by simpa using hrc
  have HK : Hid (∀ w', Below wz.heap.size wz w' → w'.cell? ⟨p, 0, none⟩ = some (.pointer (some ⟨b, 0, none⟩)) ∧ w'.cell? ⟨nb, 0, none⟩ = some (.int .i64 (f 0)) ∧ w'.cell? ⟨nb, 1, none⟩ = some (.int .i64 (f 1)) ∧ w'.cell? ⟨nb, 2, none⟩ = some (.int .i64 (f 2)) ∧ w'.cell? ⟨nb, 3, none⟩ = some (.int .i64 (f 3)) ∧ w'.cell? ⟨nb, 4, none⟩ = some (.int .i64 (f 4)) ∧ w'.cell? ⟨nb, 5, none⟩ = some (.int .i64 (f 5))) := fun w' hb => ⟨(HTz.out.next hb).c0.1, (HBz.out.next hb).2 0 _ rfl, (HBz.out.next hb).2 1 _ rfl, (HBz.out.next hb).2 2 _ rfl, (HBz.out.next hb).2 3 _ rfl, (HBz.out.next hb).2 4 _ rfl, (HBz.out.next hb).2 5 _ rfl⟩
  have HWd : Hid (∀ W, Below wz.heap.size wz W → Calls Try.prog 31 #[.pointer (some ⟨p, 0, none⟩)] W fun e w' => e = .returned (.agg #[.int .i64 (f 0), .int .i64 (f 1), .int .i64 (f 2), .int .i64 (f 3), .int .i64 (f 4), .int .i64 (f 5)]) ∧ Below W.heap.size W w') := fun W hW => world_is (HTz.out.next hW) h2
  clear hrc h1 h2
  go_upto_region 19 with fail
  clear HTz HBz HP HOne HSt HV0 fc
  go_region_held3 (fun w' => w'.cell? ⟨p, 0, none⟩ = some (.pointer (some ⟨b, 0, none⟩)) ∧ w'.cell? ⟨nb, 0, none⟩ = some (.int .i64 (f 0)) ∧ w'.cell? ⟨nb, 1, none⟩ = some (.int .i64 (f 1)) ∧ w'.cell? ⟨nb, 2, none⟩ = some (.int .i64 (f 2)) ∧ w'.cell? ⟨nb, 3, none⟩ = some (.int .i64 (f 3)) ∧ w'.cell? ⟨nb, 4, none⟩ = some (.int .i64 (f 4)) ∧ w'.cell? ⟨nb, 5, none⟩ = some (.int .i64 (f 5)))
    (first | exact HK.out _ (by go_grown))
    (first | (go_at_call 31; refine Calls.mono (HWd.out _ (by go_grown)) ?_; rintro e w91 ⟨rfl, hb91⟩; have hw91 : Below wz.heap.size wz w91 := after (by go_grown) hb91 (by first | omega | (simp <;> omega)); have hz91 : wz.heap.size ≤ w91.heap.size := hw91.size) | (go_at_call 19; refine Calls.mono (HS.out _ (by go_grown)) ?_; rintro e w' ⟨rfl, rfl⟩))
  all_goals
    go_wp2_with fail
    go_ret
    exact ⟨rfl, after HB3.out (after HBw.out hw91 HBw.out.size) HB3.out.size⟩

end Go.Proofs.Ytbgnajcmhmpjlac

namespace Go.Proofs.Ytbgnajcmhmpjlac
open Go.ChangeShapes Go.WideShapes Go.ChangeAt Go.RowKit Go.Deep

theorem Try.ownTownOne : ownKnob Try.prog.godebug = none := by kernel_rfl
theorem Try.laidOutTownOne : laidOutB Try.prog = true := by kernel_rfl

set_option maxRecDepth 100000 in
theorem townOne_lifted (os : Os) (started : os.Started) (H : Type) (enc : TypeId × Value → H) :
    ReturnsInHanded {} Try.checked os 8 .any (Rows.townOneSpec.pre6 enc Try.prog Try.f8 Rows.townOneRow.domain false) (Rows.townOneSpec.post enc Try.prog Try.f8 false true false false) := by
  refine returnsInHanded_of_change (C := Try.checked) Try.ownTownOne started (by kernel_rfl) Try.func8
    (ChangeSpec.witness6 (enc := enc) (C := Try.checked) false ⟨#[], #[.agg #[.int .i64 0, .int .i64 0, .int .i64 0, .int .i64 0, .int .i64 0, .int .i64 0], .slice none 0 0, .slice none 0 0], []⟩ 8 (by kernel_rfl) (by kernel_rfl) (by kernel_rfl) (by kernel_rfl)) ?_
  intro W base args ds gs before hval0 hW _ _
  have hval : ∀ (j : Nat) t v, Try.f8.params[j]? = some t → args[j]? = some v → Value.okWide Try.prog W .any base t v := hval0
  have hW' := hW
  obtain ⟨p, q, hA0, hV, rfl, hfz, hnd⟩ := hW
  have hA : DataW.TrodAll enc Try.prog W 0 (fun _ => true) true Try.f8.params.toList args.toList ds p := hA0
  rw [Try.params8] at hA hval
  obtain ⟨v0, v1, v2, d0, d1, d2, p0, p1, p2, rfl, rfl, rfl, h0, h1, h2⟩ := trodAll_three hA
  obtain ⟨rfl, rfl⟩ := trodVars_none hV
  have k0 := h0
  have lt0 : ∀ x ∈ p0, x.block < W.heap.size := by obtain ⟨m, hm⟩ := k0; exact DataW.trod_lt m _ _ _ hm
  have k1 := h1
  have lt1 : ∀ x ∈ p1, x.block < W.heap.size := by obtain ⟨m, hm⟩ := k1; exact DataW.trod_lt m _ _ _ hm
  have k2 := h2
  have lt2 : ∀ x ∈ p2, x.block < W.heap.size := by obtain ⟨m, hm⟩ := k2; exact DataW.trod_lt m _ _ _ hm
  obtain ⟨ws, rfl⟩ := open_world (hval 0 42 v0 rfl rfl) h0
  obtain ⟨a1, l1, c1, rfl⟩ := okWide_slice Try.underlying43 (hval 1 43 v1 rfl rfl)
  obtain ⟨l, hl, hll⟩ := open_tsteps h1
  obtain ⟨a2, l2, c2, rfl⟩ := okWide_slice Try.underlying22 (hval 2 22 v2 rfl rfl)
  obtain ⟨m2, hm2, hml2⟩ := open_wants h2
  clear hA0 hval0
  refine (tone_walk ws a1 l1 c1 l a2 l2 c2 m2 W hl hll hm2 hml2).mono fun e W' ⟨hret, hb⟩ => ?_
  subst hret
  exact ⟨_, rfl, _, _, _, [], _, [], hW', trodAll_mk1 (shut_bool Try.underlying4 true), trodAll_mk3 (Below.trod Try.laidOutTownOne (by kernel_rfl) (of_decide_eq_true (by kernel_rfl)) k0 hb lt0) (Below.trod Try.laidOutTownOne (by kernel_rfl) (of_decide_eq_true (by kernel_rfl)) k1 hb lt1) (Below.trod Try.laidOutTownOne (by kernel_rfl) (of_decide_eq_true (by kernel_rfl)) k2 hb lt2), rfl, hb.frame _, fun h => by cases h⟩

theorem townOne_holds : Rows.TownOneSaid :=
  OpenClaim.holds_of_wide 8 Try.f8 rfl rfl rfl rfl rfl rfl rfl ⟨rfl, rfl, rfl, rfl, rfl⟩ rfl rfl rfl rfl rfl (by kernel_rfl) Try.func8 (by kernel_rfl)
    (of_decide_eq_true (by kernel_rfl)) (by unfold Func.isWrapper; first | (rw [if_pos (by decide +kernel)]; kernel_rfl) | (rw [if_neg (by decide +kernel)]; exact ⟨rfl, rfl⟩))
    (fun os started H enc _ => townOne_lifted os started H enc)

#print axioms townOne_holds
end Go.Proofs.Ytbgnajcmhmpjlac
