/- For every world and all lists of steps: the statement TownCalm of the program returns true, and its arguments read as before (no condition). -/
import Derived.BigQuiet
import Derived.Deep.RegionHeld3
import Derived.Test.YtbgnajcmhmpjlacRows
import Derived.Test.YtbgnajcmhmpjlacN6

/- What a law keeps while a town goes on: a world and a list of numbers in blocks of its own. -/
namespace Go.Proofs.Ytbgnajcmhmpjlac
open Go.RowKit

/-- The blocks that are kept. -/
def Zk (bx : Nat) (ga : Option Addr) : Nat → Prop := fun k => k = bx ∨ ∃ a, ga = some a ∧ a.block = k
theorem nums_save {O : Nat → Prop} {w w' : World} {ga : Option Addr} {l : List Int} (h : NumsAt w ga l) (hs : Save O w w') (hn : ∀ a, ga = some a → ¬ O a.block) : NumsAt w' ga l := by
  intro k x hk
  obtain ⟨b, off, e, hl, hc⟩ := h k x hk
  exact ⟨b, off, e, Nat.lt_of_lt_of_le hl hs.size, (hs.cell (p := ⟨b, off + k, none⟩) hl (hn ⟨b, off, none⟩ e)).trans hc⟩
structure Kpt (w : World) (bx : Nat) (f : Nat → Int) (ga : Option Addr) (l : List Int) : Prop where
  box : BoxAt w bx [.int .i64 (f 0), .int .i64 (f 1), .int .i64 (f 2), .int .i64 (f 3), .int .i64 (f 4), .int .i64 (f 5)]
  num : NumsAt w ga l
theorem Kpt.next {w w' : World} {bx : Nat} {f : Nat → Int} {ga : Option Addr} {l : List Int} (h : Kpt w bx f ga l) (hb : Below w.heap.size w w') : Kpt w' bx f ga l := ⟨h.box.next hb, h.num.below hb (Nat.le_refl _)⟩
theorem Kpt.step {w w' : World} {bx : Nat} {f : Nat → Int} {ga : Option Addr} {l : List Int} (h : Kpt w bx f ga l) (hs : Save (fun k => ¬ Zk bx ga k) w w') : Kpt w' bx f ga l :=
  ⟨h.box.save hs (fun q => q (.inl rfl)), nums_save h.num hs (fun a ha q => q (.inr ⟨a, ha, rfl⟩))⟩
/-- What a town that is kept beside them tells. -/
theorem world_is {w0 W : World} {Z : Nat → Prop} {p b m : Nat} {c : Nat → Nat} {ws f : Nat → Int} {T : Twn} (h : TLv w0 Z W p b m c ws T) (hf : ∀ k, k < 6 → valT T k = f k) : Calls Try.prog 31 #[.pointer (some ⟨p, 0, none⟩)] W fun e w' => e = .returned (.agg #[.int .i64 (f 0), .int .i64 (f 1), .int .i64 (f 2), .int .i64 (f 3), .int .i64 (f 4), .int .i64 (f 5)]) ∧ Below W.heap.size W w' := by
  have := world_tlv h
  unfold wldV at this
  rw [hf 0 (by omega), hf 1 (by omega), hf 2 (by omega), hf 3 (by omega), hf 4 (by omega), hf 5 (by omega)] at this
  exact this
theorem done_is {w0 W : World} {Z : Nat → Prop} {p b m : Nat} {c : Nat → Nat} {ws : Nat → Int} {T : Twn} {L : List Int} (h : TLv w0 Z W p b m c ws T) (hL : T.B.ord = L) : Calls Try.prog 20 #[.pointer (some ⟨b, 0, none⟩)] W fun e w' => (∃ g2 c2, e = .returned (.slice g2 L.length c2) ∧ NumsAt w' g2 L ∧ ∀ a, g2 = some a → W.heap.size ≤ a.block ∧ a.block < w'.heap.size) ∧ Below W.heap.size W w' := by
  refine (done_tlv h).mono ?_
  rintro e w' ⟨⟨v, he, hv⟩, hb⟩
  have hsl := hv
  obtain ⟨g2, c2, rfl, hN, _⟩ := nums_of_own hv
  rw [hL] at he hN
  exact ⟨⟨g2, c2, he, hN, fun a ha => by subst ha; exact hsl.lt a.block rfl⟩, hb⟩
theorem same_is {W : World} {g1 g2 : Option Addr} {c1 c2 : Nat} {L : List Int} (h1 : NumsAt W g1 L) (h2 : NumsAt W g2 L) (hl : L.length ≤ 8) : Calls Try.prog 39 #[.slice g1 L.length c1, .slice g2 L.length c2] W fun e w' => e = .returned (.bool true) ∧ Below W.heap.size W w' := by
  have := sameInts_any g1 g2 L.length L.length c1 c2 L L W h1 h2 rfl rfl (by omega)
  rw [decide_eq_true rfl] at this
  exact this
theorem mail_no {w0 W : World} {Z : Nat → Prop} {p b m : Nat} {c : Nat → Nat} {ws : Nat → Int} {T : Twn} (h : TLv w0 Z W p b m c ws T) (hM : T.M = []) : Calls Try.prog 27 #[.pointer (some ⟨p, 0, none⟩)] W fun e w' => (∃ g2 c2, e = .returned (.slice g2 0 c2)) ∧ Below W.heap.size W w' := by
  refine (mail_tlv h).mono ?_
  rintro e w' ⟨⟨g2, c2, he, _⟩, hb⟩
  rw [hM] at he
  exact ⟨⟨g2, c2, he⟩, hb⟩

end Go.Proofs.Ytbgnajcmhmpjlac

/- The walk of TownCalm: it answers true, whatever it is given. -/
namespace Go.Proofs.Ytbgnajcmhmpjlac
open Go.RowKit

theorem save_box (w : World) (nb : Nat) (f : Nat → Int) : Save (fun j => j = nb) w ((((((w.setCell ⟨nb, 0, none⟩ (.int .i64 (f 0))).setCell ⟨nb, 1, none⟩ (.int .i64 (f 1))).setCell ⟨nb, 2, none⟩ (.int .i64 (f 2))).setCell ⟨nb, 3, none⟩ (.int .i64 (f 3))).setCell ⟨nb, 4, none⟩ (.int .i64 (f 4))).setCell ⟨nb, 5, none⟩ (.int .i64 (f 5))) :=
  ((((((Save.refl (fun j => j = nb) w).setCell (p := ⟨nb, 0, none⟩) (fun _ => rfl) _).setCell (p := ⟨nb, 1, none⟩) (fun _ => rfl) _).setCell (p := ⟨nb, 2, none⟩) (fun _ => rfl) _).setCell (p := ⟨nb, 3, none⟩) (fun _ => rfl) _).setCell (p := ⟨nb, 4, none⟩) (fun _ => rfl) _).setCell (p := ⟨nb, 5, none⟩) (fun _ => rfl) _
set_option maxHeartbeats 16000000 in
set_option maxRecDepth 100000 in
theorem tcalm_walk (ws : Nat → Int) (la : Option Addr) (ll lc : Nat) (l : List TSp) (la2 : Option Addr) (ll2 lc2 : Nat) (l2 : List TSp) (w : World) (hl : TStAt w la l) (hll : l.length = ll) (hl2 : TStAt w la2 l2) (hll2 : l2.length = ll2) :
    Calls Try.prog 9 #[.agg #[.int .i64 (ws 0), .int .i64 (ws 1), .int .i64 (ws 2), .int .i64 (ws 3), .int .i64 (ws 4), .int .i64 (ws 5)], .slice la ll lc, .slice la2 ll2 lc2] w fun e w' => e = .returned (.bool true) ∧ Below w.heap.size w w' := by
  have HL0 := hid hl
  have HLL := hid hll
  have HM0 := hid hl2
  have HML := hid hll2
  clear hl hll hl2 hll2
  go_enter Try.func9, Try.ntmps9
  go_upto_region 1 with fail
  have hb1 : Below w.heap.size w (w.alloc (.cells #[.int .i64 (ws 0), .int .i64 (ws 1), .int .i64 (ws 2), .int .i64 (ws 3), .int .i64 (ws 4), .int .i64 (ws 5)] 42)) := (Below.refl _ _).alloc (Nat.le_refl _) _
  have hX : BoxAt (w.alloc (.cells #[.int .i64 (ws 0), .int .i64 (ws 1), .int .i64 (ws 2), .int .i64 (ws 3), .int .i64 (ws 4), .int .i64 (ws 5)] 42)) w.heap.size [.int .i64 (ws 0), .int .i64 (ws 1), .int .i64 (ws 2), .int .i64 (ws 3), .int .i64 (ws 4), .int .i64 (ws 5)] := BoxAt.new w _ _
  generalize (w.alloc (.cells #[.int .i64 (ws 0), .int .i64 (ws 1), .int .i64 (ws 2), .int .i64 (ws 3), .int .i64 (ws 4), .int .i64 (ws 5)] 42)) = w1 at hb1 hX ⊢
  generalize hbx : w.heap.size = bx at hX ⊢
  have HB1 := hid hb1
  have HX1 := hid hX
  have HBX := hid hbx
  clear hb1 hX hbx
  go_wp2_with fail
  refine Calls.mono (tbegun_any w1) ?_
  rintro e w2 ⟨rfl, hb2⟩
  have HX2 := hid (HX1.out.next hb2)
  have HB2 := hid (after HB1.out hb2 HB1.out.size)
  have HL2 := hid (HL0.out.below HB2.out)
  clear hb2 HX1 HB1
  go_wp2_with fail
  refine Calls.mono (greatT_any la ll lc l w2 HL2.out HLL.out) ?_
  rintro e w3 ⟨⟨g, rfl, hg⟩, rfl⟩
  have HB3 : Hid (Below w.heap.size w w3) := HB2
  have HL3 : Hid (TStAt w3 la l) := HL2
  have HX3 : Hid (BoxAt w3 bx [.int .i64 (ws 0), .int .i64 (ws 1), .int .i64 (ws 2), .int .i64 (ws 3), .int .i64 (ws 4), .int .i64 (ws 5)]) := HX2
  clear HB2 HL2 HX2
  cases g with
  | true =>
    clear hg
    go_wp2_with fail
    go_ret
    exact ⟨rfl, HB3.out⟩
  | false =>
  have HG := hid (hg rfl)
  clear hg
  go_wp2_with fail
  refine Calls.mono (greatT_any la2 ll2 lc2 l2 w3 (HM0.out.below HB3.out) HML.out) ?_
  rintro e w3' ⟨⟨g2, rfl, hg2⟩, hw3⟩
  have hw3' := hw3.symm
  clear hw3
  subst hw3'
  cases g2 with
  | true =>
    clear hg2
    go_wp2_with fail
    go_ret
    exact ⟨rfl, HB3.out⟩
  | false =>
  have HG2 := hid (hg2 rfl)
  clear hg2
  have HM3 := hid (HM0.out.below HB3.out)
  have x0 := HX3.out.2 0 _ rfl
  have x1 := HX3.out.2 1 _ rfl
  have x2 := HX3.out.2 2 _ rfl
  have x3 := HX3.out.2 3 _ rfl
  have x4 := HX3.out.2 4 _ rfl
  have x5 := HX3.out.2 5 _ rfl
  by_cases hok : OkT ws
  case neg =>
    have HC := hid (new_nil hok w3)
    clear hok
    go_wp2_with fail
    refine Calls.mono HC.out ?_
    rintro e w4 ⟨rfl, hb4⟩
    have HB4 := hid (after HB3.out hb4 HB3.out.size)
    clear hb4 HC x0 x1 x2 x3 x4 x5
    go_wp2_with fail
    go_ret
    exact ⟨rfl, HB4.out⟩
  have HC := hid (new_tlv hok w3)
  clear hok
  go_wp2_with fail
  refine Calls.mono HC.out ?_
  rintro e w4 ⟨p, b, m, c, rfl, hT4⟩
  have HT4 := hid hT4
  have j2 : (ll : Int) ≤ 250 := by have := HG.out.1; omega
  clear hT4 HC x0 x1 x2 x3 x4 x5
  go_wp2_with fail
  go_loopg [8] ll (fun g s8 wr => ∃ (k : Nat) (T : Twn), k ≤ ll ∧ g = ll - k ∧ s8 = .int .i64 k ∧ Hid (TLv w3 (fun k => k ∈ ([] : List Nat)) wr p b m c ws T))
  case atStart => exact ⟨0, _, Nat.zero_le _, rfl, rfl, HT4⟩
  case round =>
  obtain ⟨k, T, hk, rfl, rfl, HT⟩ := hrel
  by_cases hlt : k < ll
  case pos =>
    obtain ⟨x, hx⟩ : ∃ x, l[k]? = some x := ⟨_, List.getElem?_eq_getElem (by have := HLL.out; omega)⟩
    obtain ⟨bl, ol, sa, sc, rfl, hbl, hWx, q0, q1, q2⟩ := HL3.out.at HT.out.below hx
    have HC := hid (step_tlv (sc := sc) x HT.out hWx)
    have HK := hid hlt
    have j0 : (0 : Int) ≤ (k : Int) := by omega
    have j1 : (k : Int) < (ll : Int) := by omega
    clear hWx hx hk hlt hbl
    go_wp2_with fail
    refine Calls.mono HC.out ?_
    rintro e w5 ⟨rfl, hT5, _⟩
    have HT5 := hid hT5
    clear HC hT5 q0 q1 q2
    go_wp2_with fail
    go_roundg (ll - (k + 1))
    case measure => have := HK.out; omega
    case rel => exact ⟨k + 1, _, HK.out, rfl, by simp, HT5⟩
  have j1 : ¬ (k : Int) < (ll : Int) := by omega
  clear hk hlt
  have HC := hid (calm_tlv HT.out)
  obtain ⟨_, hSt, _⟩ := HT.out.full.calm
  have HSt := hid hSt
  clear hSt
  generalize (calmR 20 0 T).2 = D at HC HSt
  go_wp2_with fail
  refine Calls.mono HC.out ?_
  rintro e w5 ⟨rfl, hT5, _⟩
  have HT5 := hid hT5
  clear HC hT5 HT HT4
  obtain ⟨f, hf⟩ : ∃ f, f = valT D := ⟨_, rfl⟩
  have HV0 : Hid (∀ k, k < 6 → valT D k = f k) := fun k _ => by rw [hf]
  clear hf
  have HWd : Hid (∀ W, Below w5.heap.size w5 W → Calls Try.prog 31 #[.pointer (some ⟨p, 0, none⟩)] W fun e w' => e = .returned (.agg #[.int .i64 (f 0), .int .i64 (f 1), .int .i64 (f 2), .int .i64 (f 3), .int .i64 (f 4), .int .i64 (f 5)]) ∧ Below W.heap.size W w') := fun W hW => world_is (HT5.out.next hW) HV0.out
  have HK : Hid (∀ w', Below w5.heap.size w5 w' → w'.cell? ⟨p, 0, none⟩ = some (.pointer (some ⟨b, 0, none⟩))) := fun w' hb => (HT5.out.next hb).c0.1
  obtain ⟨L, hL⟩ : ∃ L, D.B.ord = L := ⟨_, rfl⟩
  have HO := hid hL
  have HL8 : Hid (L.length ≤ 8) := by rw [← hL]; exact HT5.out.full.brk.ordLen
  clear hL
  have HDn : Hid (∀ W, Below w5.heap.size w5 W → Calls Try.prog 20 #[.pointer (some ⟨b, 0, none⟩)] W fun e w' => (∃ g2 c2, e = .returned (.slice g2 L.length c2) ∧ NumsAt w' g2 L ∧ ∀ a, g2 = some a → W.heap.size ≤ a.block ∧ a.block < w'.heap.size) ∧ Below W.heap.size W w') := fun W hW => done_is (HT5.out.next hW) HO.out
  go_upto_region 13 with fail
  go_cut [9, 10] (fun s9 s10 wx => ∃ nb g1 c1, s9 = .pointer (some ⟨nb, 0, none⟩) ∧ s10 = .slice g1 L.length c1 ∧ NumsAt wx g1 L ∧ (∀ a, g1 = some a → w5.heap.size ≤ a.block ∧ a.block < wx.heap.size) ∧ BoxAt wx nb [.int .i64 (f 0), .int .i64 (f 1), .int .i64 (f 2), .int .i64 (f 3), .int .i64 (f 4), .int .i64 (f 5)] ∧ w5.heap.size ≤ nb ∧ Below w5.heap.size w5 wx)
  case first =>
    clear HSt HV0
    go_region_held3 (fun w' => w'.cell? ⟨p, 0, none⟩ = some (.pointer (some ⟨b, 0, none⟩)))
      (first | exact HK.out _ (by go_grown))
      (first | (go_at_call 31; refine (HWd.out _ (by go_grown)).mono ?_; rintro e w81 ⟨rfl, hb81⟩; have hw81 : Below w5.heap.size w5 w81 := after (by go_grown) hb81 (by first | omega | (simp <;> omega)); have hz81 : w5.heap.size ≤ w81.heap.size := hw81.size; have hy81 := hb81.size; (try simp [Nat.add_one_le_iff] at hy81); obtain ⟨hc81, hf81⟩ := bcell hb81; (try (have ec810 : ∀ o, w81.cell? ⟨w5.heap.size, o, none⟩ = _ := fun o => hc81 _ o (by first | omega | (simp; done) | (simp; omega)); have ef810 : ∀ o, w81.frozen? ⟨w5.heap.size, o, none⟩ = _ := fun o => hf81 _ o (by first | omega | (simp; done) | (simp; omega)))); (try (have : w5.heap.size < w81.heap.size := by omega)); (try (have : w5.heap.size < w81.heap.size + 1 := by omega)); (try (have : ¬ w5.heap.size = w81.heap.size := by omega)); (try (have : ¬ w81.heap.size = w5.heap.size := by omega))) | (go_at_call 20; refine (HDn.out _ (by go_grown)).mono ?_; rintro e w82 ⟨⟨g1, c1, rfl, hN1, hA1⟩, hb82⟩; have HN1 := hid hN1; have HA1 := hid hA1; clear hN1 hA1; have hw82 : Below w5.heap.size w5 w82 := after (by go_grown) hb82 (by first | omega | (simp <;> omega)); have hz82 : w5.heap.size ≤ w82.heap.size := hw82.size; have hy82 := hb82.size; (try simp [Nat.add_one_le_iff] at hy82); obtain ⟨hc82, hf82⟩ := bcell hb82; (try (have ec820 : ∀ o, w82.cell? ⟨w5.heap.size, o, none⟩ = _ := fun o => hc82 _ o (by first | omega | (simp; done) | (simp; omega)); have ef820 : ∀ o, w82.frozen? ⟨w5.heap.size, o, none⟩ = _ := fun o => hf82 _ o (by first | omega | (simp; done) | (simp; omega)))); (try (have ec821 : ∀ o, w82.cell? ⟨w81.heap.size, o, none⟩ = _ := fun o => hc82 _ o (by first | omega | (simp; done) | (simp; omega)); have ef821 : ∀ o, w82.frozen? ⟨w81.heap.size, o, none⟩ = _ := fun o => hf82 _ o (by first | omega | (simp; done) | (simp; omega)))); (try (have : w5.heap.size < w82.heap.size := by omega)); (try (have : w5.heap.size < w82.heap.size + 1 := by omega)); (try (have : ¬ w5.heap.size = w82.heap.size := by omega)); (try (have : ¬ w82.heap.size = w5.heap.size := by omega)); (try (have : w81.heap.size < w82.heap.size := by omega)); (try (have : w81.heap.size < w82.heap.size + 1 := by omega)); (try (have : ¬ w81.heap.size = w82.heap.size := by omega)); (try (have : ¬ w82.heap.size = w81.heap.size := by omega))))
    all_goals
      go_wp2_with fail
      go_meet
      case rel =>
        refine ⟨_, _, _, rfl, rfl, ?_, fun a ha => ⟨?_, ?_⟩, ?_, ?_, ?_⟩
        · intro k' x' hk'
          obtain ⟨b', o', e', hl', hc'⟩ := HN1.out k' x' hk'
          have z := (HA1.out _ e').1
          (try simp at z)
          (try (have n1 : ¬ b' = w5.heap.size := by omega; have n1' : ¬ w5.heap.size = b' := by omega))
          (try (have n2 : ¬ b' = w81.heap.size := by omega; have n2' : ¬ w81.heap.size = b' := by omega))
          have n3 : ¬ b' = w82.heap.size := by omega
          have n3' : ¬ w82.heap.size = b' := by omega
          refine ⟨b', o', e', ?_, ?_⟩
          · simp
            try omega
          · simp [go_sem, *]
        · have q := (HA1.out a ha).1
          first | omega | (simp at q; omega)
        · have q := (HA1.out a ha).2
          simp
          try omega
        · refine box_s6 ?_ ?_ ?_ ?_ ?_ ?_ ?_
          · have := hb82.size
            simp at this ⊢
            try omega
          all_goals simp [go_sem, *]
        · first | omega | (simp <;> omega)
        · go_grown
  case rest =>
  obtain ⟨nb, g1, c1, rfl, rfl, hN1, hA1, hBx, hnb, hbc⟩ := hcut
  have HT6 : Hid (TLv w3 (Zk nb g1) wc p b m c ws D) := HT5.out.more hbc (fun k hk => hk.elim (fun q => .inr (by rw [q]; exact ⟨hnb, hBx.1⟩)) (fun ⟨a, ha, q⟩ => .inr (by rw [← q]; exact hA1 a ha)))
  have HKp6 : Hid (Kpt wc nb f g1 L) := ⟨hBx, hN1⟩
  have j3 : (ll2 : Int) ≤ 250 := by have := HG2.out.1; omega
  clear hN1 hA1 hBx hnb hbc HK HWd HDn HT5
  go_wp2_with fail
  go_loopg [11] ll2 (fun g s11 wr => ∃ i : Nat, i ≤ ll2 ∧ g = ll2 - i ∧ s11 = .int .i64 i ∧ Hid (TLv w3 (Zk nb g1) wr p b m c ws D) ∧ Hid (Kpt wr nb f g1 L))
  case atStart => exact ⟨0, Nat.zero_le _, rfl, rfl, HT6, HKp6⟩
  case round =>
  clear HT6 HKp6
  obtain ⟨i, hi, rfl, rfl, HT, HKp⟩ := hrel
  by_cases hil : i < ll2
  case pos =>
    obtain ⟨x, hx⟩ : ∃ x, l2[i]? = some x := ⟨_, List.getElem?_eq_getElem (by have := HML.out; omega)⟩
    obtain ⟨bl, ol, sa, sc, rfl, hbl, hWx, q0, q1, q2⟩ := HM3.out.at HT.out.below hx
    have HI := hid hil
    have i0 : (0 : Int) ≤ (i : Int) := by omega
    have i1 : (i : Int) < (ll2 : Int) := by omega
    clear hx hi hil hbl
    by_cases h3 : x.kind = 3
    · have h3' : (x.kind == 3) = true := by simp [h3]
      have HC := hid (step_tlv (sc := sc) x HT.out hWx)
      rw [(still_step HSt.out x).1 (by omega)] at HC
      dsimp only at HC
      clear hWx  h3
      go_wp2_with fail
      refine Calls.mono HC.out ?_
      rintro e w6 ⟨rfl, hT6, hS6⟩
      have HT6 := hid hT6
      have HKp6 := hid (HKp.out.step hS6)
      clear hT6 hS6 HC q0 q1 q2
      go_wp2_with fail
      go_roundg (ll2 - (i + 1))
      case measure => have := HI.out; omega
      case rel => exact ⟨i + 1, HI.out, rfl, by simp, HT6, HKp6⟩
    have h3' : (x.kind == 3) = false := by rw [beq_eq_false_iff_ne]; exact h3
    by_cases h4 : x.kind = 4
    · have h4' : (x.kind == 4) = true := by simp [h4]
      have HC := hid (step_tlv (sc := sc) x HT.out hWx)
      rw [(still_step HSt.out x).1 (by omega)] at HC
      dsimp only at HC
      clear hWx h3 h4
      go_wp2_with fail
      refine Calls.mono HC.out ?_
      rintro e w6 ⟨rfl, hT6, hS6⟩
      have HT6 := hid hT6
      have HKp6 := hid (HKp.out.step hS6)
      clear hT6 hS6 HC q0 q1 q2
      go_wp2_with fail
      go_roundg (ll2 - (i + 1))
      case measure => have := HI.out; omega
      case rel => exact ⟨i + 1, HI.out, rfl, by simp, HT6, HKp6⟩
    have h4' : (x.kind == 4) = false := by rw [beq_eq_false_iff_ne]; exact h4
    by_cases h5 : x.kind = 5
    · have h5' : (x.kind == 5) = true := by simp [h5]
      have HC := hid (step_tlv (sc := sc) x HT.out hWx)
      rw [(still_step HSt.out x).1 (by omega)] at HC
      dsimp only at HC
      clear hWx h3 h4 h5
      go_wp2_with fail
      refine Calls.mono HC.out ?_
      rintro e w6 ⟨rfl, hT6, hS6⟩
      have HT6 := hid hT6
      have HKp6 := hid (HKp.out.step hS6)
      clear hT6 hS6 HC q0 q1 q2
      go_wp2_with fail
      go_roundg (ll2 - (i + 1))
      case measure => have := HI.out; omega
      case rel => exact ⟨i + 1, HI.out, rfl, by simp, HT6, HKp6⟩
    have h5' : (x.kind == 5) = false := by rw [beq_eq_false_iff_ne]; exact h5
    by_cases h2 : x.kind = 2
    · have h2' : (x.kind == 2) = true := by simp [h2]
      have HC := hid (step_tlv (sc := sc) x HT.out hWx)
      rw [(still_step HSt.out x).2 (by omega)] at HC
      generalize (townR D x).1 = cde at HC
      clear hWx h3 h4 h5 h2
      go_wp2_with fail
      refine Calls.mono HC.out ?_
      rintro e w6 ⟨rfl, hT6, hS6⟩
      have HT6 := hid hT6
      have HKp6 := hid (HKp.out.step hS6)
      clear hT6 hS6 HC q0 q1 q2
      go_wp2_with fail
      go_roundg (ll2 - (i + 1))
      case measure => have := HI.out; omega
      case rel => exact ⟨i + 1, HI.out, rfl, by simp, HT6, HKp6⟩
    have h2' : (x.kind == 2) = false := by rw [beq_eq_false_iff_ne]; exact h2
    by_cases h7 : x.kind = 7
    · have h7' : (x.kind == 7) = true := by simp [h7]
      have HC := hid (step_tlv (sc := sc) x HT.out hWx)
      rw [(still_step HSt.out x).2 (by omega)] at HC
      generalize (townR D x).1 = cde at HC
      clear hWx h3 h4 h5 h2 h7
      go_wp2_with fail
      refine Calls.mono HC.out ?_
      rintro e w6 ⟨rfl, hT6, hS6⟩
      have HT6 := hid hT6
      have HKp6 := hid (HKp.out.step hS6)
      clear hT6 hS6 HC q0 q1 q2
      go_wp2_with fail
      go_roundg (ll2 - (i + 1))
      case measure => have := HI.out; omega
      case rel => exact ⟨i + 1, HI.out, rfl, by simp, HT6, HKp6⟩
    have h7' : (x.kind == 7) = false := by rw [beq_eq_false_iff_ne]; exact h7
    clear hWx h3 h4 h5 h2 h7
    go_wp2_with fail
    go_roundg (ll2 - (i + 1))
    case measure => have := HI.out; omega
    case rel => exact ⟨i + 1, HI.out, rfl, by simp, HT, HKp⟩
  have i1 : ¬ (i : Int) < (ll2 : Int) := by omega
  clear hi
  have HCm : Hid (∀ W, Below wr.heap.size wr W → Calls Try.prog 25 #[.pointer (some ⟨p, 0, none⟩)] W fun e w' => e = .returned (.int .i64 0) ∧ TLv w3 (Zk nb g1) w' p b m c ws D ∧ Save (fun k => ¬ Zk nb g1 k) W w') := fun W hW => by
    have := calm_tlv (HT.out.next hW)
    rw [HSt.out.again] at this
    exact this
  have HK : Hid (∀ w', Below wr.heap.size wr w' → w'.cell? ⟨p, 0, none⟩ = some (.pointer (some ⟨b, 0, none⟩)) ∧ w'.cell? ⟨nb, 0, none⟩ = some (.int .i64 (f 0)) ∧ w'.cell? ⟨nb, 1, none⟩ = some (.int .i64 (f 1)) ∧ w'.cell? ⟨nb, 2, none⟩ = some (.int .i64 (f 2)) ∧ w'.cell? ⟨nb, 3, none⟩ = some (.int .i64 (f 3)) ∧ w'.cell? ⟨nb, 4, none⟩ = some (.int .i64 (f 4)) ∧ w'.cell? ⟨nb, 5, none⟩ = some (.int .i64 (f 5))) := fun w' hb => ⟨(HT.out.next hb).c0.1, (HKp.out.next hb).box.2 0 _ rfl, (HKp.out.next hb).box.2 1 _ rfl, (HKp.out.next hb).box.2 2 _ rfl, (HKp.out.next hb).box.2 3 _ rfl, (HKp.out.next hb).box.2 4 _ rfl, (HKp.out.next hb).box.2 5 _ rfl⟩
  have hq := eq6
  go_upto_region 26 with fail
  go_region_held3 (fun w' => w'.cell? ⟨p, 0, none⟩ = some (.pointer (some ⟨b, 0, none⟩)) ∧ w'.cell? ⟨nb, 0, none⟩ = some (.int .i64 (f 0)) ∧ w'.cell? ⟨nb, 1, none⟩ = some (.int .i64 (f 1)) ∧ w'.cell? ⟨nb, 2, none⟩ = some (.int .i64 (f 2)) ∧ w'.cell? ⟨nb, 3, none⟩ = some (.int .i64 (f 3)) ∧ w'.cell? ⟨nb, 4, none⟩ = some (.int .i64 (f 4)) ∧ w'.cell? ⟨nb, 5, none⟩ = some (.int .i64 (f 5)))
    (first | exact HK90.out _ (by go_grown) | exact HK.out _ (by go_grown))
    (first | (go_at_call 25; refine Calls.mono (HCm.out _ (by go_grown)) ?_; rintro e w90 ⟨rfl, hT90, hS90⟩; have HT90 := hid hT90; have HKp90 : Hid (Kpt w90 nb f g1 L) := (HKp.out.next (by go_grown)).step hS90; clear hT90 hS90; have HK90 : Hid (∀ w', Below w90.heap.size w90 w' → w'.cell? ⟨p, 0, none⟩ = some (.pointer (some ⟨b, 0, none⟩)) ∧ w'.cell? ⟨nb, 0, none⟩ = some (.int .i64 (f 0)) ∧ w'.cell? ⟨nb, 1, none⟩ = some (.int .i64 (f 1)) ∧ w'.cell? ⟨nb, 2, none⟩ = some (.int .i64 (f 2)) ∧ w'.cell? ⟨nb, 3, none⟩ = some (.int .i64 (f 3)) ∧ w'.cell? ⟨nb, 4, none⟩ = some (.int .i64 (f 4)) ∧ w'.cell? ⟨nb, 5, none⟩ = some (.int .i64 (f 5))) := fun w' hb => ⟨(HT90.out.next hb).c0.1, (HKp90.out.next hb).box.2 0 _ rfl, (HKp90.out.next hb).box.2 1 _ rfl, (HKp90.out.next hb).box.2 2 _ rfl, (HKp90.out.next hb).box.2 3 _ rfl, (HKp90.out.next hb).box.2 4 _ rfl, (HKp90.out.next hb).box.2 5 _ rfl⟩) | (go_at_call 31; refine Calls.mono (world_is (HT90.out.next (by go_grown)) HV0.out) ?_; rintro e w91 ⟨rfl, hb91⟩; have hw91 : Below w90.heap.size w90 w91 := after (by go_grown) hb91 (by first | omega | (simp <;> omega)); have hz91 : w90.heap.size ≤ w91.heap.size := hw91.size) | (go_at_call 20; refine Calls.mono (done_is (HT90.out.next (by go_grown)) HO.out) ?_; rintro e w92 ⟨⟨g2, c2, rfl, hN2, _⟩, hb92⟩; have HN2 := hid hN2; clear hN2; have hw92 : Below w90.heap.size w90 w92 := after (by go_grown) hb92 (by first | omega | (simp <;> omega)); have hz92 : w90.heap.size ≤ w92.heap.size := hw92.size) | (go_at_call 39; refine Calls.mono (same_is (HKp90.out.next (by go_grown)).num (HN2.out.below (by go_grown) (Nat.le_refl _)) HL8.out) ?_; rintro e w93 ⟨rfl, hb93⟩; have hw93 : Below w90.heap.size w90 w93 := after (by go_grown) hb93 (by first | omega | (simp <;> omega)); have hz93 : w90.heap.size ≤ w93.heap.size := hw93.size) | (go_at_call 27; refine Calls.mono (mail_no (HT90.out.next (by go_grown)) HSt.out.mail) ?_; rintro e w94 ⟨⟨g3, c3, rfl⟩, hb94⟩; have hw94 : Below w90.heap.size w90 w94 := after (by go_grown) hb94 (by first | omega | (simp <;> omega)); have hz94 : w90.heap.size ≤ w94.heap.size := hw94.size))
  all_goals
    go_wp2_with fail
    go_ret
    exact ⟨rfl, after HB3.out (after HT90.out.below hw94 HT90.out.below.size) HB3.out.size⟩

end Go.Proofs.Ytbgnajcmhmpjlac

namespace Go.Proofs.Ytbgnajcmhmpjlac
open Go.ChangeShapes Go.WideShapes Go.ChangeAt Go.RowKit Go.Deep

theorem Try.ownTownCalm : ownKnob Try.prog.godebug = none := by kernel_rfl
theorem Try.laidOutTownCalm : laidOutB Try.prog = true := by kernel_rfl

set_option maxRecDepth 100000 in
theorem townCalm_lifted (os : Os) (started : os.Started) (H : Type) (enc : TypeId × Value → H) :
    ReturnsInHanded {} Try.checked os 9 .any (Rows.townCalmSpec.pre6 enc Try.prog Try.f9 Rows.townCalmRow.domain false) (Rows.townCalmSpec.post enc Try.prog Try.f9 false true false false) := by
  refine returnsInHanded_of_change (C := Try.checked) Try.ownTownCalm started (by kernel_rfl) Try.func9
    (ChangeSpec.witness6 (enc := enc) (C := Try.checked) false ⟨#[], #[.agg #[.int .i64 0, .int .i64 0, .int .i64 0, .int .i64 0, .int .i64 0, .int .i64 0], .slice none 0 0, .slice none 0 0], []⟩ 8 (by kernel_rfl) (by kernel_rfl) (by kernel_rfl) (by kernel_rfl)) ?_
  intro W base args ds gs before hval0 hW _ _
  have hval : ∀ (j : Nat) t v, Try.f9.params[j]? = some t → args[j]? = some v → Value.okWide Try.prog W .any base t v := hval0
  have hW' := hW
  obtain ⟨p, q, hA0, hV, rfl, hfz, hnd⟩ := hW
  have hA : DataW.TrodAll enc Try.prog W 0 (fun _ => true) true Try.f9.params.toList args.toList ds p := hA0
  rw [Try.params9] at hA hval
  obtain ⟨v0, v1, v2, d0, d1, d2, p0, p1, p2, rfl, rfl, rfl, h0, h1, h2⟩ := trodAll_three hA
  obtain ⟨rfl, rfl⟩ := trodVars_none hV
  have k0 := h0
  have lt0 : ∀ x ∈ p0, x.block < W.heap.size := by obtain ⟨m, hm⟩ := k0; exact DataW.trod_lt m _ _ _ hm
  have k1 := h1
  have lt1 : ∀ x ∈ p1, x.block < W.heap.size := by obtain ⟨m, hm⟩ := k1; exact DataW.trod_lt m _ _ _ hm
  have k2 := h2
  have lt2 : ∀ x ∈ p2, x.block < W.heap.size := by obtain ⟨m, hm⟩ := k2; exact DataW.trod_lt m _ _ _ hm
  obtain ⟨ws, rfl⟩ := open_world (hval 0 42 v0 rfl rfl) h0
  obtain ⟨a1, l1, c1, rfl⟩ := okWide_slice Try.underlying43 (hval 1 43 v1 rfl rfl)
  obtain ⟨l, hl, hll⟩ := open_tsteps h1
  obtain ⟨a2, l2, c2, rfl⟩ := okWide_slice Try.underlying43 (hval 2 43 v2 rfl rfl)
  obtain ⟨m2, hm2, hml2⟩ := open_tsteps h2
  clear hA0 hval0
  refine (tcalm_walk ws a1 l1 c1 l a2 l2 c2 m2 W hl hll hm2 hml2).mono fun e W' ⟨hret, hb⟩ => ?_
  subst hret
  exact ⟨_, rfl, _, _, _, [], _, [], hW', trodAll_mk1 (shut_bool Try.underlying4 true), trodAll_mk3 (Below.trod Try.laidOutTownCalm (by kernel_rfl) (of_decide_eq_true (by kernel_rfl)) k0 hb lt0) (Below.trod Try.laidOutTownCalm (by kernel_rfl) (of_decide_eq_true (by kernel_rfl)) k1 hb lt1) (Below.trod Try.laidOutTownCalm (by kernel_rfl) (of_decide_eq_true (by kernel_rfl)) k2 hb lt2), rfl, hb.frame _, fun h => by cases h⟩

theorem townCalm_holds : Rows.TownCalmSaid :=
  OpenClaim.holds_of_wide 9 Try.f9 rfl rfl rfl rfl rfl rfl rfl ⟨rfl, rfl, rfl, rfl, rfl⟩ rfl rfl rfl rfl rfl (by kernel_rfl) Try.func9 (by kernel_rfl)
    (of_decide_eq_true (by kernel_rfl)) (by unfold Func.isWrapper; first | (rw [if_pos (by decide +kernel)]; kernel_rfl) | (rw [if_neg (by decide +kernel)]; exact ⟨rfl, rfl⟩))
    (fun os started H enc _ => townCalm_lifted os started H enc)

#print axioms townCalm_holds
end Go.Proofs.Ytbgnajcmhmpjlac
