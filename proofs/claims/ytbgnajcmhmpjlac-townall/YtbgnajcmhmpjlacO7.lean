/- For every world and every list of steps: the statement TownAll of the program returns true, and its arguments read as before (no condition). -/
import Derived.BigQuiet
import Derived.Test.YtbgnajcmhmpjlacRows
import Derived.Test.YtbgnajcmhmpjlacN6

/- The walk of TownAll: it answers true, whatever it is given. -/
namespace Go.Proofs.Ytbgnajcmhmpjlac
open Go.RowKit

set_option maxHeartbeats 16000000 in
set_option maxRecDepth 100000 in
theorem tall_walk (ws : Nat → Int) (la : Option Addr) (ll lc : Nat) (l : List TSp) (w : World) (hl : TStAt w la l) (hll : l.length = ll) :
    Calls Try.prog 4 #[.agg #[.int .i64 (ws 0), .int .i64 (ws 1), .int .i64 (ws 2), .int .i64 (ws 3), .int .i64 (ws 4), .int .i64 (ws 5)], .slice la ll lc] w fun e w' => e = .returned (.bool true) ∧ Below w.heap.size w w' := by
  have HL0 := hid hl
  have HLL := hid hll
  clear hl hll
  go_enter Try.func4, Try.ntmps4
  go_upto_region 1 with fail
  have hb1 : Below w.heap.size w (w.alloc (.cells #[.int .i64 (ws 0), .int .i64 (ws 1), .int .i64 (ws 2), .int .i64 (ws 3), .int .i64 (ws 4), .int .i64 (ws 5)] 42)) := (Below.refl _ _).alloc (Nat.le_refl _) _
  have hX : BoxAt (w.alloc (.cells #[.int .i64 (ws 0), .int .i64 (ws 1), .int .i64 (ws 2), .int .i64 (ws 3), .int .i64 (ws 4), .int .i64 (ws 5)] 42)) w.heap.size [.int .i64 (ws 0), .int .i64 (ws 1), .int .i64 (ws 2), .int .i64 (ws 3), .int .i64 (ws 4), .int .i64 (ws 5)] := BoxAt.new w _ _
  generalize (w.alloc (.cells #[.int .i64 (ws 0), .int .i64 (ws 1), .int .i64 (ws 2), .int .i64 (ws 3), .int .i64 (ws 4), .int .i64 (ws 5)] 42)) = w1 at hb1 hX ⊢
  generalize hbx : w.heap.size = bx at hX ⊢
  have HB1 := hid hb1
  have HX1 := hid hX
  have HBX := hid hbx
  clear hb1 hX hbx
  go_wp2_with fail
  refine Calls.mono (tbegun_any w1) ?_
  rintro e w2 ⟨rfl, hb2⟩
  have HX2 := hid (HX1.out.next hb2)
  have HB2 := hid (after HB1.out hb2 HB1.out.size)
  have HL2 := hid (HL0.out.below HB2.out)
  clear hb2 HX1 HB1
  go_wp2_with fail
  refine Calls.mono (greatT_any la ll lc l w2 HL2.out HLL.out) ?_
  rintro e w3 ⟨⟨g, rfl, hg⟩, rfl⟩
  have HB3 : Hid (Below w.heap.size w w3) := HB2
  have HL3 : Hid (TStAt w3 la l) := HL2
  have HX3 : Hid (BoxAt w3 bx [.int .i64 (ws 0), .int .i64 (ws 1), .int .i64 (ws 2), .int .i64 (ws 3), .int .i64 (ws 4), .int .i64 (ws 5)]) := HX2
  clear HB2 HL2 HX2
  cases g with
  | true =>
    clear hg
    go_wp2_with fail
    go_ret
    exact ⟨rfl, HB3.out⟩
  | false =>
  have HG := hid (hg rfl)
  clear hg
  have x0 := HX3.out.2 0 _ rfl
  have x1 := HX3.out.2 1 _ rfl
  have x2 := HX3.out.2 2 _ rfl
  have x3 := HX3.out.2 3 _ rfl
  have x4 := HX3.out.2 4 _ rfl
  have x5 := HX3.out.2 5 _ rfl
  by_cases hok : OkT ws
  case neg =>
    have HC := hid (new_nil hok w3)
    clear hok
    go_wp2_with fail
    refine Calls.mono HC.out ?_
    rintro e w4 ⟨rfl, hb4⟩
    have HB4 := hid (after HB3.out hb4 HB3.out.size)
    clear hb4 HC x0 x1 x2 x3 x4 x5
    go_wp2_with fail
    go_ret
    exact ⟨rfl, HB4.out⟩
  have HC := hid (new_tlv hok w3)
  clear hok
  go_wp2_with fail
  refine Calls.mono HC.out ?_
  rintro e w4 ⟨p, b, m, c, rfl, hT4⟩
  have HT4 := hid hT4
  have j2 : (ll : Int) ≤ 250 := by have := HG.out.1; omega
  clear hT4 HC x0 x1 x2 x3 x4 x5
  go_wp2_with fail
  go_loopg [6] ll (fun g s6 wr => ∃ (k : Nat) (T : Twn), k ≤ ll ∧ g = ll - k ∧ s6 = .int .i64 k ∧ Hid (TLv w3 (fun k => k ∈ ([] : List Nat)) wr p b m c ws T))
  case atStart => exact ⟨0, _, Nat.zero_le _, rfl, rfl, HT4⟩
  case round =>
  obtain ⟨k, T, hk, rfl, rfl, HT⟩ := hrel
  by_cases hlt : k < ll
  case pos =>
    obtain ⟨x, hx⟩ : ∃ x, l[k]? = some x := ⟨_, List.getElem?_eq_getElem (by have := HLL.out; omega)⟩
    obtain ⟨bl, ol, sa, sc, rfl, hbl, hWx, q0, q1, q2⟩ := HL3.out.at HT.out.below hx
    have HC := hid (step_tlv (sc := sc) x HT.out hWx)
    have HK := hid hlt
    have j0 : (0 : Int) ≤ (k : Int) := by omega
    have j1 : (k : Int) < (ll : Int) := by omega
    clear hWx hx hk hlt hbl
    go_wp2_with fail
    refine Calls.mono HC.out ?_
    rintro e w5 ⟨rfl, hT5, _⟩
    have HT5 := hid hT5
    clear HC hT5 q0 q1 q2
    go_wp2_with fail
    go_roundg (ll - (k + 1))
    case measure => have := HK.out; omega
    case rel => exact ⟨k + 1, _, HK.out, rfl, by simp, HT5⟩
  have j1 : ¬ (k : Int) < (ll : Int) := by omega
  clear hk hlt
  have HC := hid (calm_tlv HT.out)
  obtain ⟨hF, hSt, hn⟩ := HT.out.full.calm
  have HSt := hid hSt
  have hn2 : ((calmR 20 0 T).1 : Int) ≤ 2 := by omega
  have hn0 : (0 : Int) ≤ ((calmR 20 0 T).1 : Int) := by omega
  clear hF hSt hn
  generalize calmR 20 0 T = r at *
  obtain ⟨n, D⟩ := r
  dsimp only at *
  go_wp2_with fail
  refine Calls.mono HC.out ?_
  rintro e w5 ⟨rfl, hT5, _⟩
  have HT5 := hid hT5
  have c0 := hT5.c0.1
  clear HC hT5 HT HT4
  have HDue := hid (due_tlv HT5.out)
  rw [HSt.out.due] at HDue
  go_wp2_with fail
  refine Calls.mono HDue.out ?_
  rintro e w6 ⟨⟨v, rfl, hv⟩, hb6⟩
  obtain ⟨gd, cd, rfl⟩ := own_sl hv
  have HT6 := hid (HT5.out.next hb6)
  clear hv hb6 HDue c0 HT5
  have HMl := hid (mail_tlv HT6.out)
  rw [HSt.out.mail] at HMl
  go_wp2_with fail
  refine Calls.mono HMl.out ?_
  rintro e w7 ⟨⟨gm, cm, rfl, _⟩, hb7⟩
  have HT7 := hid (HT6.out.next hb7)
  clear hb7 HMl HT6
  go_wp2_with fail
  go_loopg [8] D.B.L.length (fun g s8 wr => ∃ k : Nat, k ≤ D.B.L.length ∧ g = D.B.L.length - k ∧ s8 = .int .i64 k ∧ Hid (TLv w3 (fun k => k ∈ ([] : List Nat)) wr p b m c ws D))
  case atStart => exact ⟨0, Nat.zero_le _, rfl, rfl, HT7⟩
  case round =>
  clear HT7
  obtain ⟨i, hi, rfl, rfl, HT⟩ := hrel
  have c0 := HT.out.c0.1
  have HLn := hid (len_tlv HT.out)
  have HL8 : Hid (D.B.L.length ≤ 8) := HT.out.full.brk.len
  by_cases hlt : i < D.B.L.length
  case pos =>
    have i1 : (i : Int) < (D.B.L.length : Int) := by omega
    have i8 : (i : Int) < 8 := by have := HL8.out; omega
    have HI := hid hlt
    have HS := hid (state_tlv (i : Int) HT.out)
    have hst : stR D.B (i : Int) = 1 ∨ stR D.B (i : Int) = 2 := by
      have hD : dealAt D.B (i : Int) = some D.B.L[i] := by rw [dealAt_nat]; exact List.getElem?_eq_getElem hlt
      rw [stR_some hD]
      have h1 := HSt.out.dec D.B.L[i] (List.getElem_mem hlt)
      have h2 := HSt.out.town.inv.st D.B.L[i] (List.getElem_mem hlt)
      rcases h2 with q | q | q
      · exact absurd q h1
      · exact .inl q
      · exact .inr q
    clear hi hlt
    rcases hst with hs | hs
    · rw [hs] at HS
      clear hs
      go_wp2_with fail
      refine Calls.mono HLn.out ?_
      rintro e w8 ⟨rfl, rfl⟩
      go_wp2_with fail
      refine Calls.mono HS.out ?_
      rintro e w9 ⟨rfl, rfl⟩
      go_wp2_with fail
      go_roundg (D.B.L.length - (i + 1))
      case measure => have := HI.out; omega
      case rel => exact ⟨i + 1, HI.out, rfl, by simp, HT⟩
    · rw [hs] at HS
      clear hs
      go_wp2_with fail
      refine Calls.mono HLn.out ?_
      rintro e w8 ⟨rfl, rfl⟩
      go_wp2_with fail
      refine Calls.mono HS.out ?_
      rintro e w9 ⟨rfl, rfl⟩
      go_wp2_with fail
      refine Calls.mono HS.out ?_
      rintro e w10 ⟨rfl, rfl⟩
      go_wp2_with fail
      go_roundg (D.B.L.length - (i + 1))
      case measure => have := HI.out; omega
      case rel => exact ⟨i + 1, HI.out, rfl, by simp, HT⟩
  have i1 : ¬ (i : Int) < (D.B.L.length : Int) := by omega
  clear hi
  go_wp2_with fail
  refine Calls.mono HLn.out ?_
  rintro e w8 ⟨rfl, rfl⟩
  clear HLn c0
  go_wp2_with fail
  go_loopg [9, 10] 3 (fun g s9 _ wr => ∃ s : Nat, s ≤ 3 ∧ g = 3 - s ∧ s9 = .int .i64 s ∧ Hid (TLv w3 (fun k => k ∈ ([] : List Nat)) wr p b m c ws D))
  case atStart => exact ⟨0, Nat.zero_le _, rfl, rfl, HT⟩
  case round =>
  clear HT
  obtain ⟨s, hs, rfl, rfl, HT⟩ := hrel
  by_cases hs3 : s < 3
  case pos =>
    have s1 : (s : Int) < 3 := by omega
    have s0 : (0 : Int) ≤ (s : Int) := by omega
    have HS3 := hid hs3
    have HC := hid (clerk_tlv (s : Int) HT.out)
    rw [clkP_at c hs3] at HC
    obtain ⟨q, r, k0, k1, l0, l1, hcl⟩ := shop_tlv HT.out hs3
    have HHd := hid (hcl _ (Below.refl _ _)).2
    rw [HSt.out.none s hs3] at HHd
    clear hs hs3 hcl
    go_wp2_with fail
    refine Calls.mono HC.out ?_
    rintro e w9 ⟨rfl, rfl⟩
    go_wp2_with fail
    refine Calls.mono HHd.out ?_
    rintro e w10 ⟨⟨gh, ch, rfl, _⟩, hb10⟩
    have HT10 := hid (HT.out.next hb10)
    clear hb10 k0 k1 l0 l1 HC HHd
    go_wp2_with fail
    go_roundg (3 - (s + 1))
    case measure => have := HS3.out; omega
    case rel => exact ⟨s + 1, HS3.out, rfl, by simp, HT10⟩
  have s1 : ¬ (s : Int) < 3 := by omega
  clear hs hs3
  have HSr := hid (serial_tlv HT.out)
  have HV : Hid (wldV (valT D) = wldV (curR ws D)) := wldV_congr (fun k hk => HSt.out.world hk)
  generalize curR ws D = f at HSr HV
  go_wp2_with fail
  refine Calls.mono HSr.out ?_
  rintro e w9 ⟨rfl, hb9⟩
  have HT9 := hid (HT.out.next hb9)
  clear hb9 HSr HT
  simp only [wldV]
  go_upto_region 27 with fail
  have hbn : Below w9.heap.size w9 (w9.alloc (.cells #[.int .i64 (f 0), .int .i64 (f 1), .int .i64 (f 2), .int .i64 (f 3), .int .i64 (f 4), .int .i64 (f 5)] 42)) := (Below.refl _ _).alloc (Nat.le_refl _) _
  have hX : BoxAt (w9.alloc (.cells #[.int .i64 (f 0), .int .i64 (f 1), .int .i64 (f 2), .int .i64 (f 3), .int .i64 (f 4), .int .i64 (f 5)] 42)) w9.heap.size [.int .i64 (f 0), .int .i64 (f 1), .int .i64 (f 2), .int .i64 (f 3), .int .i64 (f 4), .int .i64 (f 5)] := BoxAt.new w9 _ _
  have HT10 := hid (HT9.out.next hbn)
  generalize (w9.alloc (.cells #[.int .i64 (f 0), .int .i64 (f 1), .int .i64 (f 2), .int .i64 (f 3), .int .i64 (f 4), .int .i64 (f 5)] 42)) = w10 at hX HT10 ⊢
  generalize w9.heap.size = b9 at hX ⊢
  have HX := hid hX
  clear hX hbn HT9
  have HK : Hid (∀ w', Below w10.heap.size w10 w' → w'.cell? ⟨b9, 0, none⟩ = some (.int .i64 (f 0)) ∧ w'.cell? ⟨b9, 1, none⟩ = some (.int .i64 (f 1)) ∧ w'.cell? ⟨b9, 2, none⟩ = some (.int .i64 (f 2)) ∧ w'.cell? ⟨b9, 3, none⟩ = some (.int .i64 (f 3)) ∧ w'.cell? ⟨b9, 4, none⟩ = some (.int .i64 (f 4)) ∧ w'.cell? ⟨b9, 5, none⟩ = some (.int .i64 (f 5))) := fun w' hb => ⟨(HX.out.next hb).2 0 _ rfl, (HX.out.next hb).2 1 _ rfl, (HX.out.next hb).2 2 _ rfl, (HX.out.next hb).2 3 _ rfl, (HX.out.next hb).2 4 _ rfl, (HX.out.next hb).2 5 _ rfl⟩
  have HWd : Hid (∀ W, Below w10.heap.size w10 W → Calls Try.prog 31 #[.pointer (some ⟨p, 0, none⟩)] W fun e w' => e = .returned (.agg #[.int .i64 (f 0), .int .i64 (f 1), .int .i64 (f 2), .int .i64 (f 3), .int .i64 (f 4), .int .i64 (f 5)]) ∧ Below W.heap.size W w') := fun W hW => by have := world_tlv (HT10.out.next hW); rw [HV.out] at this; exact this
  have HB10 := hid HT10.out.below
  have hq := eq6
  clear HX HT10 HV
  go_region_held3 (fun w' => w'.cell? ⟨b9, 0, none⟩ = some (.int .i64 (f 0)) ∧ w'.cell? ⟨b9, 1, none⟩ = some (.int .i64 (f 1)) ∧ w'.cell? ⟨b9, 2, none⟩ = some (.int .i64 (f 2)) ∧ w'.cell? ⟨b9, 3, none⟩ = some (.int .i64 (f 3)) ∧ w'.cell? ⟨b9, 4, none⟩ = some (.int .i64 (f 4)) ∧ w'.cell? ⟨b9, 5, none⟩ = some (.int .i64 (f 5)))
    (first | exact HK.out _ (by go_grown))
    (first | (go_at_call 31; refine Calls.mono (HWd.out _ (by go_grown)) ?_; rintro e w11 ⟨rfl, hb11⟩; have hw11 : Below w10.heap.size w10 w11 := after (by go_grown) hb11 (by first | omega | (simp <;> omega)); have hz11 : w10.heap.size ≤ w11.heap.size := hw11.size))
  all_goals
    go_wp2_with fail
    go_ret
    exact ⟨rfl, after HB3.out (after HB10.out hw11 HB10.out.size) HB3.out.size⟩

end Go.Proofs.Ytbgnajcmhmpjlac

namespace Go.Proofs.Ytbgnajcmhmpjlac
open Go.ChangeShapes Go.WideShapes Go.ChangeAt Go.RowKit Go.Deep

theorem Try.ownTownAll : ownKnob Try.prog.godebug = none := by kernel_rfl
theorem Try.laidOutTownAll : laidOutB Try.prog = true := by kernel_rfl

set_option maxRecDepth 100000 in
theorem townAll_lifted (os : Os) (started : os.Started) (H : Type) (enc : TypeId × Value → H) :
    ReturnsInHanded {} Try.checked os 4 .any (Rows.townAllSpec.pre6 enc Try.prog Try.f4 Rows.townAllRow.domain false) (Rows.townAllSpec.post enc Try.prog Try.f4 false true false false) := by
  refine returnsInHanded_of_change (C := Try.checked) Try.ownTownAll started (by kernel_rfl) Try.func4
    (ChangeSpec.witness6 (enc := enc) (C := Try.checked) false ⟨#[], #[.agg #[.int .i64 0, .int .i64 0, .int .i64 0, .int .i64 0, .int .i64 0, .int .i64 0], .slice none 0 0], []⟩ 8 (by kernel_rfl) (by kernel_rfl) (by kernel_rfl) (by kernel_rfl)) ?_
  intro W base args ds gs before hval0 hW _ _
  have hval : ∀ (j : Nat) t v, Try.f4.params[j]? = some t → args[j]? = some v → Value.okWide Try.prog W .any base t v := hval0
  have hW' := hW
  obtain ⟨p, q, hA0, hV, rfl, hfz, hnd⟩ := hW
  have hA : DataW.TrodAll enc Try.prog W 0 (fun _ => true) true Try.f4.params.toList args.toList ds p := hA0
  rw [Try.params4] at hA hval
  obtain ⟨v0, v1, d0, d1, p0, p1, rfl, rfl, rfl, h0, h1⟩ := trodAll_two hA
  obtain ⟨rfl, rfl⟩ := trodVars_none hV
  have k0 := h0
  have lt0 : ∀ x ∈ p0, x.block < W.heap.size := by obtain ⟨m, hm⟩ := k0; exact DataW.trod_lt m _ _ _ hm
  have k1 := h1
  have lt1 : ∀ x ∈ p1, x.block < W.heap.size := by obtain ⟨m, hm⟩ := k1; exact DataW.trod_lt m _ _ _ hm
  obtain ⟨ws, rfl⟩ := open_world (hval 0 42 v0 rfl rfl) h0
  obtain ⟨a1, l1, c1, rfl⟩ := okWide_slice Try.underlying43 (hval 1 43 v1 rfl rfl)
  obtain ⟨l, hl, hll⟩ := open_tsteps h1
  clear hA0 hval0
  refine (tall_walk ws a1 l1 c1 l W hl hll).mono fun e W' ⟨hret, hb⟩ => ?_
  subst hret
  exact ⟨_, rfl, _, _, _, [], _, [], hW', trodAll_mk1 (shut_bool Try.underlying4 true), trodAll_mk2 (Below.trod Try.laidOutTownAll (by kernel_rfl) (of_decide_eq_true (by kernel_rfl)) k0 hb lt0) (Below.trod Try.laidOutTownAll (by kernel_rfl) (of_decide_eq_true (by kernel_rfl)) k1 hb lt1), rfl, hb.frame _, fun h => by cases h⟩

theorem townAll_holds : Rows.TownAllSaid :=
  OpenClaim.holds_of_wide 4 Try.f4 rfl rfl rfl rfl rfl rfl rfl ⟨rfl, rfl, rfl, rfl, rfl⟩ rfl rfl rfl rfl rfl (by kernel_rfl) Try.func4 (by kernel_rfl)
    (of_decide_eq_true (by kernel_rfl)) (by unfold Func.isWrapper; first | (rw [if_pos (by decide +kernel)]; kernel_rfl) | (rw [if_neg (by decide +kernel)]; exact ⟨rfl, rfl⟩))
    (fun os started H enc _ => townAll_lifted os started H enc)

#print axioms townAll_holds
end Go.Proofs.Ytbgnajcmhmpjlac
