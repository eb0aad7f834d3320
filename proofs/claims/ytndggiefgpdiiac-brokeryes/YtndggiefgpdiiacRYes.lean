/- The walk of BrokerYes: it answers true, whatever it is given. -/
import Derived.Test.YtndggiefgpdiiacRLive
import Derived.Test.YtndggiefgpdiiacMSend
import Derived.Deep.DeepCutAuto
namespace Go.Proofs.Ytndggiefgpdiiac
open Go.RowKit

def ZsAt (w : World) (la : Option Addr) (ll : Nat) (zs : List Int) : Prop := ∀ k, k < ll → ∃ b off, la = some ⟨b, off, none⟩ ∧ b < w.heap.size ∧ w.cell? ⟨b, off + k, none⟩ = some (.int .i64 (zs.getD k 0))
def BsAt (w : World) (ea : Option Addr) (le : Nat) (bs : Nat → Bool) : Prop := ∀ k, k < le → ∃ b off, ea = some ⟨b, off, none⟩ ∧ b < w.heap.size ∧ w.cell? ⟨b, off + k, none⟩ = some (.bool (bs k))
/-- The order of a broker with one deal. -/
def ordY (D : Dl) : List Int := if D.st = 1 then [0] else []
theorem sayD_w (D : Dl) (k : Nat) (yes : Bool) : (sayD D k yes).w = D.w := by
  unfold sayD
  split
  · split <;> rfl
  · rfl
theorem hear_y {D : Dl} {k : Nat} {c d : Int} (hF : Fit D.w) (hk : D.w[k]? = some (c, d)) (yes : Bool) : hearR ⟨[D], ordY D⟩ ⟨2, 0, shp c, c, d, yes⟩ = ⟨[sayD D k yes], ordY (sayD D k yes)⟩ := by
  rw [hear_one hF hk]
  congr 1
  by_cases h0 : D.st = 0
  · have e : ordY D = [] := by unfold ordY; rw [if_neg (by omega)]
    rw [e]
    unfold ordY
    by_cases h1 : (sayD D k yes).st = 1
    · rw [if_pos ⟨h0, h1⟩, if_pos h1]; rfl
    · rw [if_neg (fun q => h1 q.2), if_neg h1]
  · have e : sayD D k yes = D := by unfold sayD; rw [if_neg h0]
    rw [e, if_neg (fun q => h0 q.1)]
theorem sayD_nay {D : Dl} (k : Nat) (h : D.st = 0) : (sayD D k false).st = 2 ∧ (sayD D k false).yes = D.yes := by
  unfold sayD; rw [if_pos h]; simp
theorem sayD_yea {D : Dl} (k : Nat) (h : D.st = 0) : (sayD D k true).yes = addI D.yes (k : Int) ∧ ((addI D.yes (k : Int)).length = D.w.length → (sayD D k true).st = 1) ∧ ((addI D.yes (k : Int)).length ≠ D.w.length → (sayD D k true).st = 0) := by
  unfold sayD; rw [if_pos h, if_pos rfl]
  exact ⟨rfl, fun q => if_pos q, fun q => if_neg q⟩
theorem sayD_old {D : Dl} (k : Nat) (yes : Bool) (h : D.st ≠ 0) : sayD D k yes = D := by unfold sayD; rw [if_neg h]
theorem ordY_len (D : Dl) : (((ordY D).length : Int) == 1) = (D.st == 1) := by
  unfold ordY
  by_cases h : D.st = 1
  · rw [if_pos h]; simp [h]
  · rw [if_neg h]
    have : (D.st == 1) = false := by simpa using h
    rw [this]; rfl
theorem addI_old {l : List Int} {i : Int} (h : i ∈ l) : addI l i = l := by unfold addI; rw [if_pos h]
theorem addI_new {l : List Int} {i : Int} (h : i ∉ l) : addI l i = l ++ [i] := by unfold addI; rw [if_neg h]
/-- A row that is kept has grown, where it lay or in new memory. -/
theorem RLv.grown {w0 w w1 : World} {Z Z' : Nat → Prop} {q : Nat} {B : Bok} {row : Option Nat} (h : RLv w0 Z w q B) (hg : w.grownBy w1 row) (hr : ∀ k, row = some k → Z k ∧ w0.heap.size ≤ k) (hZ : ∀ k, Z' k → Z k ∨ (w.heap.size ≤ k ∧ k < w1.heap.size)) : RLv w0 Z' w1 q B := by
  have hs : Save (fun k => row = some k) w w1 := (Save.refl _ _).grown hg (fun k e _ => e)
  obtain ⟨Q, h1, h2⟩ := h.inn
  refine ⟨⟨Q, h1.save hs (fun k hk hq => (h2 k hk).2 (hr k hq).1), fun k hk => ⟨(h2 k hk).1, fun hk' => ?_⟩⟩, h.below.trans (hs.below (fun k hk hq => by have := (hr k hq).2; omega) h.below.size), fun k hk => ?_, h.inv⟩
  · rcases hZ k hk' with q | q
    · exact (h2 k hk).2 q
    · have := h1.own k hk
      omega
  · rcases hZ k hk with q | q
    · exact Nat.lt_of_lt_of_le (h.kept k q) hs.size
    · exact q.2

/-- The law's state at its loop's head: one deal, and the row of what was said to be held. -/
structure YSt (w0 : World) (q : Nat) (l : List (Int × Int)) (D : Dl) (v : Value) (w : World) : Prop where
  liv : RLv w0 (fun k => v.ownBlock = some k) w q ⟨[D], ordY D⟩
  row : w.ownsRow w0.heap.size 3 1 v D.yes.length (D.yes.map (Value.int .i64))
  eqw : D.w = l
theorem YSt.next {w0 w w1 : World} {q : Nat} {l : List (Int × Int)} {D : Dl} {v : Value} (h : YSt w0 q l D v w) (hb : Below w.heap.size w w1) : YSt w0 q l D v w1 := ⟨h.liv.next hb, own_next h.row hb, h.eqw⟩
theorem YSt.few {w0 w : World} {q : Nat} {l : List (Int × Int)} {D : Dl} {v : Value} (h : YSt w0 q l D v w) : D.yes.length ≤ 4 := (h.liv.inv.yesLen (by simp)).1
/-- The row of what was said to be held has grown. -/
theorem YSt.push {w0 W w8 : World} {q : Nat} {l : List (Int × Int)} {D E : Dl} {v v8 : Value} {X : Obj} {r : Int} (hL : RLv w0 (fun k => v.ownBlock = some k) W q ⟨[E], ordY E⟩) (hrow : W.ownsRow w0.heap.size 3 1 v D.yes.length (D.yes.map (Value.int .i64))) (hg : (W.alloc X).grownBy w8 v.ownBlock) (hw : ∀ k, v8.ownBlock = some k → v.ownBlock = some k ∨ k = (W.alloc X).heap.size) (h8 : w8.ownsRow w0.heap.size 3 1 v8 (D.yes.length + 1) (D.yes.map (Value.int .i64) ++ [.int .i64 r])) (hE : E.yes = D.yes ++ [r]) (hEw : E.w = l) : YSt w0 q l E v8 w8 := by
  refine ⟨(hL.next ((Below.refl _ _).alloc (Nat.le_refl _) X)).grown hg (fun k e => ⟨e, (hrow.lt k e).1⟩) (fun k hk => (hw k hk).imp id (fun e => ⟨by omega, (h8.lt k hk).2⟩)), ?_, hEw⟩
  have e1 : (D.yes ++ [r]).length = D.yes.length + 1 := by simp
  have e2 : (D.yes ++ [r]).map (Value.int .i64) = D.yes.map (Value.int .i64) ++ [.int .i64 r] := by simp
  rw [hE, e1, e2]
  exact h8

set_option maxHeartbeats 8000000 in
set_option maxRecDepth 100000 in
theorem yes_walk (wa sa ya : Option Addr) (wl wc sl sc yl yc : Nat) (l : List (Int × Int)) (zs : List Int) (bs : Nat → Bool) (w : World) (hl : WantsAt w wa l) (hll : l.length = wl) (hz : ZsAt w sa sl zs) (hb : BsAt w ya yl bs) :
    Calls Try.prog 3 #[.slice wa wl wc, .slice sa sl sc, .slice ya yl yc] w fun e w' => e = .returned (.bool true) ∧ Below w.heap.size w w' := by
  obtain ⟨ii, hi, hz0, hz1, hz2⟩ := info_parts infoInt
  have HL : Hid (WantsAt w wa l) := hl
  have HZ : Hid (ZsAt w sa sl zs) := hz
  have HBs : Hid (BsAt w ya yl bs) := hb
  have HLl : Hid (l.length = wl) := hll
  clear hl hz hb hll
  go_enter Try.func3, Try.ntmps3
  go_wp2_with fail
  refine Calls.mono (rbegun_any w) ?_
  rintro e w1 ⟨rfl, hb1⟩
  by_cases h50 : 50 < wl
  · have h50' : (50 : Int) < (wl : Int) := by omega
    clear h50
    go_wp2_with fail
    go_ret
    exact ⟨rfl, hb1⟩
  have h50' : ¬ (50 : Int) < (wl : Int) := by omega
  by_cases h1s : 100 < sl
  · have h1s' : (100 : Int) < (sl : Int) := by omega
    clear h1s h50
    go_wp2_with fail
    go_ret
    exact ⟨rfl, hb1⟩
  have h1s' : ¬ (100 : Int) < (sl : Int) := by omega
  by_cases h1y : 100 < yl
  · have h1y' : (100 : Int) < (yl : Int) := by omega
    clear h1s h50 h1y
    go_wp2_with fail
    go_ret
    exact ⟨rfl, hb1⟩
  have h1y' : ¬ (100 : Int) < (yl : Int) := by omega
  have HN : Hid (wl ≤ 50 ∧ sl ≤ 100 ∧ yl ≤ 100) := by constructor <;> omega
  clear h50 h1s h1y
  go_wp2_with fail
  refine Calls.mono (new_rlv w1) ?_
  rintro e w2 ⟨q, rfl, hL2, hb2⟩
  have HC : Hid _ := begin_rlv (lc := wc) hL2 ((HL.out.below hb1 (Nat.le_refl _)).below hb2 (Nat.le_refl _)) HLl.out
  have HB2 : Hid (Below w.heap.size w w2) := after hb1 hb2 hb1.size
  have HB1 : Hid (Below w.heap.size w w1) := hb1
  clear hL2 hb1 hb2 h50' h1s' h1y'
  by_cases hc : (chkW l).1 = 0
  · rw [beginR_ok hc (by decide)] at HC
    have hF := fit_iff.1 hc
    have HF : Hid (Fit l) := hF
    have hw0 : 0 < wl := by have := hF.pos; have := HLl.out; omega
    have hw4 : wl ≤ 4 := by have := hF.few; have := HLl.out; omega
    clear hc hF
    go_wp2_with fail
    refine Calls.mono HC.out ?_
    rintro e w3 ⟨rfl, hL3, _⟩
    clear HC
    go_wp2_with fail
    go_loopg [10, 11, 12, 13] (sl + yl) (fun g s10 s11 s12 _ wr => ∃ (k : Nat) (D : Dl) (v : Value), k ≤ sl ∧ k ≤ yl ∧ g = sl + yl - k ∧ s10 = .int .i64 D.st ∧ v = s11 ∧ s12 = .int .i64 k ∧ YSt w1 q l D v wr)
    case atStart => exact ⟨0, ⟨l, 0, [], []⟩, _, Nat.zero_le _, Nat.zero_le _, rfl, rfl, rfl, rfl, ⟨hL3.less (fun k hk => by simp [Value.ownBlock] at hk), World.ownsRow_nil _ _ _ _, rfl⟩⟩
    case round =>
      obtain ⟨k, D, v, hks, hky, rfl, rfl, rfl, rfl, hS⟩ := hrel
      clear hL3
      by_cases h1 : k < sl
      · have h1' : (k : Int) < (sl : Int) := by omega
        by_cases h2 : k < yl
        · have h2' : (k : Int) < (yl : Int) := by omega
          obtain ⟨bz, oz, rfl, hbz, cz⟩ := HZ.out k h1
          obtain ⟨by', oy, rfl, hby, cy⟩ := HBs.out k h2
          generalize zs.getD k 0 = zz at cz
          generalize bs k = yy at cy
          have HRn : Hid (wrap64 ((IntKind.u64.wrap zz).tmod (wl : Int)) = (rnd zz wl : Int)) := rnd_wrap zz wl hw0 (by omega)
          have hrl : rnd zz wl < wl := rnd_lt zz hw0
          generalize rnd zz wl = r at HRn hrl
          obtain ⟨⟨c, d⟩, hlr⟩ : ∃ x, l[r]? = some x := ⟨_, List.getElem?_eq_getElem (by have := HLl.out; omega)⟩
          obtain ⟨bw, ow, rfl, hbw, cc, cd⟩ := HL.out r c d hlr
          have hbel := after HB1.out hS.liv.below HB1.out.size
          have cz' : wr.cell? ⟨bz, oz + k, none⟩ = some (.int .i64 zz) := ((bcell hbel).1 _ _ hbz).trans cz
          have cy' : wr.cell? ⟨by', oy + k, none⟩ = some (.bool yy) := ((bcell hbel).1 _ _ hby).trans cy
          have cc' : wr.cell? ⟨bw, ow + r * 2, none⟩ = some (.int .i64 c) := ((bcell hbel).1 _ _ hbw).trans cc
          have cd' : wr.cell? ⟨bw, ow + r * 2 + 1, none⟩ = some (.int .i64 d) := ((bcell hbel).1 _ _ hbw).trans cd
          have j0 : (0 : Int) ≤ (k : Int) := by omega
          have j3 : (sl : Int) ≤ 100 := by have := HN.out; omega
          have j4 : (yl : Int) ≤ 100 := by have := HN.out; omega
          have r0 : (0 : Int) ≤ (r : Int) := by omega
          have r1 : (r : Int) < (wl : Int) := by omega
          have r2 : (0 : Int) < (wl : Int) := by omega
          have r3 : (wl : Int) < 1000 := by omega
          have HB1' : Hid (Below w.heap.size w w1) := HB1.out
          have HKK : Hid (∀ w', Below w1.heap.size w1 w' → w'.cell? ⟨bw, ow + r * 2, none⟩ = some (.int .i64 c) ∧ w'.cell? ⟨bw, ow + r * 2 + 1, none⟩ = some (.int .i64 d) ∧ w'.cell? ⟨by', oy + k, none⟩ = some (.bool yy)) := fun w' hb => by
            have h := after HB1.out hb HB1.out.size
            exact ⟨((bcell h).1 _ _ hbw).trans cc, ((bcell h).1 _ _ hbw).trans cd, ((bcell h).1 _ _ hby).trans cy⟩
          have HS : Hid (YSt w1 q l D v wr) := hS
          have HKs : Hid (k < sl ∧ k < yl) := ⟨h1, h2⟩
          have HLr : Hid (l[r]? = some (c, d)) := hlr
          have HHear : Hid (∀ W, Below wr.heap.size wr W → Calls Try.prog 8 #[.pointer (some ⟨q, 0, none⟩), .agg #[.int .i64 2, .int .i64 0, .int .i64 (shp c), .int .i64 c, .int .i64 d, .bool yy]] W fun e w' => e = .returned (.tuple #[]) ∧ RLv w1 (fun k => v.ownBlock = some k) w' q ⟨[sayD D r yy], ordY (sayD D r yy)⟩ ∧ w'.ownsRow w1.heap.size 3 1 v D.yes.length (D.yes.map (Value.int .i64))) := fun W hW => by
            have h := hear_rlv ⟨2, 0, shp c, c, d, yy⟩ (HS.out.next hW).liv
            rw [hear_y (by rw [HS.out.eqw]; exact HF.out) (by rw [HS.out.eqw]; exact HLr.out) yy] at h
            exact h.mono (fun e w' z => ⟨z.1, z.2.1, own_save (HS.out.next hW).row z.2.2 (fun i hi hn => hn hi)⟩)
          clear hbz cz hby cy hbw cc cd hbel hlr hks hky h1 h2 hrl
          go_upto_region 15 with fail
          rw [HRn.out]
          have HK : Hid (∀ w', Below wr.heap.size wr w' → w'.cell? ⟨bw, ow + r * 2, none⟩ = some (.int .i64 c) ∧ w'.cell? ⟨bw, ow + r * 2 + 1, none⟩ = some (.int .i64 d) ∧ w'.cell? ⟨by', oy + k, none⟩ = some (.bool yy)) := fun w' hb => HKK.out w' (after HS.out.liv.below hb HS.out.liv.below.size)
          clear hS
          go_region_held3 (fun w' => w'.cell? ⟨bw, ow + r * 2, none⟩ = some (.int .i64 c) ∧ w'.cell? ⟨bw, ow + r * 2 + 1, none⟩ = some (.int .i64 d) ∧ w'.cell? ⟨by', oy + k, none⟩ = some (.bool yy))
            (first | exact HK9 | exact HK.out _ (by go_grown))
            (first | (go_at_call 9; refine (shop_any _ _).mono ?_; rintro e w8 ⟨rfl, rfl⟩) | (go_at_call 8; refine Calls.mono (HHear.out _ (by go_grown)) ?_; rintro e w9 ⟨rfl, hL9, hR9⟩; have HK9 : w9.cell? ⟨bw, ow + r * 2, none⟩ = some (.int .i64 c) ∧ w9.cell? ⟨bw, ow + r * 2 + 1, none⟩ = some (.int .i64 d) ∧ w9.cell? ⟨by', oy + k, none⟩ = some (.bool yy) := HKK.out w9 hL9.below; have HL9 : Hid (RLv w1 (fun k => v.ownBlock = some k) w9 q ⟨[sayD D r yy], ordY (sayD D r yy)⟩) := hL9; have HR9 : Hid (w9.ownsRow w1.heap.size 3 1 v D.yes.length (D.yes.map (Value.int .i64))) := hR9; clear hL9 hR9))
          obtain ⟨y1, y2, y3⟩ := HK9
          clear cz' cy' cc' cd' HK HHear
          have HEw : Hid (D.w = l) := HS.out.eqw
          have HY4 : Hid (D.yes.length ≤ 4) := HS.out.few
          clear HS
          obtain ⟨ga, cap, rfl, hNy, _⟩ := nums_of_own HR9.out
          have HNy : Hid (NumsAt w9 ga D.yes) := hNy
          clear hNy
          go_upto_if 82 with fail
          go_cut [10, 11] (fun s10 s11 wx => ∃ v2, s10 = .int .i64 (sayD D r yy).st ∧ v2 = s11 ∧ YSt w1 q l (sayD D r yy) v2 wx)
          case first =>
            by_cases h0 : D.st = 0
            · have h0' : (D.st == 0) = true := by simp [h0]
              have H0 : Hid (D.st = 0) := h0
              clear h0
              cases yy with
              | false =>
                go_wp2_with fail
                go_meet
                case rel => exact ⟨_, by rw [(sayD_nay r H0.out).1], rfl, ⟨HL9.out, by rw [(sayD_nay r H0.out).2]; exact HR9.out, by rw [sayD_w]; exact HEw.out⟩⟩
              | true =>
                go_wp2_with fail
                refine (in_any ga D.yes.length cap D.yes (r : Int) w9 HNy.out rfl (by have := HY4.out; omega)).mono ?_
                rintro e w10 ⟨rfl, rfl⟩
                obtain ⟨sy, s1, s2⟩ := sayD_yea r H0.out
                by_cases hm : (r : Int) ∈ D.yes
                · rw [decide_eq_true hm]
                  rw [addI_old hm] at sy s1 s2
                  by_cases he : D.yes.length = wl
                  · have he' : ((D.yes.length : Int) == (wl : Int)) = true := by simp [he]
                    have HY : Hid _ := sy
                    have HSt : Hid _ := s1 (by rw [HEw.out]; have := HLl.out; omega)
                    clear hm sy s1 s2 he
                    go_wp2_with fail
                    go_meet
                    case rel => exact ⟨_, by rw [HSt.out], rfl, ⟨HL9.out, by rw [HY.out]; exact HR9.out, by rw [sayD_w]; exact HEw.out⟩⟩
                  · have he' : ((D.yes.length : Int) == (wl : Int)) = false := by rw [beq_eq_false_iff_ne]; omega
                    have HY : Hid _ := sy
                    have HSt : Hid _ := s2 (by rw [HEw.out]; have := HLl.out; omega)
                    clear hm sy s1 s2 he
                    go_wp2_with fail
                    go_meet
                    case rel => exact ⟨_, by rw [HSt.out, H0.out], rfl, ⟨HL9.out, by rw [HY.out]; exact HR9.out, by rw [sayD_w]; exact HEw.out⟩⟩
                · rw [decide_eq_false hm]
                  rw [addI_new hm] at sy s1 s2
                  have HSz : Hid (w1.heap.size ≤ w10.heap.size) := HL9.out.below.size
                  by_cases he : D.yes.length + 1 = wl
                  · have he' : (((D.yes.length + 1 : Nat) : Int) == (wl : Int)) = true := by simp [he]
                    have HY : Hid _ := sy
                    have HSt : Hid _ := s1 (by rw [HEw.out]; have := HLl.out; simp; omega)
                    clear hm sy s1 s2 he
                    go_wp2_with (at_builtin; refine list_append_two rfl (.tmp 92) (.tmp 94) 23 rfl w1.heap.size 3 ii (.int .i64 0) 1 8 Try.underlying23 hi hz0 hz1 hz2 rfl (by decide) (.slice ga D.yes.length cap) _ _ rfl (own_next HR9.out (by go_grown)) ⟨w10.heap.size, 0, none⟩ 1 1 [.int .i64 (r : Int)] rfl rfl (num_new _ rfl) num_cell (by have := HY4.out; unfold maxLen; omega) (by have := HY4.out; omega) (by have := HSz.out; simp; omega) (by decide) ?_; intro v8 w8 hown8 hgrow8 hwh8; obtain ⟨g8, cap8, rfl⟩ := own_sl hown8; have HO8 : Hid (w8.ownsRow w1.heap.size 3 1 (.slice g8 (D.yes.length + 1) cap8) (D.yes.length + 1) (D.yes.map (Value.int .i64) ++ [.int .i64 (r : Int)])) := hown8; clear hown8; have HW8 : Hid _ := hwh8; clear hwh8; have HG8 : Hid _ := hgrow8; clear hgrow8)
                    go_meet
                    case rel => exact ⟨_, by rw [HSt.out], rfl, YSt.push HL9.out HR9.out HG8.out HW8.out HO8.out HY.out (by rw [sayD_w]; exact HEw.out)⟩
                  · have he' : (((D.yes.length + 1 : Nat) : Int) == (wl : Int)) = false := by rw [beq_eq_false_iff_ne]; omega
                    have HY : Hid _ := sy
                    have HSt : Hid _ := s2 (by rw [HEw.out]; have := HLl.out; simp; omega)
                    clear hm sy s1 s2 he
                    go_wp2_with (at_builtin; refine list_append_two rfl (.tmp 92) (.tmp 94) 23 rfl w1.heap.size 3 ii (.int .i64 0) 1 8 Try.underlying23 hi hz0 hz1 hz2 rfl (by decide) (.slice ga D.yes.length cap) _ _ rfl (own_next HR9.out (by go_grown)) ⟨w10.heap.size, 0, none⟩ 1 1 [.int .i64 (r : Int)] rfl rfl (num_new _ rfl) num_cell (by have := HY4.out; unfold maxLen; omega) (by have := HY4.out; omega) (by have := HSz.out; simp; omega) (by decide) ?_; intro v8 w8 hown8 hgrow8 hwh8; obtain ⟨g8, cap8, rfl⟩ := own_sl hown8; have HO8 : Hid (w8.ownsRow w1.heap.size 3 1 (.slice g8 (D.yes.length + 1) cap8) (D.yes.length + 1) (D.yes.map (Value.int .i64) ++ [.int .i64 (r : Int)])) := hown8; clear hown8; have HW8 : Hid _ := hwh8; clear hwh8; have HG8 : Hid _ := hgrow8; clear hgrow8)
                    go_meet
                    case rel => exact ⟨_, by rw [HSt.out, H0.out], rfl, YSt.push HL9.out HR9.out HG8.out HW8.out HO8.out HY.out (by rw [sayD_w]; exact HEw.out)⟩
            · have h0' : (D.st == 0) = false := by simpa using h0
              have HO : Hid _ := sayD_old r yy h0
              clear h0
              go_wp2_with fail
              go_meet
              case rel => exact ⟨_, by rw [HO.out], rfl, ⟨HL9.out, by rw [HO.out]; exact HR9.out, by rw [sayD_w]; exact HEw.out⟩⟩
          case rest =>
            obtain ⟨v2, rfl, rfl, hS2⟩ := hcut
            clear HL9 HR9 HNy HEw HY4 y1 y2 y3
            generalize sayD D r yy = E at hS2 ⊢
            have HC : Hid _ := state_rlv 0 hS2.liv
            have hse : (E.st != E.st) = false := by simp
            have hr4 : IntKind.i64.wrap ((k : Int) + 1) = (k : Int) + 1 := by go_unwrap
            rw [show stR ⟨[E], ordY E⟩ 0 = E.st from rfl] at HC
            go_wp2_with fail
            refine Calls.mono HC.out ?_
            rintro e w11 ⟨rfl, rfl⟩
            clear HC
            have HC : Hid _ := done_rlv hS2.liv
            go_wp2_with fail
            refine Calls.mono HC.out ?_
            rintro e w12 ⟨⟨vh, rfl, hrh⟩, hb12⟩
            obtain ⟨gh, caph, rfl⟩ := own_sl hrh
            have hS3 := hS2.next hb12
            have ho := ordY_len E
            clear hrh hb12 HC hS2
            cases h1e : (E.st == 1)
            all_goals
              rw [h1e] at ho
              go_wp2_with fail
              go_roundg (sl + yl - (k + 1))
              case measure => have := HKs.out; omega
              case rel => exact ⟨k + 1, E, _, by have := HKs.out; omega, by have := HKs.out; omega, rfl, rfl, rfl, by simp, hS3⟩
        · have h2' : ¬ (k : Int) < (yl : Int) := by omega
          clear h2
          go_wp2_with fail
          go_ret
          exact ⟨rfl, after HB1.out hS.liv.below HB1.out.size⟩
      · have h1' : ¬ (k : Int) < (sl : Int) := by omega
        clear h1
        go_wp2_with fail
        go_ret
        exact ⟨rfl, after HB1.out hS.liv.below HB1.out.size⟩
  · rw [beginR_bad hc] at HC
    have hc' : ((chkW l).1 != 0) = true := by simpa using hc
    clear hc
    go_wp2_with fail
    refine Calls.mono HC.out ?_
    rintro e w3 ⟨rfl, hL3, _⟩
    clear HC
    go_wp2_with fail
    refine Calls.mono (len_rlv hL3) ?_
    rintro e w4 ⟨rfl, rfl⟩
    go_wp2_with fail
    go_ret
    exact ⟨rfl, after HB1.out hL3.below HB1.out.size⟩

end Go.Proofs.Ytndggiefgpdiiac
