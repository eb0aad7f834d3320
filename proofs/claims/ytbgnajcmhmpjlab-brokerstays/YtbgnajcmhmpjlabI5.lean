/- For every list of steps: the statement BrokerStays of the program returns true, and its arguments read as before (no condition). -/
import Derived.Test.YtbgnajcmhmpjlabRows
import Derived.Test.YtbgnajcmhmpjlabH4

/- The walk of BrokerStays: it answers true, whatever it is given. -/
namespace Go.Proofs.Ytbgnajcmhmpjlab
open Go.RowKit

/-- The states that are written down when j deals were looked at. -/
def stL (B C : Bok) (j : Nat) : List Int := (C.L.take j).map Dl.st ++ (B.L.drop j).map Dl.st
theorem stL_zero (B C : Bok) : stL B C 0 = B.L.map Dl.st := by simp [stL]
theorem stL_end {B C : Bok} (h : B.L.length ≤ C.L.length) : stL B C C.L.length = C.L.map Dl.st := by
  unfold stL
  rw [List.take_of_length_le (Nat.le_refl _), List.drop_of_length_le h]
  simp
theorem stL_len {B C : Bok} {j : Nat} (hj : j ≤ C.L.length) : (stL B C j).length = j + (B.L.length - j) := by
  unfold stL
  rw [List.length_append, List.length_map, List.length_map, List.length_take, List.length_drop, Nat.min_eq_left hj]
theorem stL_at {B C : Bok} {j : Nat} {D : Dl} (hj : j ≤ C.L.length) (h : B.L[j]? = some D) : (stL B C j)[j]? = some D.st := by
  unfold stL
  rw [List.getElem?_append_right (by rw [List.length_map, List.length_take]; omega), List.length_map, List.length_take, Nat.min_eq_left hj, Nat.sub_self, drop_cons h]
  rfl
theorem stL_set {B C : Bok} {j : Nat} {D E : Dl} (h : B.L[j]? = some D) (hE : C.L[j]? = some E) : (stL B C j).set j E.st = stL B C (j + 1) := by
  have hj := (List.getElem?_eq_some_iff.1 hE).1
  unfold stL
  rw [List.set_append_right _ _ (by rw [List.length_map, List.length_take]; omega), List.length_map, List.length_take, Nat.min_eq_left (by omega), Nat.sub_self, drop_cons h, take_snoc hE, List.map_append, List.append_assoc]
  rfl
theorem stL_push {B C : Bok} {j : Nat} {E : Dl} (h : B.L.length ≤ j) (hE : C.L[j]? = some E) : stL B C j ++ [E.st] = stL B C (j + 1) := by
  unfold stL
  rw [List.drop_of_length_le h, List.drop_of_length_le (by omega), take_snoc hE]
  simp

/-- The law's state in its inner loop. -/
structure StSt (w1 : World) (q p : Nat) (C : Bok) (o : List Int) (go gn : Option Addr) (sl : List Int) (v : Value) (wx : World) : Prop where
  rq : RQ w1 (fun k => v.ownBlock = some k) wx q p C C
  row : wx.ownsRow w1.heap.size 3 1 v sl.length (sl.map (Value.int .i64))
  no : NumsAt wx go o
  nn : NumsAt wx gn C.ord
  fo : ∀ a, go = some a → v.ownBlock ≠ some a.block
  fn : ∀ a, gn = some a → v.ownBlock ≠ some a.block
theorem StSt.next {w1 : World} {q p : Nat} {C : Bok} {o : List Int} {go gn : Option Addr} {sl : List Int} {v : Value} {wx wy : World} (h : StSt w1 q p C o go gn sl v wx) (hb : Below wx.heap.size wx wy) : StSt w1 q p C o go gn sl v wy :=
  ⟨h.rq.next hb, own_next h.row hb, h.no.below hb (Nat.le_refl _), h.nn.below hb (Nat.le_refl _), h.fo, h.fn⟩
theorem StSt.push {w1 : World} {q p : Nat} {C : Bok} {o : List Int} {go gn : Option Addr} {sl : List Int} {v v8 : Value} {wx w8 : World} {X : Obj} {r : Int} (h : StSt w1 q p C o go gn sl v wx) (hgo : ∀ a, go = some a → a.block < wx.heap.size) (hgn : ∀ a, gn = some a → a.block < wx.heap.size) (hg : (wx.alloc X).grownBy w8 v.ownBlock) (h8 : w8.ownsRow w1.heap.size 3 1 v8 (sl.length + 1) (sl.map (Value.int .i64) ++ [.int .i64 r])) (hw : ∀ k, v8.ownBlock = some k → v.ownBlock = some k ∨ k = (wx.alloc X).heap.size) : StSt w1 q p C o go gn (sl ++ [r]) v8 w8 := by
  have h1 := h.next ((Below.refl _ _).alloc (Nat.le_refl _) X)
  have hs : Save (fun k => v.ownBlock = some k) (wx.alloc X) w8 := (Save.refl _ _).grown hg (fun k e _ => e)
  have hsz : (wx.alloc X).heap.size = wx.heap.size + 1 := by simp
  refine ⟨h1.rq.grown hg (fun k e => ⟨e, (h1.row.lt k e).1⟩) (fun k hk => (hw k hk).imp id (fun e => ⟨by omega, (h8.lt k hk).2⟩)), ?_, h1.no.save hs (fun a e q => h.fo a e q), h1.nn.save hs (fun a e q => h.fn a e q), fun a e q => ?_, fun a e q => ?_⟩
  · have e1 : (sl ++ [r]).length = sl.length + 1 := by simp
    have e2 : (sl ++ [r]).map (Value.int .i64) = sl.map (Value.int .i64) ++ [.int .i64 r] := by simp
    rw [e1, e2]
    exact h8
  · rcases hw _ q with z | z
    · exact h.fo a e z
    · have := hgo a e
      omega
  · rcases hw _ q with z | z
    · exact h.fn a e z
    · have := hgn a e
      omega
theorem StSt.set {w1 : World} {q p g n cap j : Nat} {C : Bok} {o : List Int} {go gn : Option Addr} {sl : List Int} {wx : World} {r : Int} (h : StSt w1 q p C o go gn sl (.slice (some ⟨g, 0, none⟩) n cap) wx) (hn : sl.length = n) (hj : j < sl.length) : StSt w1 q p C o go gn (sl.set j r) (.slice (some ⟨g, 0, none⟩) n cap) (wx.setCell ⟨g, j, none⟩ (.int .i64 r)) := by
  subst hn
  have hs : Save (fun k => (Value.slice (some ⟨g, 0, none⟩) sl.length cap).ownBlock = some k) wx (wx.setCell ⟨g, j, none⟩ (.int .i64 r)) := Save.setCell (O := fun k => (Value.slice (some ⟨g, 0, none⟩) sl.length cap).ownBlock = some k) (Save.refl _ _) (p := ⟨g, j, none⟩) (fun _ => rfl) _
  refine ⟨h.rq.keep hs (fun k e => ⟨e, (h.row.lt k e).1⟩), ?_, h.no.save hs (fun a e q => h.fo a e q), h.nn.save hs (fun a e q => h.fn a e q), h.fo, h.fn⟩
  have e1 : (sl.set j r).length = sl.length := by simp
  rw [e1, List.map_set]
  exact own_set h.row (by simpa using hj) _

theorem stays_take {B C : Bok} (h : Stays B C) : C.ord.take B.ord.length = B.ord ∧ B.ord.length ≤ C.ord.length ∧ C.ord.length ≤ B.ord.length + 1 := by
  rcases h.ord with e | ⟨n, e, _⟩
  · rw [e]
    exact ⟨List.take_of_length_le (Nat.le_refl _), Nat.le_refl _, by omega⟩
  · rw [e]
    exact ⟨by simp, by simp, by simp⟩
theorem NumsAt.take {w : World} {la : Option Addr} {l : List Int} (h : NumsAt w la l) (k : Nat) : NumsAt w la (l.take k) := fun i c hi => by
  have hik : i < k := by
    have := (List.getElem?_eq_some_iff.1 hi).1
    rw [List.length_take] at this
    omega
  rw [List.getElem?_take_of_lt hik] at hi
  exact h i c hi

set_option maxHeartbeats 8000000 in
set_option maxRecDepth 100000 in
theorem stays_walk (la : Option Addr) (ll lc : Nat) (l : List BSp) (w : World) (hl : BStAt w la l) (hll : l.length = ll) :
    Calls Try.prog 13 #[.slice la ll lc] w fun e w' => e = .returned (.bool true) ∧ Below w.heap.size w w' := by
  obtain ⟨ii, hi, hz0, hz1, hz2⟩ := info_parts infoInt
  have HL : Hid (BStAt w la l) := hl
  have HLl : Hid (l.length = ll) := hll
  go_enter Try.func13, Try.ntmps13
  go_wp2_with fail
  refine Calls.mono (rbegun_any w) ?_
  rintro e w1 ⟨rfl, hb1⟩
  have HL1 : Hid (BStAt w1 la l) := fun k x hk => by
    obtain ⟨b, off, sa, sc, e, hb, hw, hc⟩ := HL.out k x hk
    exact ⟨b, off, sa, sc, e, Nat.lt_of_lt_of_le hb hb1.size, hw.below hb1 (Nat.le_refl _), fun j v hj => ((bcell hb1).1 _ _ hb).trans (hc j v hj)⟩
  have HB1 : Hid (Below w.heap.size w w1) := hb1
  clear hl hll hb1 HL
  go_wp2_with fail
  refine Calls.mono (great_any la ll lc l w1 HL1.out HLl.out) ?_
  rintro e w1' ⟨⟨gr, rfl, hgr⟩, rfl⟩
  cases gr with
  | true =>
    go_wp2_with fail
    go_ret
    exact ⟨rfl, HB1.out⟩
  | false =>
    have h150 := hgr rfl
    have h150' : (ll : Int) ≤ 150 := by omega
    have H150 : Hid (ll ≤ 150) := h150
    clear hgr h150
    have HNw : Hid _ := new_rlv w1'
    go_wp2_with fail
    refine Calls.mono HNw.out ?_
    rintro e w2 ⟨q, rfl, hL2, _⟩
    clear HNw
    generalize w1' = w1 at *
    go_upto_region 7 with fail
    have hQ3 := RQ.of_live (hL2.less (Z' := fun k => (Value.slice none 0 0).ownBlock = some k) (fun k hk => by simp [Value.ownBlock] at hk))
    generalize (w2.alloc (.cells #[.slice none 0 0, .slice none 0 0] 101)) = w3 at hQ3 ⊢
    generalize w2.heap.size = p at hQ3 ⊢
    clear hL2
    go_wp2_with fail
    go_loopg [5, 6, 7, 8, 9, 10] ll (fun g s5 s6 _ _ _ _ wr => ∃ (k : Nat) (B : Bok) (v : Value), k ≤ ll ∧ g = ll - k ∧ v = s5 ∧ s6 = .int .i64 k ∧ RQ w1 (fun j => v.ownBlock = some j) wr q p B B ∧ wr.ownsRow w1.heap.size 3 1 v (B.L.map Dl.st).length ((B.L.map Dl.st).map (Value.int .i64)))
    case atStart => exact ⟨0, ⟨[], []⟩, _, Nat.zero_le _, rfl, rfl, rfl, hQ3, World.ownsRow_nil _ _ _ _⟩
    case round =>
      obtain ⟨k, B, v, hk, rfl, rfl, rfl, hQ, hrow⟩ := hrel
      clear hQ3
      by_cases hlt : k < ll
      · have j0 : (0 : Int) ≤ (k : Int) := by omega
        have j1 : (k : Int) < (ll : Int) := by omega
        obtain ⟨x, hx⟩ : ∃ x, l[k]? = some x := ⟨_, List.getElem?_eq_getElem (by have := HLl.out; omega)⟩
        obtain ⟨b, off, sa, sc, rfl, hbl, hWx, hcx⟩ := HL1.out k x hx
        have HWx : Hid (WantsAt w1 sa x.w) := hWx
        have HKL : Hid (k < ll) := hlt
        have HRow : Hid (wr.ownsRow w1.heap.size 3 1 v (B.L.map Dl.st).length ((B.L.map Dl.st).map (Value.int .i64))) := hrow
        have HD : Hid _ := done_rlv hQ.brk
        have hr4 : IntKind.i64.wrap ((k : Int) + 1) = (k : Int) + 1 := by go_unwrap
        clear hx hk hlt hrow hWx
        go_wp2_with fail
        refine Calls.mono HD.out ?_
        rintro e w4 ⟨⟨vo, rfl, hro⟩, hb4⟩
        have hQ4 : RQ w1 (fun j => vo.ownBlock = some j ∨ v.ownBlock = some j) w4 q p B B := hQ.more hb4 (fun j hj => hj.elim (fun e => .inr (hro.lt j e)) .inl)
        have HRow4 : Hid (w4.ownsRow w1.heap.size 3 1 v (B.L.map Dl.st).length ((B.L.map Dl.st).map (Value.int .i64))) := own_next HRow.out hb4
        have HNe : Hid (∀ j, vo.ownBlock = some j → v.ownBlock ≠ some j) := fun j e e2 => by
          have h1 := (hro.lt j e).1
          have h2 := (HRow.out.lt j e2).2
          omega
        have HRo : Hid (w4.ownsRow wr.heap.size 3 1 vo B.ord.length (B.ord.map (Value.int .i64))) := hro
        have hbel4 := hQ4.below
        have c : ∀ j v, (bcells x (.slice sa x.w.length sc))[j]? = some v → w4.cell? ⟨b, off + k * 10 + j, none⟩ = some v := fun j v hj => ((bcell hbel4).1 _ _ hbl).trans (hcx j v hj)
        have p0 : w4.cell? ⟨b, off + k * 10, none⟩ = some (.int .i64 x.what) := c 0 _ rfl
        have p1 : w4.cell? ⟨b, off + k * 10 + 1, none⟩ = some (.int .i64 x.n) := c 1 _ rfl
        have p2 : w4.cell? ⟨b, off + k * 10 + 2, none⟩ = some (.slice sa x.w.length sc) := c 2 _ rfl
        have p3 : w4.cell? ⟨b, off + k * 10 + 3, none⟩ = some (.int .i64 x.m.kind) := c 3 _ rfl
        have p4 : w4.cell? ⟨b, off + k * 10 + 4, none⟩ = some (.int .i64 x.m.deal) := c 4 _ rfl
        have p5 : w4.cell? ⟨b, off + k * 10 + 5, none⟩ = some (.int .i64 x.m.shop) := c 5 _ rfl
        have p6 : w4.cell? ⟨b, off + k * 10 + 6, none⟩ = some (.int .i64 x.m.c) := c 6 _ rfl
        have p7 : w4.cell? ⟨b, off + k * 10 + 7, none⟩ = some (.int .i64 x.m.d) := c 7 _ rfl
        have p8 : w4.cell? ⟨b, off + k * 10 + 8, none⟩ = some (.bool x.m.yes) := c 8 _ rfl
        have p9 : w4.cell? ⟨b, off + k * 10 + 9, none⟩ = some (.bool x.yes) := c 9 _ rfl
        have HBs : Hid _ := bstep_any w1 (fun j => vo.ownBlock = some j ∨ v.ownBlock = some j) q p B x sa sc w4 hQ4 HWx.out
        have HSy : Hid (Stays B (bstepR B x)) := (hQ4.invB.step x).2
        clear hQ hro hb4 hQ4 hbel4 c hcx HD HRow
        go_wp2_with fail
        refine Calls.mono HBs.out ?_
        rintro e w5 ⟨rfl, hT5⟩
        obtain ⟨hQ5, hS5⟩ := hT5
        have hro5 := own_save HRo.out hS5 (fun j hj hn => hn (.inl hj))
        have HRow5 : Hid (w5.ownsRow w1.heap.size 3 1 v (B.L.map Dl.st).length ((B.L.map Dl.st).map (Value.int .i64))) := own_save HRow4.out hS5 (fun j hj hn => hn (.inr hj))
        have HQ5 : Hid (RQ w1 (fun j => v.ownBlock = some j) w5 q p (bstepR B x) (bstepR B x)) := hQ5.less (fun j hj => .inr hj)
        generalize bstepR B x = C at HQ5 HSy
        obtain ⟨go, capo, rfl, hNo, _⟩ := nums_of_own hro5
        have HNo : Hid (NumsAt w5 go B.ord) := hNo
        have HFo : Hid (∀ a, go = some a → v.ownBlock ≠ some a.block) := fun a e q => by subst e; exact HNe.out a.block rfl q
        have HGo : Hid (∀ a, go = some a → a.block < w5.heap.size) := fun a e => by subst e; exact (hro5.lt a.block rfl).2
        clear hQ5 hS5 hro5 hNo HRo HRow4 HNe HBs p0 p1 p2 p3 p4 p5 p6 p7 p8 p9
        have HD2 : Hid _ := done_rlv HQ5.out.brk
        go_wp2_with fail
        refine Calls.mono HD2.out ?_
        rintro e w6 ⟨⟨vn, rfl, hrn⟩, hb6⟩
        obtain ⟨gn, capn, rfl, hNn, _⟩ := nums_of_own hrn
        have hS6 : StSt w1 q p C B.ord go gn (B.L.map Dl.st) v w6 := ⟨HQ5.out.next hb6, own_next HRow5.out hb6, HNo.out.below hb6 (Nat.le_refl _), hNn, HFo.out, fun a e q => by
          subst e
          have h1 := (hrn.lt a.block rfl).1
          have h2 := (HRow5.out.lt _ q).2
          omega⟩
        have HGo6 : Hid (∀ a, go = some a → a.block < w6.heap.size) := fun a e => Nat.lt_of_lt_of_le (HGo.out a e) hb6.size
        have HGn6 : Hid (∀ a, gn = some a → a.block < w6.heap.size) := fun a e => by subst e; exact (hrn.lt a.block rfl).2
        have hcn := own_cap hrn
        have HS6 : Hid (StSt w1 q p C B.ord go gn (B.L.map Dl.st) v w6) := hS6
        obtain ⟨t1, t2, t3⟩ := stays_take HSy.out
        have o8 := HS6.out.rq.invB.ordLen
        have a1 : ¬ (C.ord.length : Int) < (B.ord.length : Int) := by omega
        have a2 : (B.ord.length : Int) ≤ (C.ord.length : Int) := by omega
        have a3 : (0 : Int) ≤ (B.ord.length : Int) := by omega
        have a4 : (C.ord.length : Int) ≤ (capn : Int) := by omega
        have a5 : B.ord.length ≤ C.ord.length := t2
        have a6 : B.ord.length ≤ capn := by omega
        have a7 : (C.ord.length : Int) ≤ 8 := by omega
        have hr5 : IntKind.i64.wrap ((B.ord.length : Int) + 1) = (B.ord.length : Int) + 1 := by go_unwrap
        have a8 : ¬ (B.ord.length : Int) + 1 < (C.ord.length : Int) := by omega
        have a9 : (B.ord.length : Int) ≤ (capn : Int) := by omega
        have HT1 : Hid _ := t1
        clear hNn hrn hb6 HNo HFo HGo HRow5 HQ5 hS6 t1 HD2
        have HSI : Hid _ := sameInts_any gn go B.ord.length B.ord.length capn capo (C.ord.take B.ord.length) B.ord w6 (HS6.out.nn.take _) HS6.out.no (by rw [HT1.out]) rfl (by omega)
        rw [decide_eq_true HT1.out] at HSI
        go_wp2_with fail
        refine Calls.mono HSI.out ?_
        rintro e w7 ⟨rfl, hb7⟩
        have HS7 : Hid _ := HS6.out.next hb7
        have HGo7 : Hid (∀ a, go = some a → a.block < w7.heap.size) := fun a e => Nat.lt_of_lt_of_le (HGo6.out a e) hb7.size
        have HGn7 : Hid (∀ a, gn = some a → a.block < w7.heap.size) := fun a e => Nat.lt_of_lt_of_le (HGn6.out a e) hb7.size
        have HLn : Hid (∀ w9, RQ w1 (fun j => v.ownBlock = some j) w9 q p C C → Calls Try.prog 49 #[.pointer (some ⟨q, 0, none⟩)] w9 fun e w' => e = .returned (.int .i64 (C.L.length : Int)) ∧ w' = w9) := fun w9 h9 => len_rlv h9.brk
        have hrow7 := HS7.out.row
        rw [List.length_map] at hrow7
        obtain ⟨gv, capv, rfl⟩ := own_sl hrow7
        have b1 : ¬ (C.L.length : Int) < (B.L.length : Int) := by have := HSy.out.len; omega
        have b2 : decide (C.L.length < B.L.length) = false := decide_eq_false (by have := HSy.out.len; omega)
        clear hrow7
        clear HSI hb7 HS6 HGo6 HGn6
        go_wp2_with fail
        refine Calls.mono (HLn.out _ HS7.out.rq) ?_
        rintro e w8 ⟨rfl, rfl⟩
        have HS8 : Hid (StSt w1 q p C B.ord go gn (stL B C 0) (.slice gv B.L.length capv) w8) := by show StSt _ _ _ _ _ _ _ _ _ _; rw [stL_zero]; exact HS7.out
        clear HS7 HLn
        go_wp2_with fail
        go_loopg [5, 9, 10] C.L.length (fun g s5 s9 _ wx => ∃ (j : Nat) (v : Value), j ≤ C.L.length ∧ g = C.L.length - j ∧ v = s5 ∧ s9 = .int .i64 j ∧ StSt w1 q p C B.ord go gn (stL B C j) v wx ∧ Hid (∀ a, go = some a → a.block < wx.heap.size) ∧ Hid (∀ a, gn = some a → a.block < wx.heap.size))
        case atStart => exact ⟨0, _, Nat.zero_le _, rfl, rfl, rfl, HS8.out, HGo7, HGn7⟩
        case round =>
          obtain ⟨j, v, hj, rfl, rfl, rfl, hS, HGo, HGn⟩ := hrel
          clear HS8 HGo7 HGn7
          have HS : Hid (StSt w1 q p C B.ord go gn (stL B C j) v wr) := hS
          have HLen : Hid _ := len_rlv hS.rq.brk
          have HC8 : Hid (C.L.length ≤ 8) := hS.rq.invB.len
          clear hS
          go_wp2_with fail
          refine Calls.mono HLen.out ?_
          rintro e w9 ⟨rfl, rfl⟩
          clear HLen
          by_cases hjl : j < C.L.length
          · obtain ⟨E, hE⟩ : ∃ E, C.L[j]? = some E := ⟨_, List.getElem?_eq_getElem hjl⟩
            have hdE : dealAt C (j : Int) = some E := by rw [dealAt_nat]; exact hE
            have hsE : stR C (j : Int) = E.st := stR_some hdE
            have HStt : Hid _ := state_rlv (j : Int) HS.out.rq.brk
            rw [hsE] at HStt
            have hbi := HS.out.rq.invB.state hjl
            rw [hsE] at hbi
            have g1 : ¬ E.st < 0 := by rcases hbi.1 with h | h | h <;> omega
            have g2 : ¬ 2 < E.st := by rcases hbi.1 with h | h | h <;> omega
            have HIn : Hid (((E.st == 1) = decide ((j : Int) ∈ C.ord))) := by
              show _ = _
              rw [eq_one]
              exact decide_eq_decide.2 hbi.2
            have HE : Hid _ := hE
            have HJL : Hid (j < C.L.length) := hjl
            have i0 : (0 : Int) ≤ (j : Int) := by omega
            have i1 : (j : Int) < (C.L.length : Int) := by omega
            have hr6 : IntKind.i64.wrap ((j : Int) + 1) = (j : Int) + 1 := by have := HC8.out; go_unwrap
            have HSn : Hid ((stL B C j).length = j + (B.L.length - j)) := stL_len hj
            have HOl : Hid (C.ord.length ≤ 8) := HS.out.rq.invB.ordLen
            clear hbi hdE hsE hE hjl hj
            go_wp2_with fail
            refine Calls.mono HStt.out ?_
            rintro e w10 ⟨rfl, rfl⟩
            clear HStt
            by_cases hjb : j < B.L.length
            · obtain ⟨D, hD⟩ : ∃ D, B.L[j]? = some D := ⟨_, List.getElem?_eq_getElem hjb⟩
              obtain ⟨sn, hsn⟩ : ∃ sn, sn = (stL B C j).length := ⟨_, rfl⟩
              have hsn2 : sn = B.L.length := by have := HSn.out; omega
              have hrow := HS.out.row
              rw [← hsn] at hrow
              obtain ⟨g5, cap5, rfl⟩ := own_any hrow (by omega)
              obtain ⟨_, hRw, _, _, hcell⟩ := own_row hrow
              have q0 : w10.cell? ⟨g5, j, none⟩ = some (.int .i64 D.st) := hcell j _ (by rw [List.getElem?_map, stL_at (Nat.le_of_lt HJL.out) hD]; rfl)
              have qf := hRw.loose
              have m1 : (j : Int) < (sn : Int) := by omega
              have m2 : (sn : Int) ≤ 8 := by have := HC8.out; have := HSy.out.len; omega
              have HSs : Hid (StSt w1 q p C B.ord go gn (stL B C (j + 1)) (.slice (some ⟨g5, 0, none⟩) sn cap5) (w10.setCell ⟨g5, j, none⟩ (.int .i64 E.st))) := by
                have := HS.out.set (j := j) (r := E.st) hsn.symm (by rw [← hsn]; omega)
                rw [stL_set hD HE.out] at this
                exact this
              have HGo' : Hid (∀ a, go = some a → a.block < (w10.setCell ⟨g5, j, none⟩ (.int .i64 E.st)).heap.size) := fun a e => by simpa using HGo.out a e
              have HGn' : Hid (∀ a, gn = some a → a.block < (w10.setCell ⟨g5, j, none⟩ (.int .i64 E.st)).heap.size) := fun a e => by simpa using HGn.out a e
              have hst : D.st = 0 ∨ (D.st ≠ 0 ∧ E.st = D.st) := by
                by_cases h0 : D.st = 0
                · exact .inl h0
                · obtain ⟨D', e1, _, e3⟩ := HSy.out.st (j : Int) D (by rw [dealAt_nat]; exact hD)
                  rw [dealAt_nat, HE.out] at e1
                  obtain rfl := Option.some.inj e1
                  exact .inr ⟨h0, e3 h0⟩
              clear hrow hRw hcell hD hjb hsn hsn2
              rcases hst with h0 | ⟨h0, h1⟩
              case' inl =>
                have h0' : (D.st != 0) = false := by simp [h0]
                clear h0
              case' inr =>
                have h0' : (D.st != 0) = true := by simpa using h0
                have h1' : (E.st != D.st) = false := by simp [h1]
                clear h0 h1
              all_goals
                go_upto_region 27 with fail
                generalize (w10.setCell ⟨g5, j, none⟩ (.int .i64 E.st)) = w11 at HSs HGo' HGn' ⊢
                have HI2 : Hid _ := in_any gn C.ord.length capn C.ord (j : Int) w11 HSs.out.nn rfl (by have := HOl.out; omega)
                rw [← HIn.out] at HI2
                have hnn : ((E.st == 1) != (E.st == 1)) = false := by simp
                clear q0 qf
                go_wp2_with fail
                refine Calls.mono HI2.out ?_
                rintro e w12 ⟨rfl, rfl⟩
                go_wp2_with fail
                go_roundg (C.L.length - (j + 1))
                case measure => have := HJL.out; omega
                case rel => exact ⟨j + 1, _, HJL.out, rfl, rfl, by simp, HSs.out, HGo', HGn'⟩
            · obtain ⟨sn, hsn⟩ : ∃ sn, sn = (stL B C j).length := ⟨_, rfl⟩
              have hsn2 : sn = j := by have := HSn.out; omega
              have hrow := HS.out.row
              rw [← hsn] at hrow
              have HRw : Hid (w10.ownsRow w1.heap.size 3 1 v sn ((stL B C j).map (Value.int .i64))) := hrow
              obtain ⟨g5, cap5, rfl⟩ := own_sl hrow
              have m1 : ¬ (j : Int) < (sn : Int) := by omega
              have m3 : (sn : Int) ≤ (j : Int) := by omega
              have HSn8 : Hid (sn ≤ 8 ∧ sn = j) := ⟨by have := HC8.out; have := HJL.out; omega, hsn2⟩
              have HSne : Hid (sn = (stL B C j).length) := hsn
              have HJb : Hid (B.L.length ≤ j) := Nat.le_of_not_lt hjb
              have HSz : Hid (w1.heap.size ≤ w10.heap.size) := HS.out.rq.below.size
              clear hrow hsn hsn2 hjb
              go_upto_region 26 with (at_builtin; refine list_append_two rfl (.tmp 102) (.tmp 104) 42 rfl w1.heap.size 3 ii (.int .i64 0) 1 8 Try.underlying42 hi hz0 hz1 hz2 rfl (by decide) (.slice g5 sn cap5) _ _ rfl (own_next HRw.out (by go_grown)) ⟨w10.heap.size, 0, none⟩ 1 1 [.int .i64 E.st] rfl rfl (num_new _ rfl) num_cell (by have := HSn8.out; unfold maxLen; omega) (by have := HSn8.out; omega) (by have := HSz.out; simp; omega) (by decide) ?_; intro v8 w8 hown8 hgrow8 hwh8; have HO8 : Hid (w8.ownsRow w1.heap.size 3 1 v8 (sn + 1) ((stL B C j).map (Value.int .i64) ++ [.int .i64 E.st])) := hown8; clear hown8; have HW8 : Hid _ := hwh8; clear hwh8; have HG8 : Hid _ := hgrow8; clear hgrow8)
              have hSp : StSt w1 q p C B.ord go gn (stL B C j ++ [E.st]) v8 w8 := by
                have h8 := HO8.out
                rw [HSne.out] at h8
                exact StSt.push HS.out HGo.out HGn.out HG8.out h8 (fun k hk => HW8.out k hk)
              rw [stL_push HJb.out HE.out] at hSp
              obtain ⟨g8, cap8, rfl⟩ := own_any HO8.out (by omega)
              obtain ⟨_, hRw8, _, _, hcell8⟩ := own_row HO8.out
              have q0 : w8.cell? ⟨g8, j, none⟩ = some (.int .i64 E.st) := hcell8 j _ (by
                have h1 := HSn8.out.2
                have h2 := HSne.out
                rw [List.getElem?_append_right (by rw [List.length_map]; omega), List.length_map, ← h2, h1, Nat.sub_self]
                rfl)
              have qf := hRw8.loose
              have n1 : (j : Int) < ((sn + 1 : Nat) : Int) := by have := HSn8.out; omega
              have hl8 : (stL B C (j + 1)).length = sn + 1 := by
                rw [← stL_push HJb.out HE.out, List.length_append, ← HSne.out]
                rfl
              have HSs : Hid (StSt w1 q p C B.ord go gn (stL B C (j + 1)) (.slice (some ⟨g8, 0, none⟩) (sn + 1) cap8) (w8.setCell ⟨g8, j, none⟩ (.int .i64 E.st))) := by
                have := hSp.set (j := j) (r := E.st) hl8 (by rw [hl8]; have := HSn8.out; omega)
                have e1 : (stL B C (j + 1)).set j E.st = stL B C (j + 1) := by
                  rw [← stL_push HJb.out HE.out, List.set_append_right _ _ (by have := HSn8.out.2; have := HSne.out; omega)]
                  have h1 := HSn8.out.2
                  have h2 := HSne.out
                  rw [← h2, h1, Nat.sub_self]
                  rfl
                rw [e1] at this
                exact this
              have hg8 := HG8.out.size
              have HGo' : Hid (∀ a, go = some a → a.block < (w8.setCell ⟨g8, j, none⟩ (.int .i64 E.st)).heap.size) := fun a e => by have := HGo.out a e; simp at hg8 ⊢; omega
              have HGn' : Hid (∀ a, gn = some a → a.block < (w8.setCell ⟨g8, j, none⟩ (.int .i64 E.st)).heap.size) := fun a e => by have := HGn.out a e; simp at hg8 ⊢; omega
              clear hSp hRw8 hcell8 hg8 hl8 HO8 HW8 HG8
              go_upto_region 27 with fail
              generalize (w8.setCell ⟨g8, j, none⟩ (.int .i64 E.st)) = w11 at HSs HGo' HGn' ⊢
              have HI2 : Hid _ := in_any gn C.ord.length capn C.ord (j : Int) w11 HSs.out.nn rfl (by have := HOl.out; omega)
              rw [← HIn.out] at HI2
              have hnn : ((E.st == 1) != (E.st == 1)) = false := by simp
              clear q0 qf
              go_wp2_with fail
              refine Calls.mono HI2.out ?_
              rintro e w12 ⟨rfl, rfl⟩
              go_wp2_with fail
              go_roundg (C.L.length - (j + 1))
              case measure => have := HJL.out; omega
              case rel => exact ⟨j + 1, _, HJL.out, rfl, rfl, by simp, HSs.out, HGo', HGn'⟩
          · have hjj : j = C.L.length := by omega
            subst hjj
            have HRel : Hid (∃ B : Bok, B = C ∧ RQ w1 (fun j => v.ownBlock = some j) w9 q p B B ∧ w9.ownsRow w1.heap.size 3 1 v (B.L.map Dl.st).length ((B.L.map Dl.st).map (Value.int .i64))) := by
              have h1 := HS.out.row
              rw [stL_end HSy.out.len] at h1
              exact ⟨C, rfl, HS.out.rq, h1⟩
            have n0 : ¬ (C.L.length : Int) < (C.L.length : Int) := by omega
            clear hjl hj
            rcases HSy.out.ord with ho | ⟨n', ho, hno⟩
            · have z1 : ¬ (B.ord.length : Int) < (C.ord.length : Int) := by rw [ho]; omega
              clear ho
              go_wp2_with fail
              go_roundg (ll - (k + 1))
              case measure => have := HKL.out; omega
              case rel =>
                obtain ⟨B', rfl, r1, r2⟩ := HRel.out
                exact ⟨k + 1, B', _, HKL.out, rfl, rfl, by simp, r1, r2⟩
            · have z1 : (B.ord.length : Int) < (C.ord.length : Int) := by rw [ho]; simp; omega
              obtain ⟨bn, on, egn, hbn, cn⟩ := HS.out.nn B.ord.length n' (by rw [ho]; simp)
              subst egn
              have HI2 : Hid _ := in_any go B.ord.length capo B.ord n' w9 HS.out.no rfl (by omega)
              rw [decide_eq_false hno] at HI2
              clear ho hno
              go_wp2_with fail
              refine Calls.mono HI2.out ?_
              rintro e w12 ⟨rfl, rfl⟩
              go_wp2_with fail
              go_roundg (ll - (k + 1))
              case measure => have := HKL.out; omega
              case rel =>
                obtain ⟨B', rfl, r1, r2⟩ := HRel.out
                exact ⟨k + 1, B', _, HKL.out, rfl, rfl, by simp, r1, r2⟩
      · have hkk : ¬ (k : Int) < (ll : Int) := by omega
        have HB9 : Hid (Below w.heap.size w wr) := after HB1.out hQ.below HB1.out.size
        clear hQ hk hlt hrow
        go_wp2_with fail
        go_ret
        exact ⟨rfl, HB9.out⟩

end Go.Proofs.Ytbgnajcmhmpjlab

namespace Go.Proofs.Ytbgnajcmhmpjlab
open Go.ChangeShapes Go.WideShapes Go.ChangeAt Go.RowKit Go.Deep

theorem Try.ownBrokerStays : ownKnob Try.prog.godebug = none := by kernel_rfl
theorem Try.laidOutBrokerStays : laidOutB Try.prog = true := by kernel_rfl

set_option maxRecDepth 100000 in
theorem brokerStays_lifted (os : Os) (started : os.Started) (H : Type) (enc : TypeId × Value → H) :
    ReturnsInHanded {} Try.checked os 13 .any (Rows.brokerStaysSpec.pre6 enc Try.prog Try.f13 Rows.brokerStaysRow.domain false) (Rows.brokerStaysSpec.post enc Try.prog Try.f13 false true false false) := by
  refine returnsInHanded_of_change (C := Try.checked) Try.ownBrokerStays started (by kernel_rfl) Try.func13
    (ChangeSpec.witness6 (enc := enc) (C := Try.checked) false ⟨#[], #[.slice none 0 0], []⟩ 8 (by kernel_rfl) (by kernel_rfl) (by kernel_rfl) (by kernel_rfl)) ?_
  intro W base args ds gs before hval0 hW _ _
  have hval : ∀ (j : Nat) t v, Try.f13.params[j]? = some t → args[j]? = some v → Value.okWide Try.prog W .any base t v := hval0
  have hW' := hW
  obtain ⟨p, q, hA0, hV, rfl, hfz, hnd⟩ := hW
  have hA : DataW.TrodAll enc Try.prog W 0 (fun _ => true) true Try.f13.params.toList args.toList ds p := hA0
  rw [Try.params13] at hA hval
  obtain ⟨v0, d0, rfl, rfl, h0⟩ := trodAll_one hA
  obtain ⟨rfl, rfl⟩ := trodVars_none hV
  have k0 := h0
  have lt0 : ∀ x ∈ p, x.block < W.heap.size := by obtain ⟨m, hm⟩ := k0; exact DataW.trod_lt m _ _ _ hm
  obtain ⟨a0, l0, c0, rfl⟩ := okWide_slice Try.underlying94 (hval 0 94 v0 rfl rfl)
  obtain ⟨l, hl, hll⟩ := open_bsteps h0
  clear hA0 hval0
  refine (stays_walk a0 l0 c0 l W hl hll).mono fun e W' ⟨hret, hb⟩ => ?_
  subst hret
  exact ⟨_, rfl, _, _, _, [], _, [], hW', trodAll_mk1 (shut_bool Try.underlying4 true), trodAll_mk1 (Below.trod Try.laidOutBrokerStays (by kernel_rfl) (of_decide_eq_true (by kernel_rfl)) k0 hb lt0), rfl, hb.frame _, fun h => by cases h⟩

theorem brokerStays_holds : Rows.BrokerStaysSaid :=
  OpenClaim.holds_of_wide 13 Try.f13 rfl rfl rfl rfl rfl rfl rfl ⟨rfl, rfl, rfl, rfl, rfl⟩ rfl rfl rfl rfl rfl (by kernel_rfl) Try.func13 (by kernel_rfl)
    (of_decide_eq_true (by kernel_rfl)) (by unfold Func.isWrapper; first | (rw [if_pos (by decide +kernel)]; kernel_rfl) | (rw [if_neg (by decide +kernel)]; exact ⟨rfl, rfl⟩))
    (fun os started H enc _ => brokerStays_lifted os started H enc)

#print axioms brokerStays_holds
end Go.Proofs.Ytbgnajcmhmpjlab
