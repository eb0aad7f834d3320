/- How a list of steps of a broker comes in as an argument. -/
import Derived.Test.YtbgnajcmhmpjlabRows
import Derived.ProofKit
import Derived.OpenShut
import Derived.Deep.Slices
import Derived.Deep.SlicePairs
import Derived.Deep.RegionLaw
import Derived.Deep.DeepCutAuto
import Derived.Test.YtbgnajcmhmpjlabH3

/- How a list of wants and a world come in as arguments. -/
namespace Go.Proofs.Ytbgnajcmhmpjlab
open Go.ChangeShapes Go.WideShapes Go.ChangeAt Go.RowKit Go.Deep

theorem Try.cellsIntP : Try.prog.cellsOf 3 = 1 := by kernel_rfl
theorem Try.cellsWantP : Try.prog.cellsOf 69 = 2 := by kernel_rfl
theorem Try.cellsWorldP : Try.prog.cellsOf 23 = 6 := by kernel_rfl

set_option maxRecDepth 20000 in
theorem open_world {H : Type} {enc : TypeId × Value → H} {W : World} {b : Nat} {sp : Nat → Bool} {held : Bool} {r : Reach} {b0 : Nat} {v : Value} {d : DataW H} {ps : List MemPlace} (hval : Value.okWide Try.prog W r b0 23 v) (hd : DataW.Trod enc Try.prog W b sp held 23 v d ps) :
    ∃ ws : Nat → Int, v = .agg #[.int .i64 (ws 0), .int .i64 (ws 1), .int .i64 (ws 2), .int .i64 (ws 3), .int .i64 (ws 4), .int .i64 (ws 5)] := by
  simp only [Value.okWide, Try.underlying23] at hval
  obtain ⟨cs, rfl, h2, _⟩ := hval
  rw [Try.cellsWorldP] at h2
  obtain ⟨fuel, hf⟩ := hd
  obtain ⟨xs, m, rfl, _, _, hl, hi⟩ := DataW.trod_array Try.underlying23 hf
  simp only [Value.cells, Try.cellsIntP, Nat.mul_one] at hi
  obtain ⟨l⟩ := cs
  match l, h2 with
  | [v0, v1, v2, v3, v4, v5], _ =>
    have each : ∀ i (v : Value), i < 6 → [v0, v1, v2, v3, v4, v5][i]? = some v → ∃ a : Int, v = .int .i64 a := by
      intro i v hlt hv
      have q := hi i hlt
      rw [List.getElem?_eq_getElem (by omega)] at q
      have e1 : (([v0, v1, v2, v3, v4, v5] : List Value).drop i).take 1 = [v] := by
        have := drop_cons hv
        rw [this]; rfl
      simp only [e1] at q
      obtain ⟨a, ea, _⟩ := DataW.trod_int Try.underlying3 q
      simp at ea
      exact ⟨a, ea⟩
    obtain ⟨a0, rfl⟩ := each 0 v0 (by omega) rfl
    obtain ⟨a1, rfl⟩ := each 1 v1 (by omega) rfl
    obtain ⟨a2, rfl⟩ := each 2 v2 (by omega) rfl
    obtain ⟨a3, rfl⟩ := each 3 v3 (by omega) rfl
    obtain ⟨a4, rfl⟩ := each 4 v4 (by omega) rfl
    obtain ⟨a5, rfl⟩ := each 5 v5 (by omega) rfl
    exact ⟨fun i => [a0, a1, a2, a3, a4, a5].getD i 0, rfl⟩

theorem open_wants {H : Type} {enc : TypeId × Value → H} {W : World} {held : Bool} {a : Option Addr} {l c : Nat} {d : DataW H} {ps : List MemPlace} (hd : DataW.Trod enc Try.prog W 0 (fun _ => true) held 103 (.slice a l c) d ps) :
    ∃ m : List (Int × Int), WantsAt W a m ∧ m.length = l := by
  obtain ⟨fuel, hf⟩ := hd
  rcases open_slice_pairs Try.underlying103 Try.underlying69 Try.cellsWantP rfl rfl Try.cellsIntP Try.cellsIntP hf with ⟨hcs, _⟩ | ⟨x, l', c', m, n, V0, V1, D0, D1, P0, P1, hcs, _, hl, hm, hz, hx, hcell⟩
  · simp [Value.cells] at hcs
    obtain ⟨rfl, rfl, rfl⟩ := hcs
    exact ⟨[], by intro k c d h; simp at h, rfl⟩
  · simp [Value.cells] at hcs
    obtain ⟨rfl, rfl, rfl⟩ := hcs
    simp only [if_true] at hz
    have each : ∀ k, k < l → ∃ q : Int × Int, V0 k = .int .i64 q.1 ∧ V1 k = .int .i64 q.2 := by
      intro k hk
      obtain ⟨_, _, t0, t1⟩ := hcell k (by omega)
      obtain ⟨a0, e0, _⟩ := DataW.trod_int Try.underlying3 t0
      obtain ⟨a1, e1, _⟩ := DataW.trod_int Try.underlying3 t1
      simp at e0 e1
      exact ⟨(a0, a1), e0, e1⟩
    obtain ⟨q, hq⟩ := choose_lt each
    refine ⟨(List.range l).map q, ?_, by simp⟩
    intro k c d hk
    have hk' : k < l := by have := (List.getElem?_eq_some_iff.1 hk).1; simpa using this
    have eq : q k = (c, d) := by
      rw [List.getElem?_map, List.getElem?_range hk'] at hk
      simpa using hk
    obtain ⟨t0, t1, _, _⟩ := hcell k (by omega)
    have h00 := (hcell 0 (by omega)).1
    rw [(hq k hk').1, eq] at t0
    rw [(hq k hk').2, eq] at t1
    obtain ⟨bb, off, spot⟩ := x
    have hspot : spot = none := by simpa [Addr.add] using World.cell?_spot h00
    subst hspot
    rw [add_plain] at t0 t1
    exact ⟨bb, off, rfl, World.block_lt_of_cell? W _ t0, t0, by rw [Nat.add_assoc]; exact t1⟩

end Go.Proofs.Ytbgnajcmhmpjlab

/- How a list of wants comes in that lies inside another thing. -/
namespace Go.Proofs.Ytbgnajcmhmpjlab
open Go.ChangeShapes Go.WideShapes Go.ChangeAt Go.RowKit Go.Deep

theorem open_wants_in {H : Type} {enc : TypeId × Value → H} {W : World} {held : Bool} {fuel : Nat} {v : Value} {x : DataW H × List MemPlace} (h : DataW.trod enc Try.prog W 0 (fun _ => true) held fuel 103 [v] = some x) :
    ∃ (a : Option Addr) (n c : Nat) (m : List (Int × Int)), v = .slice a n c ∧ WantsAt W a m ∧ m.length = n := by
  obtain ⟨d, ps⟩ := x
  rcases open_slice_pairs Try.underlying103 Try.underlying69 Try.cellsWantP rfl rfl Try.cellsIntP Try.cellsIntP h with ⟨hcs, _⟩ | ⟨x, l', c', m, n, V0, V1, D0, D1, P0, P1, hcs, _⟩
  · simp at hcs
    subst hcs
    obtain ⟨m, h1, h2⟩ := open_wants (a := none) (l := 0) (c := 0) ⟨fuel, h⟩
    exact ⟨none, 0, 0, m, rfl, h1, h2⟩
  · simp at hcs
    subst hcs
    obtain ⟨m, h1, h2⟩ := open_wants (a := some x) (l := l') (c := c') ⟨fuel, h⟩
    exact ⟨some x, l', c', m, rfl, h1, h2⟩

end Go.Proofs.Ytbgnajcmhmpjlab

/- How a list of steps of a post, and one step, come in as arguments. -/
namespace Go.Proofs.Ytbgnajcmhmpjlab
open Go.ChangeShapes Go.WideShapes Go.ChangeAt Go.RowKit Go.Deep

/-- A step: what is done, the number, the mail. -/
structure PSp where
  what : Int
  n : Int
  m : Ml
def PSp.cells (x : PSp) : List Value := [.int .i64 x.what, .int .i64 x.n, .int .i64 x.m.kind, .int .i64 x.m.deal, .int .i64 x.m.shop, .int .i64 x.m.c, .int .i64 x.m.d, .bool x.m.yes]
/-- A list of steps as memory holds it. -/
def PStepsAt (w : World) (la : Option Addr) (l : List PSp) : Prop := ∀ k x, l[k]? = some x → ∃ b off, la = some ⟨b, off, none⟩ ∧ b < w.heap.size ∧ ∀ j v, x.cells[j]? = some v → w.cell? ⟨b, off + k * 8 + j, none⟩ = some v
theorem PStepsAt.below {w w' : World} {B : Nat} {la : Option Addr} {l : List PSp} (h : PStepsAt w la l) (hb : Below B w w') (hB : w.heap.size ≤ B) : PStepsAt w' la l := by
  intro k x hk
  obtain ⟨b, off, e, hlt, h0⟩ := h k x hk
  have hb' : b < B := by omega
  exact ⟨b, off, e, Nat.lt_of_lt_of_le hlt hb.size, fun j v hj => (hb.cell (p := ⟨b, _, none⟩) hb').trans (h0 j v hj)⟩

theorem Try.cellsPStepP : Try.prog.cellsOf 73 = 8 := by kernel_rfl
theorem Try.cellsMailP : Try.prog.cellsOf 71 = 6 := by kernel_rfl
theorem Try.cellsBoolQ : Try.prog.cellsOf 4 = 1 := by kernel_rfl

set_option maxRecDepth 20000 in
theorem open_mail {H : Type} {enc : TypeId × Value → H} {W : World} {b : Nat} {sp : Nat → Bool} {held : Bool} {fuel : Nat} {cs : List Value} {x : DataW H × List MemPlace} (hlen : cs.length = 6) (h : DataW.trod enc Try.prog W b sp held fuel 71 cs = some x) : ∃ m : Ml, cs = m.cells := by
  obtain ⟨xs, k, hk, hxy, _, hxl, hf⟩ := DataW.trod_struct Try.underlying71 h
  match xs, hxl, cs, hlen with
  | [z0, z1, z2, z3, z4], _, [v0, v1, v2, v3, v4, v5], _ =>
    have f0 := hf 0 _ rfl
    have f1 := hf 1 _ rfl
    have f2 := hf 2 _ rfl
    have f3 := hf 3 _ rfl
    have f4 := hf 4 _ rfl
    simp [Try.cellsIntP, Try.cellsWantP, Try.cellsBoolQ] at f0 f1 f2 f3 f4
    obtain ⟨a0, e0, _⟩ := DataW.trod_int Try.underlying3 f0
    obtain ⟨a1, e1, _⟩ := DataW.trod_int Try.underlying3 f1
    obtain ⟨a2, e2, _⟩ := DataW.trod_int Try.underlying3 f2
    obtain ⟨ys, k2, hk2, hxy2, _, hxl2, hf2⟩ := DataW.trod_struct Try.underlying69 f3
    match ys, hxl2 with
    | [t0, t1], _ =>
    have g0 := hf2 0 _ rfl
    have g1 := hf2 1 _ rfl
    simp [Try.cellsIntP] at g0 g1
    obtain ⟨a3, e3, _⟩ := DataW.trod_int Try.underlying3 g0
    obtain ⟨a4, e4, _⟩ := DataW.trod_int Try.underlying3 g1
    obtain ⟨a5, e5, _⟩ := DataW.trod_bool Try.underlying4 f4
    simp at e0 e1 e2 e3 e4 e5
    exact ⟨⟨a0, a1, a2, a3, a4, a5⟩, by rw [e0, e1, e2, e3, e4, e5]; rfl⟩
set_option maxRecDepth 20000 in
theorem open_pstep {H : Type} {enc : TypeId × Value → H} {W : World} {b : Nat} {sp : Nat → Bool} {held : Bool} {fuel : Nat} {cs : List Value} {x : DataW H × List MemPlace} (hlen : cs.length = 8) (h : DataW.trod enc Try.prog W b sp held fuel 73 cs = some x) : ∃ s : PSp, cs = s.cells := by
  obtain ⟨xs, k, hk, hxy, _, hxl, hf⟩ := DataW.trod_struct Try.underlying73 h
  match xs, hxl, cs, hlen with
  | [z0, z1, z2], _, [v0, v1, v2, v3, v4, v5, v6, v7], _ =>
    have f0 := hf 0 _ rfl
    have f1 := hf 1 _ rfl
    have f2 := hf 2 _ rfl
    simp [Try.cellsIntP, Try.cellsMailP] at f0 f1 f2
    obtain ⟨a0, e0, _⟩ := DataW.trod_int Try.underlying3 f0
    obtain ⟨a1, e1, _⟩ := DataW.trod_int Try.underlying3 f1
    obtain ⟨m, e2⟩ := open_mail rfl f2
    simp [Ml.cells] at e0 e1 e2
    obtain ⟨q0, q1, q2, q3, q4, q5⟩ := e2
    exact ⟨⟨a0, a1, m⟩, by rw [e0, e1, q0, q1, q2, q3, q4, q5]; rfl⟩

theorem open_psteps {H : Type} {enc : TypeId × Value → H} {W : World} {held : Bool} {a : Option Addr} {l c : Nat} {d : DataW H} {ps : List MemPlace} (hd : DataW.Trod enc Try.prog W 0 (fun _ => true) held 63 (.slice a l c) d ps) :
    ∃ m : List PSp, PStepsAt W a m ∧ m.length = l := by
  obtain ⟨fuel, hf⟩ := hd
  rcases open_slice Try.underlying63 hf with ⟨hcs, _⟩ | ⟨x, l', c', m, n, D, Pl, hcs, _, hl, hm, hz, _, hx⟩
  · simp [Value.cells] at hcs
    obtain ⟨rfl, rfl, rfl⟩ := hcs
    exact ⟨[], by intro k x h; simp at h, rfl⟩
  · simp [Value.cells] at hcs
    obtain ⟨rfl, rfl, rfl⟩ := hcs
    simp only [if_true] at hz
    have each : ∀ k, k < l → ∃ q : PSp, ∀ j v, q.cells[j]? = some v → W.cell? (x.add (k * 8 + j)) = some v := by
      intro k hk
      obtain ⟨cs, h1, h2⟩ := hx k (by omega)
      rw [Try.cellsPStepP] at h1
      obtain ⟨_, hlen, hcell⟩ := World.cells?_some h1
      obtain ⟨s, rfl⟩ := open_pstep hlen h2
      refine ⟨s, fun j v hj => ?_⟩
      have hj' := (List.getElem?_eq_some_iff.1 hj).1
      have q := hcell j (by simpa [PSp.cells] using hj')
      rw [add_add] at q
      rw [q]
      exact hj
    haveI : Inhabited PSp := ⟨⟨0, 0, ⟨0, 0, 0, 0, 0, false⟩⟩⟩
    obtain ⟨q, hq⟩ := choose_lt each
    refine ⟨(List.range l).map q, ?_, by simp⟩
    intro k s hk
    have hk' : k < l := by have := (List.getElem?_eq_some_iff.1 hk).1; simpa using this
    have eq : q k = s := by
      rw [List.getElem?_map, List.getElem?_range hk'] at hk
      simpa using hk
    have h00 := hq 0 (by omega) 0 _ rfl
    obtain ⟨bb, off, spot⟩ := x
    have hspot : spot = none := by simpa [Addr.add] using World.cell?_spot h00
    subst hspot
    rw [add_plain] at h00
    refine ⟨bb, off, rfl, World.block_lt_of_cell? W _ h00, fun j v hj => ?_⟩
    have := hq k hk' j v (by rw [eq]; exact hj)
    rw [add_plain] at this
    rw [Nat.add_assoc]; exact this

end Go.Proofs.Ytbgnajcmhmpjlab

/- The contracts of post.New, Len and List. -/
namespace Go.Proofs.Ytbgnajcmhmpjlab
open Go.RowKit

theorem pnew_any (w : World) : Calls Try.prog 31 #[] w fun e w' => (∃ p O, e = .returned (.pointer (some ⟨p, 0, none⟩)) ∧ MailIn O w' p 0 [] ∧ ∀ k, O k → w.heap.size ≤ k) ∧ Below w.heap.size w w' := by
  go_enter Try.func31, Try.ntmps31
  go_wp2_with fail
  go_ret
  refine ⟨⟨w.heap.size, fun k => k = w.heap.size, rfl, ⟨fun k hk => by rw [hk]; simp, rfl, by simp [go_sem], .slice none 0 0, by simp [go_sem], World.ownsRow_nil _ _ _ _, fun k e => by simp [Value.ownBlock] at e⟩, fun k hk => by rw [hk]; exact Nat.le_refl _⟩, by go_grown⟩
theorem plen_any (O : Nat → Prop) (l : List Ml) (p o : Nat) (w : World) (h : MailIn O w p o l) : Calls Try.prog 38 #[.pointer (some ⟨p, o, none⟩)] w fun e w' => e = .returned (.int .i64 (l.length : Int)) ∧ Below w.heap.size w w' := by
  obtain ⟨mv, c0, hrow, _⟩ := h.raw
  obtain ⟨ga, cap, rfl, _, _⟩ := mails_of_own hrow
  clear h hrow
  go_enter Try.func38, Try.ntmps38
  go_wp2_with fail
  go_ret
  exact ⟨rfl, Below.refl _ _⟩
set_option maxHeartbeats 1000000 in
theorem plist_own (O : Nat → Prop) (l : List Ml) (p o : Nat) (w : World) (h : MailIn O w p o l) (hlen : l.length < 1000) :
    Calls Try.prog 40 #[.pointer (some ⟨p, o, none⟩)] w fun e w' => (∃ v, e = .returned v ∧ w'.ownsRow w.heap.size 71 6 v l.length (flat6 l)) ∧ Below w.heap.size w w' := by
  obtain ⟨i0, hi, hz0, hz1, hz2⟩ := info_parts infoMail
  obtain ⟨mv, g0, hrow, _⟩ := h.raw
  have HRow : Hid (w.ownsRow (p + 1) 71 6 mv l.length (flat6 l)) := hrow
  have HLen : Hid (l.length < 1000) := hlen
  clear h hrow hlen
  rcases HRow.out.2 with ⟨rfl, e0⟩ | ⟨g, cap, cur, rfl, _⟩
  · have : l = [] := List.length_eq_zero_iff.1 e0
    subst this
    clear HRow e0
    go_enter Try.func40, Try.ntmps40
    go_wp2_with fail
    go_ret
    exact ⟨⟨.slice none 0 0, rfl, World.ownsRow_nil _ _ _ _⟩, Below.refl _ _⟩
  · obtain ⟨_, _, _, _, hcell⟩ := own_row HRow.out
    have HC : Hid _ := hcell
    clear hcell
    have HL : Hid _ := flat6_length l
    go_enter Try.func40, Try.ntmps40
    go_wp2_with (at_builtin; refine wpList_append_own _ rfl (.const (.slice none 0 0)) (.tmp 6) 66 rfl w.heap.size 71 i0 (.agg #[.int .i64 0, .int .i64 0, .int .i64 0, .int .i64 0, .int .i64 0, .bool false]) 6 48 Try.underlying66 hi hz0 hz1 hz2 rfl (by decide) (.slice none 0 0) 0 [] rfl (World.ownsRow_nil _ _ _ _) ⟨g, 0, none⟩ l.length cap (flat6 l) rfl HL.out (fun j u hj => by rw [addr_add]; exact HC.out j u hj) (flat6_one l) (by have := HLen.out; unfold maxLen; omega) (by have := HLen.out; omega) (Nat.le_refl _) ?_; intro v7 w7 hown7 hgrow7 _)
    have hown8 : w7.ownsRow w.heap.size 71 6 v7 l.length (flat6 l) := by simpa using hown7
    go_ret
    exact ⟨⟨v7, rfl, hown8⟩, (Below.refl _ _).grown hgrow7 (Nat.le_refl _) (fun k e => by simp [Value.ownBlock] at e)⟩
theorem plist_any (O : Nat → Prop) (l : List Ml) (p o : Nat) (w : World) (h : MailIn O w p o l) (hlen : l.length < 1000) :
    Calls Try.prog 40 #[.pointer (some ⟨p, o, none⟩)] w fun e w' => (∃ ga cap, e = .returned (.slice ga l.length cap) ∧ MailsAt w' ga l ∧ (∀ a, ga = some a → w.heap.size ≤ a.block ∧ a.block < w'.heap.size) ∧ l.length ≤ cap) ∧ Below w.heap.size w w' := by
  refine (plist_own O l p o w h hlen).mono ?_
  rintro e w' ⟨⟨v, rfl, hown⟩, hb⟩
  obtain ⟨ga, cap, rfl, hA, _⟩ := mails_of_own hown
  refine ⟨⟨ga, cap, rfl, hA, fun a e => ?_, own_cap hown⟩, hb⟩
  subst e
  exact hown.lt a.block rfl

end Go.Proofs.Ytbgnajcmhmpjlab

/- The contracts of a post's Send and place, and of the bag's. -/
namespace Go.Proofs.Ytbgnajcmhmpjlab
open Go.RowKit

theorem sendR_full {l : List Ml} {m : Ml} (h : 40 ≤ l.length) : sendR l m = (false, l) := by unfold sendR; rw [if_pos h]
theorem sendR_room {l : List Ml} {m : Ml} (h : ¬ 40 ≤ l.length) : sendR l m = (true, l ++ [m]) := by unfold sendR; rw [if_neg h]
theorem own_slice6 {w : World} {B e s n : Nat} {v : Value} {xs : List Value} (h : w.ownsRow B e s v n xs) : ∃ ga cap, v = .slice ga n cap := by
  rcases h.2 with ⟨e1, e0⟩ | ⟨g, cap, cur, e1, _⟩
  · exact ⟨none, 0, by rw [e1, e0]⟩
  · exact ⟨_, cap, e1⟩

set_option maxHeartbeats 4000000 in
set_option maxRecDepth 100000 in
theorem psend_any (O : Nat → Prop) (l : List Ml) (p o : Nat) (m : Ml) (w : World) (h : MailIn O w p o l) (hl : l.length < 1000) :
    Calls Try.prog 32 #[.pointer (some ⟨p, o, none⟩), .agg #[.int .i64 m.kind, .int .i64 m.deal, .int .i64 m.shop, .int .i64 m.c, .int .i64 m.d, .bool m.yes]] w fun e w' => e = .returned (.bool (sendR l m).1) ∧ Sent O w w' p o (sendR l m).2 := by
  obtain ⟨i0, hi, hz0, hz1, hz2⟩ := info_parts infoMail
  obtain ⟨mv, c0, hrow, hsub⟩ := h.raw
  have HOwn : Hid (∀ k, O k → k < w.heap.size) := h.own
  have HMine : Hid (O p) := h.mine
  have HIn : Hid (MailIn O w p o l) := h
  have hp := h.lt
  have hf := h.loose
  have HRow : Hid (w.ownsRow (p + 1) 71 6 mv l.length (flat6 l)) := hrow
  have HSub : Hid (∀ k, mv.ownBlock = some k → O k) := hsub
  have HN1 : Hid (some p ≠ mv.ownBlock) := fun e => by have := (HRow.out.lt p e.symm).1; omega
  have HN2 : Hid (some w.heap.size ≠ mv.ownBlock) := fun e => by have := HOwn.out _ (HSub.out _ e.symm); omega
  have HL : Hid (l.length < 1000) := hl
  obtain ⟨ga, cap, rfl⟩ := own_slice6 hrow
  clear h hrow hsub hl
  by_cases hfull : 40 ≤ l.length
  · have hfull' : (40 : Int) ≤ (l.length : Int) := by omega
    have HE : Hid _ := sendR_full (m := m) hfull
    clear hfull
    go_enter Try.func32, Try.ntmps32
    go_wp2_with fail
    go_ret
    rw [HE.out]
    exact ⟨rfl, Sent.stay HIn.out (by go_grown)⟩
  · have hfull' : ¬ (40 : Int) ≤ (l.length : Int) := by omega
    have HE : Hid _ := sendR_room (m := m) hfull
    clear hfull
    go_enter Try.func32, Try.ntmps32
    go_upto_region 3 with fail
    have x0 : (w.alloc (.cells #[.int .i64 m.kind, .int .i64 m.deal, .int .i64 m.shop, .int .i64 m.c, .int .i64 m.d, .bool m.yes] 71)).cell? ⟨p, o, none⟩ = some (.slice ga l.length cap) := by simp [go_sem, c0, hp]
    go_region_law
      (first | (refine step_append_two (by rfl) (.tmp 15) (.tmp 17) 66 (by rfl) (p + 1) 71 i0 (.agg #[.int .i64 0, .int .i64 0, .int .i64 0, .int .i64 0, .int .i64 0, .bool false]) 6 48 Try.underlying66 hi hz0 hz1 hz2 rfl (by decide) (.slice ga l.length cap) _ _ (by simp [Act.eval]) (own_next HRow.out (by go_grown)) ⟨w.heap.size + 1, 0, none⟩ 1 1 [.int .i64 m.kind, .int .i64 m.deal, .int .i64 m.shop, .int .i64 m.c, .int .i64 m.d, .bool m.yes] (by simp [Act.eval]) rfl (mail_lies (by simp [go_sem]) (by simp [go_sem]) (by simp [go_sem]) (by simp [go_sem]) (by simp [go_sem]) (by simp [go_sem])) mail_cell (by have := HL.out; unfold maxLen; omega) (by have := HL.out; omega) (by simp; omega) (by decide) ?_; intro v8 w8 hown8 hgrow8 hwh8; obtain ⟨ga8, cap8, rfl⟩ := own_slice6 hown8; have HO8 : Hid (w8.ownsRow (p + 1) 71 6 (.slice ga8 (l.length + 1) cap8) (l.length + 1) (flat6 l ++ [.int .i64 m.kind, .int .i64 m.deal, .int .i64 m.shop, .int .i64 m.c, .int .i64 m.d, .bool m.yes])) := hown8; clear hown8; have HW8 : Hid _ := hwh8; clear hwh8; have hk8 : w8.cell? ⟨p, o, none⟩ = some (.slice ga l.length cap) := hgrow8.cell (by simp [go_sem, c0, hp]) HN1.out; have hf8 : ∀ k, w8.frozen? ⟨p, k, none⟩ = false := fun k => (World.frozen?_of_block (hgrow8.block p (by simp; omega) HN1.out)).trans (by simp [go_sem, hf, hp])))
    all_goals
      have hS8 : Save O w w8 := (Save.of_below (by go_grown)).grown hgrow8 (fun k e _ => HSub.out k e)
      have hR8 : Rest p o w w8 := (Rest.below (by go_grown) hp).trans (Rest.grown hgrow8 (by simp; omega) HN1.out)
      have hsz8 : w.heap.size ≤ w8.heap.size := hS8.size
      go_wp2_with fail
      go_ret
      rw [HE.out]
      refine ⟨rfl, sent_store HOwn.out HMine.out hS8 hR8 hf8 hk8 ?_ ?_⟩
      · have e1 : (l ++ [m]).length = l.length + 1 := by simp
        have e2 : flat6 (l ++ [m]) = flat6 l ++ [.int .i64 m.kind, .int .i64 m.deal, .int .i64 m.shop, .int .i64 m.c, .int .i64 m.d, .bool m.yes] := flat6_snoc _ _
        show World.ownsRow _ _ _ _ _ (l ++ [m]).length (flat6 (l ++ [m]))
        rw [e1, e2]
        exact HO8.out
      · intro k hk
        rcases HW8.out k hk with h1 | h1
        · exact .inl (HSub.out k h1)
        · right
          simp at h1
          omega

theorem rnd_wrap (n : Int) (k : Nat) (hk : 0 < k) (hb : k < 1000) : wrap64 ((IntKind.u64.wrap n).tmod (k : Int)) = (rnd n k : Int) := by
  have h0 : 0 ≤ IntKind.u64.wrap n := by rw [IntKind.wrap_u64]; omega
  have h1 : (IntKind.u64.wrap n).tmod (k : Int) = IntKind.u64.wrap n % (k : Int) := Int.tmod_eq_emod_of_nonneg h0
  have h2 : 0 ≤ IntKind.u64.wrap n % (k : Int) := Int.emod_nonneg _ (by omega)
  have h3 : IntKind.u64.wrap n % (k : Int) < (k : Int) := Int.emod_lt_of_pos _ (by omega)
  rw [h1]
  have h4 : wrap64 (IntKind.u64.wrap n % (k : Int)) = IntKind.u64.wrap n % (k : Int) := by unfold wrap64; omega
  rw [h4]
  unfold rnd
  rw [Int.natCast_emod, Int.toNat_of_nonneg (by omega), IntKind.wrap_u64]

theorem ret_two {k : IntKind} {a b : Int} {v : Value} (h : a = b) : Ending.returned (.tuple #[.int k a, v]) = .returned (.tuple #[.int k b, v]) := by rw [h]
set_option maxHeartbeats 1000000 in
theorem pplace_any (O : Nat → Prop) (l : List Ml) (p o : Nat) (n : Int) (w : World) (h : MailIn O w p o l) (hl : l.length < 1000) (hne : l ≠ []) :
    Calls Try.prog 69 #[.pointer (some ⟨p, o, none⟩), .int .i64 n] w fun e w' => e = .returned (.tuple #[.int .i64 (rnd n l.length : Int), .bool true]) ∧ Below w.heap.size w w' := by
  obtain ⟨mv, c0, hrow, _⟩ := h.raw
  obtain ⟨ga, cap, rfl⟩ := own_slice6 hrow
  have hpos : 0 < l.length := List.length_pos_iff.2 hne
  clear h hrow hne
  have hk : (0 : Int) < (l.length : Int) := by omega
  have hk1 : (l.length : Int) < 1000 := by omega
  have hk2 : ((l.length : Int) == 0) = false := by rw [beq_eq_false_iff_ne]; omega
  have HR : Hid _ := rnd_wrap n l.length hpos hl
  generalize l.length = len at *
  clear hpos hl
  go_enter Try.func69, Try.ntmps69
  go_wp2_with fail
  go_ret2
  exact ⟨ret_two HR.out, Below.refl _ _⟩

set_option maxHeartbeats 4000000 in
set_option maxRecDepth 100000 in
theorem gsend_any (O : Nat → Prop) (l : List Ml) (p o : Nat) (m : Ml) (w : World) (h : MailIn O w p o l) (hl : l.length < 1000) :
    Calls Try.prog 33 #[.pointer (some ⟨p, o, none⟩), .agg #[.int .i64 m.kind, .int .i64 m.deal, .int .i64 m.shop, .int .i64 m.c, .int .i64 m.d, .bool m.yes]] w fun e w' => e = .returned (.bool (sendR l m).1) ∧ Sent O w w' p o (sendR l m).2 := by
  obtain ⟨i0, hi, hz0, hz1, hz2⟩ := info_parts infoMail
  obtain ⟨mv, c0, hrow, hsub⟩ := h.raw
  have HOwn : Hid (∀ k, O k → k < w.heap.size) := h.own
  have HMine : Hid (O p) := h.mine
  have HIn : Hid (MailIn O w p o l) := h
  have hp := h.lt
  have hf := h.loose
  have HRow : Hid (w.ownsRow (p + 1) 71 6 mv l.length (flat6 l)) := hrow
  have HSub : Hid (∀ k, mv.ownBlock = some k → O k) := hsub
  have HN1 : Hid (some p ≠ mv.ownBlock) := fun e => by have := (HRow.out.lt p e.symm).1; omega
  have HN2 : Hid (some w.heap.size ≠ mv.ownBlock) := fun e => by have := HOwn.out _ (HSub.out _ e.symm); omega
  have HL : Hid (l.length < 1000) := hl
  obtain ⟨ga, cap, rfl⟩ := own_slice6 hrow
  clear h hrow hsub hl
  by_cases hfull : 40 ≤ l.length
  · have hfull' : (40 : Int) ≤ (l.length : Int) := by omega
    have HE : Hid _ := sendR_full (m := m) hfull
    clear hfull
    go_enter Try.func33, Try.ntmps33
    go_wp2_with fail
    go_ret
    rw [HE.out]
    exact ⟨rfl, Sent.stay HIn.out (by go_grown)⟩
  · have hfull' : ¬ (40 : Int) ≤ (l.length : Int) := by omega
    have HE : Hid _ := sendR_room (m := m) hfull
    clear hfull
    go_enter Try.func33, Try.ntmps33
    go_upto_region 3 with fail
    have x0 : (w.alloc (.cells #[.int .i64 m.kind, .int .i64 m.deal, .int .i64 m.shop, .int .i64 m.c, .int .i64 m.d, .bool m.yes] 71)).cell? ⟨p, o, none⟩ = some (.slice ga l.length cap) := by simp [go_sem, c0, hp]
    go_region_law
      (first | (refine step_append_two (by rfl) (.tmp 13) (.tmp 15) 67 (by rfl) (p + 1) 71 i0 (.agg #[.int .i64 0, .int .i64 0, .int .i64 0, .int .i64 0, .int .i64 0, .bool false]) 6 48 Try.underlying67 hi hz0 hz1 hz2 rfl (by decide) (.slice ga l.length cap) _ _ (by simp [Act.eval]) (own_next HRow.out (by go_grown)) ⟨w.heap.size + 1, 0, none⟩ 1 1 [.int .i64 m.kind, .int .i64 m.deal, .int .i64 m.shop, .int .i64 m.c, .int .i64 m.d, .bool m.yes] (by simp [Act.eval]) rfl (mail_lies (by simp [go_sem]) (by simp [go_sem]) (by simp [go_sem]) (by simp [go_sem]) (by simp [go_sem]) (by simp [go_sem])) mail_cell (by have := HL.out; unfold maxLen; omega) (by have := HL.out; omega) (by simp; omega) (by decide) ?_; intro v8 w8 hown8 hgrow8 hwh8; obtain ⟨ga8, cap8, rfl⟩ := own_slice6 hown8; have HO8 : Hid (w8.ownsRow (p + 1) 71 6 (.slice ga8 (l.length + 1) cap8) (l.length + 1) (flat6 l ++ [.int .i64 m.kind, .int .i64 m.deal, .int .i64 m.shop, .int .i64 m.c, .int .i64 m.d, .bool m.yes])) := hown8; clear hown8; have HW8 : Hid _ := hwh8; clear hwh8; have hk8 : w8.cell? ⟨p, o, none⟩ = some (.slice ga l.length cap) := hgrow8.cell (by simp [go_sem, c0, hp]) HN1.out; have hf8 : ∀ k, w8.frozen? ⟨p, k, none⟩ = false := fun k => (World.frozen?_of_block (hgrow8.block p (by simp; omega) HN1.out)).trans (by simp [go_sem, hf, hp])))
    all_goals
      have hS8 : Save O w w8 := (Save.of_below (by go_grown)).grown hgrow8 (fun k e _ => HSub.out k e)
      have hR8 : Rest p o w w8 := (Rest.below (by go_grown) hp).trans (Rest.grown hgrow8 (by simp; omega) HN1.out)
      have hsz8 : w.heap.size ≤ w8.heap.size := hS8.size
      go_wp2_with fail
      go_ret
      rw [HE.out]
      refine ⟨rfl, sent_store HOwn.out HMine.out hS8 hR8 hf8 hk8 ?_ ?_⟩
      · have e1 : (l ++ [m]).length = l.length + 1 := by simp
        have e2 : flat6 (l ++ [m]) = flat6 l ++ [.int .i64 m.kind, .int .i64 m.deal, .int .i64 m.shop, .int .i64 m.c, .int .i64 m.d, .bool m.yes] := flat6_snoc _ _
        show World.ownsRow _ _ _ _ _ (l ++ [m]).length (flat6 (l ++ [m]))
        rw [e1, e2]
        exact HO8.out
      · intro k hk
        rcases HW8.out k hk with h1 | h1
        · exact .inl (HSub.out k h1)
        · right
          simp at h1
          omega

set_option maxHeartbeats 1000000 in
theorem gat_any (O : Nat → Prop) (l : List Ml) (p o : Nat) (n : Int) (w : World) (h : MailIn O w p o l) (hl : l.length < 1000) (hne : l ≠ []) :
    Calls Try.prog 71 #[.pointer (some ⟨p, o, none⟩), .int .i64 n] w fun e w' => e = .returned (.int .i64 (rnd n l.length : Int)) ∧ Below w.heap.size w w' := by
  obtain ⟨mv, c0, hrow, _⟩ := h.raw
  obtain ⟨ga, cap, rfl⟩ := own_slice6 hrow
  have hpos : 0 < l.length := List.length_pos_iff.2 hne
  clear h hrow hne
  have hk : (0 : Int) < (l.length : Int) := by omega
  have hk1 : (l.length : Int) < 1000 := by omega
  have HR : Hid _ := rnd_wrap n l.length hpos hl
  generalize l.length = len at *
  clear hpos hl
  go_enter Try.func71, Try.ntmps71
  go_wp2_with fail
  go_ret
  exact ⟨ret_int HR.out, Below.refl _ _⟩

end Go.Proofs.Ytbgnajcmhmpjlab

/- The contracts of greatBroker and of brokerStep. -/
namespace Go.Proofs.Ytbgnajcmhmpjlab
open Go.RowKit

/-- A step, cell by cell; v: the head of its wants' row. -/
def bcells (x : BSp) (v : Value) : List Value := [.int .i64 x.what, .int .i64 x.n, v, .int .i64 x.m.kind, .int .i64 x.m.deal, .int .i64 x.m.shop, .int .i64 x.m.c, .int .i64 x.m.d, .bool x.m.yes, .bool x.yes]
/-- A list of steps as memory holds it. -/
def BStAt (w : World) (la : Option Addr) (l : List BSp) : Prop := ∀ k x, l[k]? = some x → ∃ b off sa sc, la = some ⟨b, off, none⟩ ∧ b < w.heap.size ∧ WantsAt w sa x.w ∧ ∀ j v, (bcells x (.slice sa x.w.length sc))[j]? = some v → w.cell? ⟨b, off + k * 10 + j, none⟩ = some v

def GreatIs (e : Ending) (ll : Nat) : Prop := ∃ g, e = .returned (.bool g) ∧ (g = false → ll ≤ 150)
set_option maxHeartbeats 1000000 in
theorem great_any (la : Option Addr) (ll lc : Nat) (l : List BSp) (w : World) (hl : BStAt w la l) (hll : l.length = ll) :
    Calls Try.prog 46 #[.slice la ll lc] w fun e w' => GreatIs e ll ∧ w' = w := by
  go_enter Try.func46, Try.ntmps46
  go_wp2_with fail
  go_loopg [3] 200 (fun gg s3 wr => ∃ k : Nat, k ≤ 200 ∧ gg = 200 - k ∧ s3 = .int .i64 k ∧ w = wr)
  case atStart => exact ⟨0, Nat.zero_le _, rfl, rfl, rfl⟩
  case round =>
    obtain ⟨k, hk, rfl, rfl, rfl⟩ := hrel
    by_cases hlt : k < ll
    · have j1 : (k : Int) < (ll : Int) := by omega
      by_cases h2 : k < 200
      · have j2 : (k : Int) < 200 := by omega
        obtain ⟨x, hx⟩ : ∃ x, l[k]? = some x := ⟨_, List.getElem?_eq_getElem (by omega)⟩
        obtain ⟨b, off, sa, sc, rfl, hb, _, hc⟩ := hl k x hx
        have p2 : w.cell? ⟨b, off + k * 10 + 2, none⟩ = some (.slice sa x.w.length sc) := hc 2 _ rfl
        have j0 : (0 : Int) ≤ (k : Int) := by omega
        clear hl hc
        by_cases h50 : 50 < x.w.length
        · have h50' : (50 : Int) < (x.w.length : Int) := by omega
          clear h50
          go_wp2_with fail
          go_ret
          exact ⟨⟨true, rfl, fun q => (nomatch q)⟩, rfl⟩
        · have h50' : ¬ (50 : Int) < (x.w.length : Int) := by omega
          clear h50
          go_wp2_with fail
          go_roundg (200 - (k + 1))
          case measure => omega
          case rel => exact ⟨k + 1, by omega, rfl, by simp, rfl⟩
      · have j2 : ¬ (k : Int) < 200 := by omega
        have j3 : (150 : Int) < (ll : Int) := by omega
        go_wp2_with fail
        go_ret
        exact ⟨⟨true, rfl, fun q => (nomatch q)⟩, rfl⟩
    · have j1 : ¬ (k : Int) < (ll : Int) := by omega
      by_cases h3 : 150 < ll
      · have j3 : (150 : Int) < (ll : Int) := by omega
        clear h3
        go_wp2_with fail
        go_ret
        exact ⟨⟨true, rfl, fun q => (nomatch q)⟩, rfl⟩
      · have j3 : ¬ (150 : Int) < (ll : Int) := by omega
        have H3 : Hid (ll ≤ 150) := Nat.le_of_not_lt h3
        clear h3
        go_wp2_with fail
        go_ret
        exact ⟨⟨_, rfl, fun _ => H3.out⟩, rfl⟩

/-- What a step of both leaves. -/
def Stepped (w0 : World) (Z : Nat → Prop) (w w' : World) (q p : Nat) (B : Bok) (x : BSp) : Prop := RQ w0 Z w' q p (bstepR B x) (bstepR B x) ∧ Save (fun k => ¬ Z k) w w'
theorem stepped_of {w0 w W w' : World} {Z : Nat → Prop} {b q p : Nat} {B C : Bok} {x : BSp} (he : bstepR B x = C) (h : RQ w0 (fun k => k = b ∨ Z k) w' q p C C) (hb : Below w.heap.size w W) (hs : Save (fun k => ¬ (k = b ∨ Z k)) W w') : Stepped w0 Z w w' q p B x := by
  unfold Stepped
  rw [he]
  exact ⟨h.less (fun k hk => .inr hk), (Save.of_below hb).trans hs (fun j _ hj hz => hj (.inr hz))⟩
theorem MBx.set {w : World} {b : Nat} {m : Ml} (h : MBx w b m) (k : Int) : MBx (w.setCell ⟨b, 0, none⟩ (.int .i64 k)) b { m with kind := k } :=
  ⟨by simpa using h.lt, cell_set_same h.c0, (cell_set_off (by decide)).trans h.c1, (cell_set_off (by decide)).trans h.c2, (cell_set_off (by decide)).trans h.c3, (cell_set_off (by decide)).trans h.c4, (cell_set_off (by decide)).trans h.c5⟩
theorem MBx.setY {w : World} {b : Nat} {m : Ml} (h : MBx w b m) (y : Bool) : MBx (w.setCell ⟨b, 5, none⟩ (.bool y)) b { m with yes := y } :=
  ⟨by simpa using h.lt, (cell_set_off (by decide)).trans h.c0, (cell_set_off (by decide)).trans h.c1, (cell_set_off (by decide)).trans h.c2, (cell_set_off (by decide)).trans h.c3, (cell_set_off (by decide)).trans h.c4, cell_set_same h.c5⟩
theorem ansM_ask {m : Ml} {y : Bool} (h : m.kind = 1) : ansM m y = { { m with kind := 2 } with yes := y } := by unfold ansM; rw [if_pos h]
theorem ansM_end {m : Ml} {y : Bool} (h : m.kind ≠ 1) : ansM m y = { m with kind := 4 } := by unfold ansM; rw [if_neg h]

set_option maxHeartbeats 8000000 in
set_option maxRecDepth 100000 in
theorem bstep_any (w0 : World) (Z : Nat → Prop) (q p : Nat) (B : Bok) (x : BSp) (sa : Option Addr) (sc : Nat) (w : World) (h : RQ w0 Z w q p B B) (hx : WantsAt w0 sa x.w) :
    Calls Try.prog 48 #[.pointer (some ⟨q, 0, none⟩), .pointer (some ⟨p, 0, none⟩), .agg #[.int .i64 x.what, .int .i64 x.n, .slice sa x.w.length sc, .int .i64 x.m.kind, .int .i64 x.m.deal, .int .i64 x.m.shop, .int .i64 x.m.c, .int .i64 x.m.d, .bool x.m.yes, .bool x.yes]] w fun e w' => e = .returned (.bool true) ∧ Stepped w0 Z w w' q p B x := by
  have HX : Hid (WantsAt w0 sa x.w) := hx
  clear hx
  go_enter Try.func48, Try.ntmps48
  go_upto_region 1 with fail
  have hY := BoxAt.new w (bcells x (.slice sa x.w.length sc)) 105
  have hb1 : Below w.heap.size w (w.alloc (.cells (bcells x (.slice sa x.w.length sc)).toArray 105)) := (Below.refl _ _).alloc (Nat.le_refl _) _
  have hQ1 := h.plus (b := w.heap.size) hb1 (Nat.le_refl _) hY.1
  change BoxAt (w.alloc (.cells #[.int .i64 x.what, .int .i64 x.n, .slice sa x.w.length sc, .int .i64 x.m.kind, .int .i64 x.m.deal, .int .i64 x.m.shop, .int .i64 x.m.c, .int .i64 x.m.d, .bool x.m.yes, .bool x.yes] 105)) _ _ at hY
  change Below _ _ (w.alloc (.cells #[.int .i64 x.what, .int .i64 x.n, .slice sa x.w.length sc, .int .i64 x.m.kind, .int .i64 x.m.deal, .int .i64 x.m.shop, .int .i64 x.m.c, .int .i64 x.m.d, .bool x.m.yes, .bool x.yes] 105)) at hb1
  change RQ _ _ (w.alloc (.cells #[.int .i64 x.what, .int .i64 x.n, .slice sa x.w.length sc, .int .i64 x.m.kind, .int .i64 x.m.deal, .int .i64 x.m.shop, .int .i64 x.m.c, .int .i64 x.m.d, .bool x.m.yes, .bool x.yes] 105)) _ _ _ _ at hQ1
  generalize (w.alloc (.cells #[.int .i64 x.what, .int .i64 x.n, .slice sa x.w.length sc, .int .i64 x.m.kind, .int .i64 x.m.deal, .int .i64 x.m.shop, .int .i64 x.m.c, .int .i64 x.m.d, .bool x.m.yes, .bool x.yes] 105)) = w1 at hY hb1 hQ1 ⊢
  generalize w.heap.size = bx at hY hQ1 ⊢
  have HB1 : Hid (Below w.heap.size w w1) := hb1
  have HQ1 : Hid (RQ w0 (fun k => k = bx ∨ Z k) w1 q p B B) := hQ1
  have y0 := hY.2 0 _ rfl
  clear h hb1 hQ1
  by_cases h0 : x.what = 0
  · have h0' : (x.what == 0) = true := by simp [h0]
    have HE : Hid (bstepR B x = (beginR B x.w).2.2) := by show _ = _; unfold bstepR; rw [if_pos h0]
    have y2 := hY.2 2 _ rfl
    have HC : Hid _ := rq_begin (lc := sc) HQ1.out (HX.out.below HQ1.out.below (Nat.le_refl _)) rfl
    clear h0
    go_wp2_with fail
    refine Calls.mono HC.out ?_
    rintro e w2 ⟨rfl, hQ2, hS2⟩
    have hY2 := hY.save hS2 (fun e => e (.inl rfl))
    have y2' := hY2.2 2 _ rfl
    have HC2 : Hid _ := rq_begin' (lc := sc) hQ2 (HX.out.below hQ2.below (Nat.le_refl _)) rfl
    have e1 : ((beginR B x.w).1 == (beginR B x.w).1) = true := by simp
    have e2 : ((beginR B x.w).2.1 == (beginR B x.w).2.1) = true := by simp
    have HS2 : Hid _ := hS2
    clear HC hQ2 hS2 y0 y2
    go_wp2_with fail
    refine Calls.mono HC2.out ?_
    rintro e w3 ⟨rfl, hQ3, hS3⟩
    clear y2' hY2 hY HC2
    go_wp2_with fail
    go_ret
    exact ⟨rfl, stepped_of HE.out hQ3 HB1.out (HS2.out.trans hS3 (fun _ _ z => z))⟩
  have h0' : (x.what == 0) = false := by simpa using h0
  by_cases h1 : x.what = 1
  · have h1' : (x.what == 1) = true := by simp [h1]
    have HE : Hid (bstepR B x = (quitR B x.n).2) := by show _ = _; unfold bstepR; rw [if_neg h0, if_pos h1]
    have y1 := hY.2 1 _ rfl
    have hbl := hY.1
    have HC : Hid (∀ W, Below w1.heap.size w1 W → Calls Try.prog 76 #[.pointer (some ⟨q, 0, none⟩), .int .i64 x.n] W fun e w' => e = .returned (.int .i64 (quitR B x.n).1) ∧ RQ w0 (fun k => k = bx ∨ Z k) w' q p (quitR B x.n).2 B ∧ Save (fun k => ¬ (k = bx ∨ Z k)) W w') := fun W hW => rq_quit x.n (HQ1.out.next hW)
    have HY : Hid (BoxAt w1 bx (bcells x (.slice sa x.w.length sc))) := hY
    have HK : Hid (∀ w', Below w1.heap.size w1 w' → w'.cell? ⟨bx, 1, none⟩ = some (.int .i64 x.n)) := fun w' hb => ((bcell hb).1 _ _ hbl).trans y1
    have e1 : ((quitR B x.n).1 == (quitR B x.n).1) = true := by simp
    clear h0 h1 hY
    go_upto_region 7 with fail
    go_region_held3 (fun w' => w'.cell? ⟨bx, 1, none⟩ = some (.int .i64 x.n))
      (first | exact HK10 | exact HK9 | exact HK.out _ (by go_grown))
      (first | (go_at_call 76; refine Calls.mono (HC.out _ (by go_grown)) ?_; rintro e w9 ⟨rfl, hQ9, hS9⟩; have HQ9 : Hid _ := hQ9; have HS9 : Hid (Save (fun k => ¬ (k = bx ∨ Z k)) w1 w9) := (Save.of_below (by go_grown)).trans hS9 (fun _ _ z => z); have HK9 : w9.cell? ⟨bx, 1, none⟩ = some (.int .i64 x.n) := (HY.out.save HS9.out (fun e => e (.inl rfl))).2 1 _ rfl; clear hQ9 hS9) | (go_at_call 78; refine Calls.mono (rq_quit' x.n HQ9.out) ?_; rintro e w10 ⟨rfl, hQ10, hS10⟩; have HQ10 : Hid _ := hQ10; have HS10 : Hid (Save (fun k => ¬ (k = bx ∨ Z k)) w1 w10) := HS9.out.trans hS10 (fun _ _ z => z); have HK10 : w10.cell? ⟨bx, 1, none⟩ = some (.int .i64 x.n) := (HY.out.save HS10.out (fun e => e (.inl rfl))).2 1 _ rfl; clear hQ10 hS10))
    all_goals
      go_wp2_with fail
      go_ret
      exact ⟨rfl, stepped_of HE.out HQ10.out HB1.out HS10.out⟩
  have h1' : (x.what == 1) = false := by simpa using h1
  by_cases h2 : x.what = 2
  · have h2' : (x.what == 2) = true := by simp [h2]
    have HE : Hid (bstepR B x = hearR B x.m) := by show _ = _; unfold bstepR; rw [if_neg h0, if_neg h1, if_pos h2]
    have y3 := hY.2 3 _ rfl
    have y4 := hY.2 4 _ rfl
    have y5 := hY.2 5 _ rfl
    have y6 := hY.2 6 _ rfl
    have y7 := hY.2 7 _ rfl
    have y8 := hY.2 8 _ rfl
    have HC : Hid _ := rq_hear x.m HQ1.out
    clear h0 h1 h2
    go_wp2_with fail
    refine Calls.mono HC.out ?_
    rintro e w2 ⟨rfl, hQ2, hS2⟩
    have hY2 := hY.save hS2 (fun e => e (.inl rfl))
    have HC2 : Hid _ := rq_hear' x.m hQ2
    have HS2 : Hid _ := hS2
    clear HC hQ2 hS2 y0 y3 y4 y5 y6 y7 y8 hY
    have y3 := hY2.2 3 _ rfl
    have y4 := hY2.2 4 _ rfl
    have y5 := hY2.2 5 _ rfl
    have y6 := hY2.2 6 _ rfl
    have y7 := hY2.2 7 _ rfl
    have y8 := hY2.2 8 _ rfl
    go_wp2_with fail
    refine Calls.mono HC2.out ?_
    rintro e w3 ⟨rfl, hQ3, hS3⟩
    clear HC2 y3 y4 y5 y6 y7 y8 hY2
    go_wp2_with fail
    go_ret
    exact ⟨rfl, stepped_of HE.out hQ3 HB1.out (HS2.out.trans hS3 (fun _ _ z => z))⟩
  have h2' : (x.what == 2) = false := by simpa using h2
  by_cases h3 : x.what = 3
  · have h3' : (x.what == 3) = true := by simp [h3]
    have HE : Hid (bstepR B x = crashR B) := by show _ = _; unfold bstepR; rw [if_neg h0, if_neg h1, if_neg h2, if_pos h3]
    have HC : Hid _ := rq_crash HQ1.out
    clear h0 h1 h2 h3
    go_wp2_with fail
    refine Calls.mono HC.out ?_
    rintro e w2 ⟨rfl, hQ2, hS2⟩
    have HC2 : Hid _ := rq_crash' hQ2
    have HS2 : Hid _ := hS2
    clear HC hQ2 hS2 y0 hY
    go_wp2_with fail
    refine Calls.mono HC2.out ?_
    rintro e w3 ⟨rfl, hQ3, hS3⟩
    clear HC2
    go_wp2_with fail
    go_ret
    exact ⟨rfl, stepped_of HE.out hQ3 HB1.out (HS2.out.trans hS3 (fun _ _ z => z))⟩
  have h3' : (x.what == 3) = false := by simpa using h3
  by_cases h4 : x.what = 4
  · have h4' : (x.what == 4) = true := by simp [h4]
    have HE : Hid (bstepR B x = match (dueR B)[rnd x.n (dueR B).length]? with
        | none => B
        | some m => hearR B (ansM m x.yes)) := by show _ = _; unfold bstepR; rw [if_neg h0, if_neg h1, if_neg h2, if_neg h3, if_pos h4]; all_goals rfl
    have HC : Hid _ := rq_due' HQ1.out
    have HRm : Hid ((dueR B).length ≤ 32) := due_room HQ1.out.invB
    clear h0 h1 h2 h3 h4
    go_wp2_with fail
    refine Calls.mono HC.out ?_
    rintro e w2 ⟨⟨vd, rfl, hrd⟩, hb2⟩
    have hY2 := hY.next hb2
    have HQ2 : Hid _ := HQ1.out.next hb2
    have HB2 : Hid (Below w1.heap.size w1 w2) := hb2
    clear HC y0 hY hb2
    by_cases hz : (dueR B).length = 0
    · obtain ⟨gd, capd, rfl⟩ := own_sl hrd
      have hz' : (((dueR B).length : Int) == 0) = true := by simp [hz]
      have HE2 : Hid (bstepR B x = B) := by
        show _ = _
        rw [HE.out, show (dueR B)[rnd x.n (dueR B).length]? = none from List.getElem?_eq_none (by omega)]
      clear hz hrd
      go_wp2_with fail
      go_ret
      exact ⟨rfl, stepped_of HE2.out HQ2.out HB1.out (.of_below HB2.out)⟩
    · obtain ⟨gd, capd, rfl⟩ := own_any hrd hz
      have hpos : 0 < (dueR B).length := by omega
      have hrl := rnd_lt x.n hpos
      have hrn : wrap64 ((IntKind.u64.wrap x.n).tmod ((dueR B).length : Int)) = (rnd x.n (dueR B).length : Int) := rnd_wrap x.n _ hpos (by have := HRm.out; omega)
      obtain ⟨m, hm⟩ : ∃ m, (dueR B)[rnd x.n (dueR B).length]? = some m := ⟨_, List.getElem?_eq_getElem hrl⟩
      have HE2 : Hid (bstepR B x = hearR B (ansM m x.yes)) := by show _ = _; rw [HE.out, hm]
      obtain ⟨_, _, _, _, hcell⟩ := own_row hrd
      have hfl := flat6_at (dueR B) _ m hm
      have hz' : (((dueR B).length : Int) == 0) = false := by rw [beq_eq_false_iff_ne]; omega
      have k1 : (0 : Int) < ((dueR B).length : Int) := by omega
      have k2 : ((dueR B).length : Int) < 1000 := by have := HRm.out; omega
      generalize rnd x.n (dueR B).length = r at hrl hrn hfl
      have p0 : w2.cell? ⟨gd, r * 6, none⟩ = some (.int .i64 m.kind) := hcell _ _ (hfl 0 _ rfl)
      have p1 : w2.cell? ⟨gd, r * 6 + 1, none⟩ = some (.int .i64 m.deal) := hcell _ _ (hfl 1 _ rfl)
      have p2 : w2.cell? ⟨gd, r * 6 + 2, none⟩ = some (.int .i64 m.shop) := hcell _ _ (hfl 2 _ rfl)
      have p3 : w2.cell? ⟨gd, r * 6 + 3, none⟩ = some (.int .i64 m.c) := hcell _ _ (hfl 3 _ rfl)
      have p4 : w2.cell? ⟨gd, r * 6 + 4, none⟩ = some (.int .i64 m.d) := hcell _ _ (hfl 4 _ rfl)
      have p5 : w2.cell? ⟨gd, r * 6 + 5, none⟩ = some (.bool m.yes) := hcell _ _ (hfl 5 _ rfl)
      have y1 := hY2.2 1 _ rfl
      have r0 : (0 : Int) ≤ (r : Int) := by omega
      have r1 : (r : Int) < ((dueR B).length : Int) := by omega
      clear hz hrd hm hcell hfl hpos hrl
      go_upto_region 19 with fail
      have hb3 : Below w2.heap.size w2 (w2.alloc (.cells #[.int .i64 m.kind, .int .i64 m.deal, .int .i64 m.shop, .int .i64 m.c, .int .i64 m.d, .bool m.yes] 71)) := (Below.refl _ _).alloc (Nat.le_refl _) _
      have hX3 := MBx.new w2 m
      have hf3 : ∀ j, (w2.alloc (.cells #[.int .i64 m.kind, .int .i64 m.deal, .int .i64 m.shop, .int .i64 m.c, .int .i64 m.d, .bool m.yes] 71)).frozen? ⟨w2.heap.size, j, none⟩ = false := by simp [go_sem]
      have hQ3 := HQ2.out.plus (b := w2.heap.size) hb3 (Nat.le_refl _) hX3.lt
      have hY3 := hY2.next hb3
      have HBm : Hid (w1.heap.size ≤ w2.heap.size ∧ w0.heap.size ≤ w2.heap.size ∧ bx < w2.heap.size) := ⟨HB2.out.size, HQ2.out.below.size, hY2.1⟩
      have HB3 : Hid (Below w1.heap.size w1 (w2.alloc (.cells #[.int .i64 m.kind, .int .i64 m.deal, .int .i64 m.shop, .int .i64 m.c, .int .i64 m.d, .bool m.yes] 71))) := after HB2.out hb3 HB2.out.size
      generalize (w2.alloc (.cells #[.int .i64 m.kind, .int .i64 m.deal, .int .i64 m.shop, .int .i64 m.c, .int .i64 m.d, .bool m.yes] 71)) = w3 at hX3 hf3 hQ3 hY3 HB3 ⊢
      generalize w2.heap.size = bm at hX3 hf3 hQ3 HBm ⊢
      clear p0 p1 p2 p3 p4 p5 y1 hY2 hb3 hrn
      have x0 := hX3.c0
      have HTail : Hid (∀ (W : World) (m' : Ml), ansM m x.yes = m' → MBx W bm m' → Save (fun k => k = bm) w3 W → RQ w0 (fun k => k = bm ∨ (k = bx ∨ Z k)) W q p B B ∧ Save (fun k => ¬ (k = bx ∨ Z k)) w1 W) := fun W m' _ hX hS => by
        refine ⟨hQ3.keep hS (fun k hk => ⟨.inl hk, by have := HBm.out; omega⟩), (Save.of_below HB3.out).trans hS (fun j hj hk => ?_)⟩
        have := HBm.out
        omega
      by_cases hk1 : m.kind = 1
      case' pos =>
        have hk1' : (m.kind == 1) = true := by simp [hk1]
        have HA : Hid _ := ansM_ask (y := x.yes) hk1
        have y9 := hY3.2 9 _ rfl
        have x5 := hX3.c5
        have hbb : bx ≠ bm := by have := HBm.out; omega
        have HX4 : Hid (MBx ((w3.setCell ⟨bm, 0, none⟩ (.int .i64 2)).setCell ⟨bm, 5, none⟩ (.bool x.yes)) bm { { m with kind := 2 } with yes := x.yes }) := (hX3.set 2).setY x.yes
        have HS4 : Hid (Save (fun k => k = bm) w3 ((w3.setCell ⟨bm, 0, none⟩ (.int .i64 2)).setCell ⟨bm, 5, none⟩ (.bool x.yes))) := Save.setCell (O := fun k => k = bm) (Save.setCell (O := fun k => k = bm) (Save.refl _ _) (p := ⟨bm, 0, none⟩) (fun _ => rfl) _) (p := ⟨bm, 5, none⟩) (fun _ => rfl) _
        clear hk1 hX3
        go_upto_region 20 with fail
        go_region
        have hb5 : ∀ W : World, Below W.heap.size W W.drew := fun W => (Below.refl _ _).drew
        have HX5 : Hid _ := HX4.out.next (hb5 _)
        have HS5 : Hid _ := HS4.out.next (hb5 _)
        generalize ((w3.setCell ⟨bm, 0, none⟩ (.int .i64 2)).setCell ⟨bm, 5, none⟩ (.bool x.yes)).drew = w5 at HX5 HS5 ⊢
        obtain ⟨m', hm'⟩ : ∃ m', m' = ({ { m with kind := 2 } with yes := x.yes } : Ml) := ⟨_, rfl⟩
        rw [← hm'] at HA HX5
        clear HX4 HS4 hb5 y9 x5 hm'
      case' neg =>
        have hk1' : (m.kind == 1) = false := by simpa using hk1
        have HA : Hid _ := ansM_end (y := x.yes) hk1
        have HX5 : Hid (MBx (w3.setCell ⟨bm, 0, none⟩ (.int .i64 4)) bm { m with kind := 4 }) := hX3.set 4
        have HS5 : Hid (Save (fun k => k = bm) w3 (w3.setCell ⟨bm, 0, none⟩ (.int .i64 4))) := Save.setCell (O := fun k => k = bm) (Save.refl _ _) (p := ⟨bm, 0, none⟩) (fun _ => rfl) _
        clear hk1 hX3
        go_upto_region 22 with fail
        generalize (w3.setCell ⟨bm, 0, none⟩ (.int .i64 4)) = w5 at HX5 HS5 ⊢
        obtain ⟨m', hm'⟩ : ∃ m', m' = ({ m with kind := 4 } : Ml) := ⟨_, rfl⟩
        rw [← hm'] at HA HX5
        clear hm'
      all_goals
        obtain ⟨hQ5, hS5⟩ := HTail.out w5 m' HA.out HX5.out HS5.out
        have HS1 : Hid _ := hS5
        have HC : Hid _ := rq_hear m' hQ5
        obtain ⟨_, z0, z1, z2, z3, z4, z5⟩ := HX5.out
        clear hQ5 hS5 x0 hf3 HTail hY3
        go_wp2_with fail
        refine Calls.mono HC.out ?_
        rintro e w6 ⟨rfl, hQ6, hS6⟩
        have hX6 := HX5.out.save hS6 (fun e => e (.inl rfl))
        have HS6 : Hid (Save (fun k => ¬ (k = bx ∨ Z k)) w1 w6) := HS1.out.trans hS6 (fun _ _ z y => z (.inr y))
        have HC2 : Hid _ := rq_hear' m' hQ6
        clear z0 z1 z2 z3 z4 z5 HC hS6 hQ6
        obtain ⟨_, z0, z1, z2, z3, z4, z5⟩ := hX6
        go_wp2_with fail
        refine Calls.mono HC2.out ?_
        rintro e w7 ⟨rfl, hQ7, hS7⟩
        clear z0 z1 z2 z3 z4 z5 HC2
        have HT : Hid (Stepped w0 Z w w7 q p B x) := stepped_of (HE2.out.trans (by rw [HA.out])) (hQ7.less (fun k hk => .inr hk)) HB1.out (HS6.out.trans hS7 (fun _ _ z y => z (.inr y)))
        clear hQ7 hS7
        go_wp2_with fail
        go_ret
        exact ⟨rfl, HT.out⟩
  · have h4' : (x.what == 4) = false := by simpa using h4
    have HE : Hid (bstepR B x = B) := by show _ = _; unfold bstepR; rw [if_neg h0, if_neg h1, if_neg h2, if_neg h3, if_neg h4]
    clear h0 h1 h2 h3 h4
    go_wp2_with fail
    go_ret
    exact ⟨rfl, stepped_of HE.out HQ1.out HB1.out (Save.refl _ _)⟩

end Go.Proofs.Ytbgnajcmhmpjlab

namespace Go.Proofs.Ytbgnajcmhmpjlab
open Go.ChangeShapes Go.WideShapes Go.ChangeAt Go.RowKit Go.Deep

theorem Try.cellsBStepP : Try.prog.cellsOf 105 = 10 := by kernel_rfl
theorem Try.cellsWantsP : Try.prog.cellsOf 103 = 1 := by kernel_rfl

set_option maxRecDepth 20000 in
theorem open_bstep {H : Type} {enc : TypeId × Value → H} {W : World} {held : Bool} {fuel : Nat} {cs : List Value} {x : DataW H × List MemPlace} (hlen : cs.length = 10) (h : DataW.trod enc Try.prog W 0 (fun _ => true) held fuel 105 cs = some x) : ∃ (s : BSp) (sa : Option Addr) (sc : Nat), cs = bcells s (.slice sa s.w.length sc) ∧ WantsAt W sa s.w := by
  obtain ⟨xs, k, hk, hxy, _, hxl, hf⟩ := DataW.trod_struct Try.underlying105 h
  match xs, hxl, cs, hlen with
  | [z0, z1, z2, z3, z4], _, [v0, v1, v2, v3, v4, v5, v6, v7, v8, v9], _ =>
    have f0 := hf 0 _ rfl
    have f1 := hf 1 _ rfl
    have f2 := hf 2 _ rfl
    have f3 := hf 3 _ rfl
    have f4 := hf 4 _ rfl
    simp [Try.cellsIntP, Try.cellsMailP, Try.cellsWantsP, Try.cellsBoolQ] at f0 f1 f2 f3 f4
    obtain ⟨a0, e0, _⟩ := DataW.trod_int Try.underlying3 f0
    obtain ⟨a1, e1, _⟩ := DataW.trod_int Try.underlying3 f1
    obtain ⟨sa, n, sc, w, e2, hw, hn⟩ := open_wants_in f2
    obtain ⟨m, e3⟩ := open_mail rfl f3
    obtain ⟨a4, e4, _⟩ := DataW.trod_bool Try.underlying4 f4
    simp [Ml.cells] at e0 e1 e3 e4
    obtain ⟨q0, q1, q2, q3, q4, q5⟩ := e3
    subst hn
    exact ⟨⟨a0, a1, w, m, a4⟩, sa, sc, by rw [e0, e1, e2, q0, q1, q2, q3, q4, q5, e4]; rfl, hw⟩

theorem open_bsteps {H : Type} {enc : TypeId × Value → H} {W : World} {held : Bool} {a : Option Addr} {l c : Nat} {d : DataW H} {ps : List MemPlace} (hd : DataW.Trod enc Try.prog W 0 (fun _ => true) held 94 (.slice a l c) d ps) :
    ∃ m : List BSp, BStAt W a m ∧ m.length = l := by
  obtain ⟨fuel, hf⟩ := hd
  rcases open_slice Try.underlying94 hf with ⟨hcs, _⟩ | ⟨x, l', c', m, n, D, Pl, hcs, _, hl, hm, hz, _, hx⟩
  · simp [Value.cells] at hcs
    obtain ⟨rfl, rfl, rfl⟩ := hcs
    exact ⟨[], by intro k x h; simp at h, rfl⟩
  · simp [Value.cells] at hcs
    obtain ⟨rfl, rfl, rfl⟩ := hcs
    simp only [if_true] at hz
    have each : ∀ k, k < l → ∃ q : BSp × Option Addr × Nat, WantsAt W q.2.1 q.1.w ∧ ∀ j v, (bcells q.1 (.slice q.2.1 q.1.w.length q.2.2))[j]? = some v → W.cell? (x.add (k * 10 + j)) = some v := by
      intro k hk
      obtain ⟨cs, h1, h2⟩ := hx k (by omega)
      rw [Try.cellsBStepP] at h1
      obtain ⟨_, hlen, hcell⟩ := World.cells?_some h1
      obtain ⟨s, sa, sc, rfl, hw⟩ := open_bstep hlen h2
      refine ⟨(s, sa, sc), hw, fun j v hj => ?_⟩
      have hj' := (List.getElem?_eq_some_iff.1 hj).1
      have q := hcell j (by simpa [bcells] using hj')
      rw [add_add] at q
      rw [q]
      exact hj
    haveI : Inhabited (BSp × Option Addr × Nat) := ⟨(⟨0, 0, [], ⟨0, 0, 0, 0, 0, false⟩, false⟩, none, 0)⟩
    obtain ⟨q, hq⟩ := choose_lt each
    refine ⟨(List.range l).map (fun k => (q k).1), ?_, by simp⟩
    intro k s hk
    have hk' : k < l := by have := (List.getElem?_eq_some_iff.1 hk).1; simpa using this
    have eq : (q k).1 = s := by
      rw [List.getElem?_map, List.getElem?_range hk'] at hk
      simpa using hk
    have h00 := (hq 0 (by omega)).2 0 _ rfl
    obtain ⟨bb, off, spot⟩ := x
    have hspot : spot = none := by simpa [Addr.add] using World.cell?_spot h00
    subst hspot
    rw [add_plain] at h00
    subst eq
    refine ⟨bb, off, (q k).2.1, (q k).2.2, rfl, World.block_lt_of_cell? W _ h00, (hq k hk').1, fun j v hj => ?_⟩
    have := (hq k hk').2 j v hj
    rw [add_plain] at this
    rw [Nat.add_assoc]; exact this

end Go.Proofs.Ytbgnajcmhmpjlab
