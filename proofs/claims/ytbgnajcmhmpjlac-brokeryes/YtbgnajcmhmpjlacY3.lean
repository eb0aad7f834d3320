/- For every list of wants, every list of numbers and every list of truth values: the statement BrokerYes of the program returns true, and its arguments read as before (no condition). -/
import Derived.Test.YtbgnajcmhmpjlacRows
import Derived.ProofKit
import Derived.OpenShut
import Derived.Deep.Slices
import Derived.Deep.SlicePairs
import Derived.Deep.RegionLaw
import Derived.Deep.DeepCutAuto
import Derived.Test.YtbgnajcmhmpjlacY2

/- How a list of wants and a world come in as arguments. -/
namespace Go.Proofs.Ytbgnajcmhmpjlac
open Go.ChangeShapes Go.WideShapes Go.ChangeAt Go.RowKit Go.Deep

theorem Try.cellsIntP : Try.prog.cellsOf 3 = 1 := by kernel_rfl
theorem Try.cellsWantP : Try.prog.cellsOf 35 = 2 := by kernel_rfl
theorem Try.cellsWorldP : Try.prog.cellsOf 42 = 6 := by kernel_rfl

set_option maxRecDepth 20000 in
theorem open_world {H : Type} {enc : TypeId × Value → H} {W : World} {b : Nat} {sp : Nat → Bool} {held : Bool} {r : Reach} {b0 : Nat} {v : Value} {d : DataW H} {ps : List MemPlace} (hval : Value.okWide Try.prog W r b0 42 v) (hd : DataW.Trod enc Try.prog W b sp held 42 v d ps) :
    ∃ ws : Nat → Int, v = .agg #[.int .i64 (ws 0), .int .i64 (ws 1), .int .i64 (ws 2), .int .i64 (ws 3), .int .i64 (ws 4), .int .i64 (ws 5)] := by
  simp only [Value.okWide, Try.underlying42] at hval
  obtain ⟨cs, rfl, h2, _⟩ := hval
  rw [Try.cellsWorldP] at h2
  obtain ⟨fuel, hf⟩ := hd
  obtain ⟨xs, m, rfl, _, _, hl, hi⟩ := DataW.trod_array Try.underlying42 hf
  simp only [Value.cells, Try.cellsIntP, Nat.mul_one] at hi
  obtain ⟨l⟩ := cs
  match l, h2 with
  | [v0, v1, v2, v3, v4, v5], _ =>
    have each : ∀ i (v : Value), i < 6 → [v0, v1, v2, v3, v4, v5][i]? = some v → ∃ a : Int, v = .int .i64 a := by
      intro i v hlt hv
      have q := hi i hlt
      rw [List.getElem?_eq_getElem (by omega)] at q
      have e1 : (([v0, v1, v2, v3, v4, v5] : List Value).drop i).take 1 = [v] := by
        have := drop_cons hv
        rw [this]; rfl
      simp only [e1] at q
      obtain ⟨a, ea, _⟩ := DataW.trod_int Try.underlying3 q
      simp at ea
      exact ⟨a, ea⟩
    obtain ⟨a0, rfl⟩ := each 0 v0 (by omega) rfl
    obtain ⟨a1, rfl⟩ := each 1 v1 (by omega) rfl
    obtain ⟨a2, rfl⟩ := each 2 v2 (by omega) rfl
    obtain ⟨a3, rfl⟩ := each 3 v3 (by omega) rfl
    obtain ⟨a4, rfl⟩ := each 4 v4 (by omega) rfl
    obtain ⟨a5, rfl⟩ := each 5 v5 (by omega) rfl
    exact ⟨fun i => [a0, a1, a2, a3, a4, a5].getD i 0, rfl⟩

theorem open_wants {H : Type} {enc : TypeId × Value → H} {W : World} {held : Bool} {a : Option Addr} {l c : Nat} {d : DataW H} {ps : List MemPlace} (hd : DataW.Trod enc Try.prog W 0 (fun _ => true) held 22 (.slice a l c) d ps) :
    ∃ m : List (Int × Int), WantsAt W a m ∧ m.length = l := by
  obtain ⟨fuel, hf⟩ := hd
  rcases open_slice_pairs Try.underlying22 Try.underlying35 Try.cellsWantP rfl rfl Try.cellsIntP Try.cellsIntP hf with ⟨hcs, _⟩ | ⟨x, l', c', m, n, V0, V1, D0, D1, P0, P1, hcs, _, hl, hm, hz, hx, hcell⟩
  · simp [Value.cells] at hcs
    obtain ⟨rfl, rfl, rfl⟩ := hcs
    exact ⟨[], by intro k c d h; simp at h, rfl⟩
  · simp [Value.cells] at hcs
    obtain ⟨rfl, rfl, rfl⟩ := hcs
    simp only [if_true] at hz
    have each : ∀ k, k < l → ∃ q : Int × Int, V0 k = .int .i64 q.1 ∧ V1 k = .int .i64 q.2 := by
      intro k hk
      obtain ⟨_, _, t0, t1⟩ := hcell k (by omega)
      obtain ⟨a0, e0, _⟩ := DataW.trod_int Try.underlying3 t0
      obtain ⟨a1, e1, _⟩ := DataW.trod_int Try.underlying3 t1
      simp at e0 e1
      exact ⟨(a0, a1), e0, e1⟩
    obtain ⟨q, hq⟩ := choose_lt each
    refine ⟨(List.range l).map q, ?_, by simp⟩
    intro k c d hk
    have hk' : k < l := by have := (List.getElem?_eq_some_iff.1 hk).1; simpa using this
    have eq : q k = (c, d) := by
      rw [List.getElem?_map, List.getElem?_range hk'] at hk
      simpa using hk
    obtain ⟨t0, t1, _, _⟩ := hcell k (by omega)
    have h00 := (hcell 0 (by omega)).1
    rw [(hq k hk').1, eq] at t0
    rw [(hq k hk').2, eq] at t1
    obtain ⟨bb, off, spot⟩ := x
    have hspot : spot = none := by simpa [Addr.add] using World.cell?_spot h00
    subst hspot
    rw [add_plain] at t0 t1
    exact ⟨bb, off, rfl, World.block_lt_of_cell? W _ t0, t0, by rw [Nat.add_assoc]; exact t1⟩

end Go.Proofs.Ytbgnajcmhmpjlac

/- The contracts of post.New, Len and List. -/
namespace Go.Proofs.Ytbgnajcmhmpjlac
open Go.RowKit

theorem pnew_any (w : World) : Calls Try.prog 47 #[] w fun e w' => (∃ p O, e = .returned (.pointer (some ⟨p, 0, none⟩)) ∧ MailIn O w' p 0 [] ∧ ∀ k, O k → w.heap.size ≤ k) ∧ Below w.heap.size w w' := by
  go_enter Try.func47, Try.ntmps47
  go_wp2_with fail
  go_ret
  refine ⟨⟨w.heap.size, fun k => k = w.heap.size, rfl, ⟨fun k hk => by rw [hk]; simp, rfl, by simp [go_sem], .slice none 0 0, by simp [go_sem], World.ownsRow_nil _ _ _ _, fun k e => by simp [Value.ownBlock] at e⟩, fun k hk => by rw [hk]; exact Nat.le_refl _⟩, by go_grown⟩
theorem plen_any (O : Nat → Prop) (l : List Ml) (p o : Nat) (w : World) (h : MailIn O w p o l) : Calls Try.prog 69 #[.pointer (some ⟨p, o, none⟩)] w fun e w' => e = .returned (.int .i64 (l.length : Int)) ∧ Below w.heap.size w w' := by
  obtain ⟨mv, c0, hrow, _⟩ := h.raw
  obtain ⟨ga, cap, rfl, _, _⟩ := mails_of_own hrow
  clear h hrow
  go_enter Try.func69, Try.ntmps69
  go_wp2_with fail
  go_ret
  exact ⟨rfl, Below.refl _ _⟩
set_option maxHeartbeats 1000000 in
theorem plist_own (O : Nat → Prop) (l : List Ml) (p o : Nat) (w : World) (h : MailIn O w p o l) (hlen : l.length < 1000) :
    Calls Try.prog 58 #[.pointer (some ⟨p, o, none⟩)] w fun e w' => (∃ v, e = .returned v ∧ w'.ownsRow w.heap.size 37 6 v l.length (flat6 l)) ∧ Below w.heap.size w w' := by
  obtain ⟨i0, hi, hz0, hz1, hz2⟩ := info_parts infoMail
  obtain ⟨mv, g0, hrow, _⟩ := h.raw
  have HRow : Hid (w.ownsRow (p + 1) 37 6 mv l.length (flat6 l)) := hrow
  have HLen : Hid (l.length < 1000) := hlen
  clear h hrow hlen
  rcases HRow.out.2 with ⟨rfl, e0⟩ | ⟨g, cap, cur, rfl, _⟩
  · have : l = [] := List.length_eq_zero_iff.1 e0
    subst this
    clear HRow e0
    go_enter Try.func58, Try.ntmps58
    go_wp2_with fail
    go_ret
    exact ⟨⟨.slice none 0 0, rfl, World.ownsRow_nil _ _ _ _⟩, Below.refl _ _⟩
  · obtain ⟨_, _, _, _, hcell⟩ := own_row HRow.out
    have HC : Hid _ := hcell
    clear hcell
    have HL : Hid _ := flat6_length l
    go_enter Try.func58, Try.ntmps58
    go_wp2_with (at_builtin; refine wpList_append_own _ rfl (.const (.slice none 0 0)) (.tmp 6) 50 rfl w.heap.size 37 i0 (.agg #[.int .i64 0, .int .i64 0, .int .i64 0, .int .i64 0, .int .i64 0, .bool false]) 6 48 Try.underlying50 hi hz0 hz1 hz2 rfl (by decide) (.slice none 0 0) 0 [] rfl (World.ownsRow_nil _ _ _ _) ⟨g, 0, none⟩ l.length cap (flat6 l) rfl HL.out (fun j u hj => by rw [addr_add]; exact HC.out j u hj) (flat6_one l) (by have := HLen.out; unfold maxLen; omega) (by have := HLen.out; omega) (Nat.le_refl _) ?_; intro v7 w7 hown7 hgrow7 _)
    have hown8 : w7.ownsRow w.heap.size 37 6 v7 l.length (flat6 l) := by simpa using hown7
    go_ret
    exact ⟨⟨v7, rfl, hown8⟩, (Below.refl _ _).grown hgrow7 (Nat.le_refl _) (fun k e => by simp [Value.ownBlock] at e)⟩
theorem plist_any (O : Nat → Prop) (l : List Ml) (p o : Nat) (w : World) (h : MailIn O w p o l) (hlen : l.length < 1000) :
    Calls Try.prog 58 #[.pointer (some ⟨p, o, none⟩)] w fun e w' => (∃ ga cap, e = .returned (.slice ga l.length cap) ∧ MailsAt w' ga l ∧ (∀ a, ga = some a → w.heap.size ≤ a.block ∧ a.block < w'.heap.size) ∧ l.length ≤ cap) ∧ Below w.heap.size w w' := by
  refine (plist_own O l p o w h hlen).mono ?_
  rintro e w' ⟨⟨v, rfl, hown⟩, hb⟩
  obtain ⟨ga, cap, rfl, hA, _⟩ := mails_of_own hown
  refine ⟨⟨ga, cap, rfl, hA, fun a e => ?_, own_cap hown⟩, hb⟩
  subst e
  exact hown.lt a.block rfl

end Go.Proofs.Ytbgnajcmhmpjlac

/- The contracts of a post's Send and place, and of the bag's. -/
namespace Go.Proofs.Ytbgnajcmhmpjlac
open Go.RowKit

theorem sendR_full {l : List Ml} {m : Ml} (h : 40 ≤ l.length) : sendR l m = (false, l) := by unfold sendR; rw [if_pos h]
theorem sendR_room {l : List Ml} {m : Ml} (h : ¬ 40 ≤ l.length) : sendR l m = (true, l ++ [m]) := by unfold sendR; rw [if_neg h]
theorem own_slice6 {w : World} {B e s n : Nat} {v : Value} {xs : List Value} (h : w.ownsRow B e s v n xs) : ∃ ga cap, v = .slice ga n cap := by
  rcases h.2 with ⟨e1, e0⟩ | ⟨g, cap, cur, e1, _⟩
  · exact ⟨none, 0, by rw [e1, e0]⟩
  · exact ⟨_, cap, e1⟩

set_option maxHeartbeats 4000000 in
set_option maxRecDepth 100000 in
theorem psend_any (O : Nat → Prop) (l : List Ml) (p o : Nat) (m : Ml) (w : World) (h : MailIn O w p o l) (hl : l.length < 1000) :
    Calls Try.prog 66 #[.pointer (some ⟨p, o, none⟩), .agg #[.int .i64 m.kind, .int .i64 m.deal, .int .i64 m.shop, .int .i64 m.c, .int .i64 m.d, .bool m.yes]] w fun e w' => e = .returned (.bool (sendR l m).1) ∧ Sent O w w' p o (sendR l m).2 := by
  obtain ⟨i0, hi, hz0, hz1, hz2⟩ := info_parts infoMail
  obtain ⟨mv, c0, hrow, hsub⟩ := h.raw
  have HOwn : Hid (∀ k, O k → k < w.heap.size) := h.own
  have HMine : Hid (O p) := h.mine
  have HIn : Hid (MailIn O w p o l) := h
  have hp := h.lt
  have hf := h.loose
  have HRow : Hid (w.ownsRow (p + 1) 37 6 mv l.length (flat6 l)) := hrow
  have HSub : Hid (∀ k, mv.ownBlock = some k → O k) := hsub
  have HN1 : Hid (some p ≠ mv.ownBlock) := fun e => by have := (HRow.out.lt p e.symm).1; omega
  have HN2 : Hid (some w.heap.size ≠ mv.ownBlock) := fun e => by have := HOwn.out _ (HSub.out _ e.symm); omega
  have HL : Hid (l.length < 1000) := hl
  obtain ⟨ga, cap, rfl⟩ := own_slice6 hrow
  clear h hrow hsub hl
  by_cases hfull : 40 ≤ l.length
  · have hfull' : (40 : Int) ≤ (l.length : Int) := by omega
    have HE : Hid _ := sendR_full (m := m) hfull
    clear hfull
    go_enter Try.func66, Try.ntmps66
    go_wp2_with fail
    go_ret
    rw [HE.out]
    exact ⟨rfl, Sent.stay HIn.out (by go_grown)⟩
  · have hfull' : ¬ (40 : Int) ≤ (l.length : Int) := by omega
    have HE : Hid _ := sendR_room (m := m) hfull
    clear hfull
    go_enter Try.func66, Try.ntmps66
    go_upto_region 3 with fail
    have x0 : (w.alloc (.cells #[.int .i64 m.kind, .int .i64 m.deal, .int .i64 m.shop, .int .i64 m.c, .int .i64 m.d, .bool m.yes] 37)).cell? ⟨p, o, none⟩ = some (.slice ga l.length cap) := by simp [go_sem, c0, hp]
    go_region_law
      (first | (refine step_append_two (by rfl) (.tmp 15) (.tmp 17) 50 (by rfl) (p + 1) 37 i0 (.agg #[.int .i64 0, .int .i64 0, .int .i64 0, .int .i64 0, .int .i64 0, .bool false]) 6 48 Try.underlying50 hi hz0 hz1 hz2 rfl (by decide) (.slice ga l.length cap) _ _ (by simp [Act.eval]) (own_next HRow.out (by go_grown)) ⟨w.heap.size + 1, 0, none⟩ 1 1 [.int .i64 m.kind, .int .i64 m.deal, .int .i64 m.shop, .int .i64 m.c, .int .i64 m.d, .bool m.yes] (by simp [Act.eval]) rfl (mail_lies (by simp [go_sem]) (by simp [go_sem]) (by simp [go_sem]) (by simp [go_sem]) (by simp [go_sem]) (by simp [go_sem])) mail_cell (by have := HL.out; unfold maxLen; omega) (by have := HL.out; omega) (by simp; omega) (by decide) ?_; intro v8 w8 hown8 hgrow8 hwh8; obtain ⟨ga8, cap8, rfl⟩ := own_slice6 hown8; have HO8 : Hid (w8.ownsRow (p + 1) 37 6 (.slice ga8 (l.length + 1) cap8) (l.length + 1) (flat6 l ++ [.int .i64 m.kind, .int .i64 m.deal, .int .i64 m.shop, .int .i64 m.c, .int .i64 m.d, .bool m.yes])) := hown8; clear hown8; have HW8 : Hid _ := hwh8; clear hwh8; have hk8 : w8.cell? ⟨p, o, none⟩ = some (.slice ga l.length cap) := hgrow8.cell (by simp [go_sem, c0, hp]) HN1.out; have hf8 : ∀ k, w8.frozen? ⟨p, k, none⟩ = false := fun k => (World.frozen?_of_block (hgrow8.block p (by simp; omega) HN1.out)).trans (by simp [go_sem, hf, hp])))
    all_goals
      have hS8 : Save O w w8 := (Save.of_below (by go_grown)).grown hgrow8 (fun k e _ => HSub.out k e)
      have hR8 : Rest p o w w8 := (Rest.below (by go_grown) hp).trans (Rest.grown hgrow8 (by simp; omega) HN1.out)
      have hsz8 : w.heap.size ≤ w8.heap.size := hS8.size
      go_wp2_with fail
      go_ret
      rw [HE.out]
      refine ⟨rfl, sent_store HOwn.out HMine.out hS8 hR8 hf8 hk8 ?_ ?_⟩
      · have e1 : (l ++ [m]).length = l.length + 1 := by simp
        have e2 : flat6 (l ++ [m]) = flat6 l ++ [.int .i64 m.kind, .int .i64 m.deal, .int .i64 m.shop, .int .i64 m.c, .int .i64 m.d, .bool m.yes] := flat6_snoc _ _
        show World.ownsRow _ _ _ _ _ (l ++ [m]).length (flat6 (l ++ [m]))
        rw [e1, e2]
        exact HO8.out
      · intro k hk
        rcases HW8.out k hk with h1 | h1
        · exact .inl (HSub.out k h1)
        · right
          simp at h1
          omega

theorem rnd_wrap (n : Int) (k : Nat) (hk : 0 < k) (hb : k < 1000) : wrap64 ((IntKind.u64.wrap n).tmod (k : Int)) = (rnd n k : Int) := by
  have h0 : 0 ≤ IntKind.u64.wrap n := by rw [IntKind.wrap_u64]; omega
  have h1 : (IntKind.u64.wrap n).tmod (k : Int) = IntKind.u64.wrap n % (k : Int) := Int.tmod_eq_emod_of_nonneg h0
  have h2 : 0 ≤ IntKind.u64.wrap n % (k : Int) := Int.emod_nonneg _ (by omega)
  have h3 : IntKind.u64.wrap n % (k : Int) < (k : Int) := Int.emod_lt_of_pos _ (by omega)
  rw [h1]
  have h4 : wrap64 (IntKind.u64.wrap n % (k : Int)) = IntKind.u64.wrap n % (k : Int) := by unfold wrap64; omega
  rw [h4]
  unfold rnd
  rw [Int.natCast_emod, Int.toNat_of_nonneg (by omega), IntKind.wrap_u64]

theorem ret_two {k : IntKind} {a b : Int} {v : Value} (h : a = b) : Ending.returned (.tuple #[.int k a, v]) = .returned (.tuple #[.int k b, v]) := by rw [h]
set_option maxHeartbeats 1000000 in
theorem pplace_any (O : Nat → Prop) (l : List Ml) (p o : Nat) (n : Int) (w : World) (h : MailIn O w p o l) (hl : l.length < 1000) (hne : l ≠ []) :
    Calls Try.prog 75 #[.pointer (some ⟨p, o, none⟩), .int .i64 n] w fun e w' => e = .returned (.tuple #[.int .i64 (rnd n l.length : Int), .bool true]) ∧ Below w.heap.size w w' := by
  obtain ⟨mv, c0, hrow, _⟩ := h.raw
  obtain ⟨ga, cap, rfl⟩ := own_slice6 hrow
  have hpos : 0 < l.length := List.length_pos_iff.2 hne
  clear h hrow hne
  have hk : (0 : Int) < (l.length : Int) := by omega
  have hk1 : (l.length : Int) < 1000 := by omega
  have hk2 : ((l.length : Int) == 0) = false := by rw [beq_eq_false_iff_ne]; omega
  have HR : Hid _ := rnd_wrap n l.length hpos hl
  generalize l.length = len at *
  clear hpos hl
  go_enter Try.func75, Try.ntmps75
  go_wp2_with fail
  go_ret2
  exact ⟨ret_two HR.out, Below.refl _ _⟩

end Go.Proofs.Ytbgnajcmhmpjlac

/- The walk of BrokerYes: it answers true, whatever it is given. -/
namespace Go.Proofs.Ytbgnajcmhmpjlac
open Go.RowKit

def ZsAt (w : World) (la : Option Addr) (ll : Nat) (zs : List Int) : Prop := ∀ k, k < ll → ∃ b off, la = some ⟨b, off, none⟩ ∧ b < w.heap.size ∧ w.cell? ⟨b, off + k, none⟩ = some (.int .i64 (zs.getD k 0))
def BsAt (w : World) (ea : Option Addr) (le : Nat) (bs : Nat → Bool) : Prop := ∀ k, k < le → ∃ b off, ea = some ⟨b, off, none⟩ ∧ b < w.heap.size ∧ w.cell? ⟨b, off + k, none⟩ = some (.bool (bs k))
/-- The order of a broker with one deal. -/
def ordY (D : Dl) : List Int := if D.st = 1 then [0] else []
theorem sayD_w (D : Dl) (k : Nat) (yes : Bool) : (sayD D k yes).w = D.w := by
  unfold sayD
  split
  · split <;> rfl
  · rfl
theorem hear_y {D : Dl} {k : Nat} {c d : Int} (hF : Fit D.w) (hk : D.w[k]? = some (c, d)) (yes : Bool) : hearR ⟨[D], ordY D⟩ ⟨2, 0, shp c, c, d, yes⟩ = ⟨[sayD D k yes], ordY (sayD D k yes)⟩ := by
  rw [hear_one hF hk]
  congr 1
  by_cases h0 : D.st = 0
  · have e : ordY D = [] := by unfold ordY; rw [if_neg (by omega)]
    rw [e]
    unfold ordY
    by_cases h1 : (sayD D k yes).st = 1
    · rw [if_pos ⟨h0, h1⟩, if_pos h1]; rfl
    · rw [if_neg (fun q => h1 q.2), if_neg h1]
  · have e : sayD D k yes = D := by unfold sayD; rw [if_neg h0]
    rw [e, if_neg (fun q => h0 q.1)]
theorem sayD_nay {D : Dl} (k : Nat) (h : D.st = 0) : (sayD D k false).st = 2 ∧ (sayD D k false).yes = D.yes := by
  unfold sayD; rw [if_pos h]; simp
theorem sayD_yea {D : Dl} (k : Nat) (h : D.st = 0) : (sayD D k true).yes = addI D.yes (k : Int) ∧ ((addI D.yes (k : Int)).length = D.w.length → (sayD D k true).st = 1) ∧ ((addI D.yes (k : Int)).length ≠ D.w.length → (sayD D k true).st = 0) := by
  unfold sayD; rw [if_pos h, if_pos rfl]
  exact ⟨rfl, fun q => if_pos q, fun q => if_neg q⟩
theorem sayD_old {D : Dl} (k : Nat) (yes : Bool) (h : D.st ≠ 0) : sayD D k yes = D := by unfold sayD; rw [if_neg h]
theorem ordY_len (D : Dl) : (((ordY D).length : Int) == 1) = (D.st == 1) := by
  unfold ordY
  by_cases h : D.st = 1
  · rw [if_pos h]; simp [h]
  · rw [if_neg h]
    have : (D.st == 1) = false := by simpa using h
    rw [this]; rfl
theorem addI_old {l : List Int} {i : Int} (h : i ∈ l) : addI l i = l := by unfold addI; rw [if_pos h]
theorem addI_new {l : List Int} {i : Int} (h : i ∉ l) : addI l i = l ++ [i] := by unfold addI; rw [if_neg h]
/-- A row that is kept has grown, where it lay or in new memory. -/
theorem RLv.grown {w0 w w1 : World} {Z Z' : Nat → Prop} {q : Nat} {B : Bok} {row : Option Nat} (h : RLv w0 Z w q B) (hg : w.grownBy w1 row) (hr : ∀ k, row = some k → Z k ∧ w0.heap.size ≤ k) (hZ : ∀ k, Z' k → Z k ∨ (w.heap.size ≤ k ∧ k < w1.heap.size)) : RLv w0 Z' w1 q B := by
  have hs : Save (fun k => row = some k) w w1 := (Save.refl _ _).grown hg (fun k e _ => e)
  obtain ⟨Q, h1, h2⟩ := h.inn
  refine ⟨⟨Q, h1.save hs (fun k hk hq => (h2 k hk).2 (hr k hq).1), fun k hk => ⟨(h2 k hk).1, fun hk' => ?_⟩⟩, h.below.trans (hs.below (fun k hk hq => by have := (hr k hq).2; omega) h.below.size), fun k hk => ?_, h.inv⟩
  · rcases hZ k hk' with q | q
    · exact (h2 k hk).2 q
    · have := h1.own k hk
      omega
  · rcases hZ k hk with q | q
    · exact Nat.lt_of_lt_of_le (h.kept k q) hs.size
    · exact q.2

/-- The law's state at its loop's head: one deal, and the row of what was said to be held. -/
structure YSt (w0 : World) (q : Nat) (l : List (Int × Int)) (D : Dl) (v : Value) (w : World) : Prop where
  liv : RLv w0 (fun k => v.ownBlock = some k) w q ⟨[D], ordY D⟩
  row : w.ownsRow w0.heap.size 3 1 v D.yes.length (D.yes.map (Value.int .i64))
  eqw : D.w = l
theorem YSt.next {w0 w w1 : World} {q : Nat} {l : List (Int × Int)} {D : Dl} {v : Value} (h : YSt w0 q l D v w) (hb : Below w.heap.size w w1) : YSt w0 q l D v w1 := ⟨h.liv.next hb, own_next h.row hb, h.eqw⟩
theorem YSt.few {w0 w : World} {q : Nat} {l : List (Int × Int)} {D : Dl} {v : Value} (h : YSt w0 q l D v w) : D.yes.length ≤ 4 := (h.liv.inv.yesLen (by simp)).1
/-- The row of what was said to be held has grown. -/
theorem YSt.push {w0 W w8 : World} {q : Nat} {l : List (Int × Int)} {D E : Dl} {v v8 : Value} {X : Obj} {r : Int} (hL : RLv w0 (fun k => v.ownBlock = some k) W q ⟨[E], ordY E⟩) (hrow : W.ownsRow w0.heap.size 3 1 v D.yes.length (D.yes.map (Value.int .i64))) (hg : (W.alloc X).grownBy w8 v.ownBlock) (hw : ∀ k, v8.ownBlock = some k → v.ownBlock = some k ∨ k = (W.alloc X).heap.size) (h8 : w8.ownsRow w0.heap.size 3 1 v8 (D.yes.length + 1) (D.yes.map (Value.int .i64) ++ [.int .i64 r])) (hE : E.yes = D.yes ++ [r]) (hEw : E.w = l) : YSt w0 q l E v8 w8 := by
  refine ⟨(hL.next ((Below.refl _ _).alloc (Nat.le_refl _) X)).grown hg (fun k e => ⟨e, (hrow.lt k e).1⟩) (fun k hk => (hw k hk).imp id (fun e => ⟨by omega, (h8.lt k hk).2⟩)), ?_, hEw⟩
  have e1 : (D.yes ++ [r]).length = D.yes.length + 1 := by simp
  have e2 : (D.yes ++ [r]).map (Value.int .i64) = D.yes.map (Value.int .i64) ++ [.int .i64 r] := by simp
  rw [hE, e1, e2]
  exact h8

set_option maxHeartbeats 8000000 in
set_option maxRecDepth 100000 in
theorem yes_walk (wa sa ya : Option Addr) (wl wc sl sc yl yc : Nat) (l : List (Int × Int)) (zs : List Int) (bs : Nat → Bool) (w : World) (hl : WantsAt w wa l) (hll : l.length = wl) (hz : ZsAt w sa sl zs) (hb : BsAt w ya yl bs) :
    Calls Try.prog 3 #[.slice wa wl wc, .slice sa sl sc, .slice ya yl yc] w fun e w' => e = .returned (.bool true) ∧ Below w.heap.size w w' := by
  obtain ⟨ii, hi, hz0, hz1, hz2⟩ := info_parts infoInt
  have HL : Hid (WantsAt w wa l) := hl
  have HZ : Hid (ZsAt w sa sl zs) := hz
  have HBs : Hid (BsAt w ya yl bs) := hb
  have HLl : Hid (l.length = wl) := hll
  clear hl hz hb hll
  go_enter Try.func3, Try.ntmps3
  go_wp2_with fail
  refine Calls.mono (rbegun_any w) ?_
  rintro e w1 ⟨rfl, hb1⟩
  by_cases h50 : 50 < wl
  · have h50' : (50 : Int) < (wl : Int) := by omega
    clear h50
    go_wp2_with fail
    go_ret
    exact ⟨rfl, hb1⟩
  have h50' : ¬ (50 : Int) < (wl : Int) := by omega
  by_cases h1s : 100 < sl
  · have h1s' : (100 : Int) < (sl : Int) := by omega
    clear h1s h50
    go_wp2_with fail
    go_ret
    exact ⟨rfl, hb1⟩
  have h1s' : ¬ (100 : Int) < (sl : Int) := by omega
  by_cases h1y : 100 < yl
  · have h1y' : (100 : Int) < (yl : Int) := by omega
    clear h1s h50 h1y
    go_wp2_with fail
    go_ret
    exact ⟨rfl, hb1⟩
  have h1y' : ¬ (100 : Int) < (yl : Int) := by omega
  have HN : Hid (wl ≤ 50 ∧ sl ≤ 100 ∧ yl ≤ 100) := by constructor <;> omega
  clear h50 h1s h1y
  go_wp2_with fail
  refine Calls.mono (new_rlv w1) ?_
  rintro e w2 ⟨q, rfl, hL2, hb2⟩
  have HC : Hid _ := begin_rlv (lc := wc) hL2 ((HL.out.below hb1 (Nat.le_refl _)).below hb2 (Nat.le_refl _)) HLl.out
  have HB2 : Hid (Below w.heap.size w w2) := after hb1 hb2 hb1.size
  have HB1 : Hid (Below w.heap.size w w1) := hb1
  clear hL2 hb1 hb2 h50' h1s' h1y'
  by_cases hc : (chkW l).1 = 0
  · rw [beginR_ok hc (by decide)] at HC
    have hF := fit_iff.1 hc
    have HF : Hid (Fit l) := hF
    have hw0 : 0 < wl := by have := hF.pos; have := HLl.out; omega
    have hw4 : wl ≤ 4 := by have := hF.few; have := HLl.out; omega
    clear hc hF
    go_wp2_with fail
    refine Calls.mono HC.out ?_
    rintro e w3 ⟨rfl, hL3, _⟩
    clear HC
    go_wp2_with fail
    go_loopg [10, 11, 12, 13] (sl + yl) (fun g s10 s11 s12 _ wr => ∃ (k : Nat) (D : Dl) (v : Value), k ≤ sl ∧ k ≤ yl ∧ g = sl + yl - k ∧ s10 = .int .i64 D.st ∧ v = s11 ∧ s12 = .int .i64 k ∧ YSt w1 q l D v wr)
    case atStart => exact ⟨0, ⟨l, 0, [], []⟩, _, Nat.zero_le _, Nat.zero_le _, rfl, rfl, rfl, rfl, ⟨hL3.less (fun k hk => by simp [Value.ownBlock] at hk), World.ownsRow_nil _ _ _ _, rfl⟩⟩
    case round =>
      obtain ⟨k, D, v, hks, hky, rfl, rfl, rfl, rfl, hS⟩ := hrel
      clear hL3
      by_cases h1 : k < sl
      · have h1' : (k : Int) < (sl : Int) := by omega
        by_cases h2 : k < yl
        · have h2' : (k : Int) < (yl : Int) := by omega
          obtain ⟨bz, oz, rfl, hbz, cz⟩ := HZ.out k h1
          obtain ⟨by', oy, rfl, hby, cy⟩ := HBs.out k h2
          generalize zs.getD k 0 = zz at cz
          generalize bs k = yy at cy
          have HRn : Hid (wrap64 ((IntKind.u64.wrap zz).tmod (wl : Int)) = (rnd zz wl : Int)) := rnd_wrap zz wl hw0 (by omega)
          have hrl : rnd zz wl < wl := rnd_lt zz hw0
          generalize rnd zz wl = r at HRn hrl
          obtain ⟨⟨c, d⟩, hlr⟩ : ∃ x, l[r]? = some x := ⟨_, List.getElem?_eq_getElem (by have := HLl.out; omega)⟩
          obtain ⟨bw, ow, rfl, hbw, cc, cd⟩ := HL.out r c d hlr
          have hbel := after HB1.out hS.liv.below HB1.out.size
          have cz' : wr.cell? ⟨bz, oz + k, none⟩ = some (.int .i64 zz) := ((bcell hbel).1 _ _ hbz).trans cz
          have cy' : wr.cell? ⟨by', oy + k, none⟩ = some (.bool yy) := ((bcell hbel).1 _ _ hby).trans cy
          have cc' : wr.cell? ⟨bw, ow + r * 2, none⟩ = some (.int .i64 c) := ((bcell hbel).1 _ _ hbw).trans cc
          have cd' : wr.cell? ⟨bw, ow + r * 2 + 1, none⟩ = some (.int .i64 d) := ((bcell hbel).1 _ _ hbw).trans cd
          have j0 : (0 : Int) ≤ (k : Int) := by omega
          have j3 : (sl : Int) ≤ 100 := by have := HN.out; omega
          have j4 : (yl : Int) ≤ 100 := by have := HN.out; omega
          have r0 : (0 : Int) ≤ (r : Int) := by omega
          have r1 : (r : Int) < (wl : Int) := by omega
          have r2 : (0 : Int) < (wl : Int) := by omega
          have r3 : (wl : Int) < 1000 := by omega
          have HB1' : Hid (Below w.heap.size w w1) := HB1.out
          have HKK : Hid (∀ w', Below w1.heap.size w1 w' → w'.cell? ⟨bw, ow + r * 2, none⟩ = some (.int .i64 c) ∧ w'.cell? ⟨bw, ow + r * 2 + 1, none⟩ = some (.int .i64 d) ∧ w'.cell? ⟨by', oy + k, none⟩ = some (.bool yy)) := fun w' hb => by
            have h := after HB1.out hb HB1.out.size
            exact ⟨((bcell h).1 _ _ hbw).trans cc, ((bcell h).1 _ _ hbw).trans cd, ((bcell h).1 _ _ hby).trans cy⟩
          have HS : Hid (YSt w1 q l D v wr) := hS
          have HKs : Hid (k < sl ∧ k < yl) := ⟨h1, h2⟩
          have HLr : Hid (l[r]? = some (c, d)) := hlr
          have HHear : Hid (∀ W, Below wr.heap.size wr W → Calls Try.prog 16 #[.pointer (some ⟨q, 0, none⟩), .agg #[.int .i64 2, .int .i64 0, .int .i64 (shp c), .int .i64 c, .int .i64 d, .bool yy]] W fun e w' => e = .returned (.tuple #[]) ∧ RLv w1 (fun k => v.ownBlock = some k) w' q ⟨[sayD D r yy], ordY (sayD D r yy)⟩ ∧ w'.ownsRow w1.heap.size 3 1 v D.yes.length (D.yes.map (Value.int .i64))) := fun W hW => by
            have h := hear_rlv ⟨2, 0, shp c, c, d, yy⟩ (HS.out.next hW).liv
            rw [hear_y (by rw [HS.out.eqw]; exact HF.out) (by rw [HS.out.eqw]; exact HLr.out) yy] at h
            exact h.mono (fun e w' z => ⟨z.1, z.2.1, own_save (HS.out.next hW).row z.2.2 (fun i hi hn => hn hi)⟩)
          clear hbz cz hby cy hbw cc cd hbel hlr hks hky h1 h2 hrl
          go_upto_region 15 with fail
          rw [HRn.out]
          have HK : Hid (∀ w', Below wr.heap.size wr w' → w'.cell? ⟨bw, ow + r * 2, none⟩ = some (.int .i64 c) ∧ w'.cell? ⟨bw, ow + r * 2 + 1, none⟩ = some (.int .i64 d) ∧ w'.cell? ⟨by', oy + k, none⟩ = some (.bool yy)) := fun w' hb => HKK.out w' (after HS.out.liv.below hb HS.out.liv.below.size)
          clear hS
          go_region_held3 (fun w' => w'.cell? ⟨bw, ow + r * 2, none⟩ = some (.int .i64 c) ∧ w'.cell? ⟨bw, ow + r * 2 + 1, none⟩ = some (.int .i64 d) ∧ w'.cell? ⟨by', oy + k, none⟩ = some (.bool yy))
            (first | exact HK9 | exact HK.out _ (by go_grown))
            (first | (go_at_call 17; refine (shop_any _ _).mono ?_; rintro e w8 ⟨rfl, rfl⟩) | (go_at_call 16; refine Calls.mono (HHear.out _ (by go_grown)) ?_; rintro e w9 ⟨rfl, hL9, hR9⟩; have HK9 : w9.cell? ⟨bw, ow + r * 2, none⟩ = some (.int .i64 c) ∧ w9.cell? ⟨bw, ow + r * 2 + 1, none⟩ = some (.int .i64 d) ∧ w9.cell? ⟨by', oy + k, none⟩ = some (.bool yy) := HKK.out w9 hL9.below; have HL9 : Hid (RLv w1 (fun k => v.ownBlock = some k) w9 q ⟨[sayD D r yy], ordY (sayD D r yy)⟩) := hL9; have HR9 : Hid (w9.ownsRow w1.heap.size 3 1 v D.yes.length (D.yes.map (Value.int .i64))) := hR9; clear hL9 hR9))
          obtain ⟨y1, y2, y3⟩ := HK9
          clear cz' cy' cc' cd' HK HHear
          have HEw : Hid (D.w = l) := HS.out.eqw
          have HY4 : Hid (D.yes.length ≤ 4) := HS.out.few
          clear HS
          obtain ⟨ga, cap, rfl, hNy, _⟩ := nums_of_own HR9.out
          have HNy : Hid (NumsAt w9 ga D.yes) := hNy
          clear hNy
          go_upto_if 82 with fail
          go_cut [10, 11] (fun s10 s11 wx => ∃ v2, s10 = .int .i64 (sayD D r yy).st ∧ v2 = s11 ∧ YSt w1 q l (sayD D r yy) v2 wx)
          case first =>
            by_cases h0 : D.st = 0
            · have h0' : (D.st == 0) = true := by simp [h0]
              have H0 : Hid (D.st = 0) := h0
              clear h0
              cases yy with
              | false =>
                go_wp2_with fail
                go_meet
                case rel => exact ⟨_, by rw [(sayD_nay r H0.out).1], rfl, ⟨HL9.out, by rw [(sayD_nay r H0.out).2]; exact HR9.out, by rw [sayD_w]; exact HEw.out⟩⟩
              | true =>
                go_wp2_with fail
                refine (in_any ga D.yes.length cap D.yes (r : Int) w9 HNy.out rfl (by have := HY4.out; omega)).mono ?_
                rintro e w10 ⟨rfl, rfl⟩
                obtain ⟨sy, s1, s2⟩ := sayD_yea r H0.out
                by_cases hm : (r : Int) ∈ D.yes
                · rw [decide_eq_true hm]
                  rw [addI_old hm] at sy s1 s2
                  by_cases he : D.yes.length = wl
                  · have he' : ((D.yes.length : Int) == (wl : Int)) = true := by simp [he]
                    have HY : Hid _ := sy
                    have HSt : Hid _ := s1 (by rw [HEw.out]; have := HLl.out; omega)
                    clear hm sy s1 s2 he
                    go_wp2_with fail
                    go_meet
                    case rel => exact ⟨_, by rw [HSt.out], rfl, ⟨HL9.out, by rw [HY.out]; exact HR9.out, by rw [sayD_w]; exact HEw.out⟩⟩
                  · have he' : ((D.yes.length : Int) == (wl : Int)) = false := by rw [beq_eq_false_iff_ne]; omega
                    have HY : Hid _ := sy
                    have HSt : Hid _ := s2 (by rw [HEw.out]; have := HLl.out; omega)
                    clear hm sy s1 s2 he
                    go_wp2_with fail
                    go_meet
                    case rel => exact ⟨_, by rw [HSt.out, H0.out], rfl, ⟨HL9.out, by rw [HY.out]; exact HR9.out, by rw [sayD_w]; exact HEw.out⟩⟩
                · rw [decide_eq_false hm]
                  rw [addI_new hm] at sy s1 s2
                  have HSz : Hid (w1.heap.size ≤ w10.heap.size) := HL9.out.below.size
                  by_cases he : D.yes.length + 1 = wl
                  · have he' : (((D.yes.length + 1 : Nat) : Int) == (wl : Int)) = true := by simp [he]
                    have HY : Hid _ := sy
                    have HSt : Hid _ := s1 (by rw [HEw.out]; have := HLl.out; simp; omega)
                    clear hm sy s1 s2 he
                    go_wp2_with (at_builtin; refine list_append_two rfl (.tmp 92) (.tmp 94) 23 rfl w1.heap.size 3 ii (.int .i64 0) 1 8 Try.underlying23 hi hz0 hz1 hz2 rfl (by decide) (.slice ga D.yes.length cap) _ _ rfl (own_next HR9.out (by go_grown)) ⟨w10.heap.size, 0, none⟩ 1 1 [.int .i64 (r : Int)] rfl rfl (num_new _ rfl) num_cell (by have := HY4.out; unfold maxLen; omega) (by have := HY4.out; omega) (by have := HSz.out; simp; omega) (by decide) ?_; intro v8 w8 hown8 hgrow8 hwh8; obtain ⟨g8, cap8, rfl⟩ := own_sl hown8; have HO8 : Hid (w8.ownsRow w1.heap.size 3 1 (.slice g8 (D.yes.length + 1) cap8) (D.yes.length + 1) (D.yes.map (Value.int .i64) ++ [.int .i64 (r : Int)])) := hown8; clear hown8; have HW8 : Hid _ := hwh8; clear hwh8; have HG8 : Hid _ := hgrow8; clear hgrow8)
                    go_meet
                    case rel => exact ⟨_, by rw [HSt.out], rfl, YSt.push HL9.out HR9.out HG8.out HW8.out HO8.out HY.out (by rw [sayD_w]; exact HEw.out)⟩
                  · have he' : (((D.yes.length + 1 : Nat) : Int) == (wl : Int)) = false := by rw [beq_eq_false_iff_ne]; omega
                    have HY : Hid _ := sy
                    have HSt : Hid _ := s2 (by rw [HEw.out]; have := HLl.out; simp; omega)
                    clear hm sy s1 s2 he
                    go_wp2_with (at_builtin; refine list_append_two rfl (.tmp 92) (.tmp 94) 23 rfl w1.heap.size 3 ii (.int .i64 0) 1 8 Try.underlying23 hi hz0 hz1 hz2 rfl (by decide) (.slice ga D.yes.length cap) _ _ rfl (own_next HR9.out (by go_grown)) ⟨w10.heap.size, 0, none⟩ 1 1 [.int .i64 (r : Int)] rfl rfl (num_new _ rfl) num_cell (by have := HY4.out; unfold maxLen; omega) (by have := HY4.out; omega) (by have := HSz.out; simp; omega) (by decide) ?_; intro v8 w8 hown8 hgrow8 hwh8; obtain ⟨g8, cap8, rfl⟩ := own_sl hown8; have HO8 : Hid (w8.ownsRow w1.heap.size 3 1 (.slice g8 (D.yes.length + 1) cap8) (D.yes.length + 1) (D.yes.map (Value.int .i64) ++ [.int .i64 (r : Int)])) := hown8; clear hown8; have HW8 : Hid _ := hwh8; clear hwh8; have HG8 : Hid _ := hgrow8; clear hgrow8)
                    go_meet
                    case rel => exact ⟨_, by rw [HSt.out, H0.out], rfl, YSt.push HL9.out HR9.out HG8.out HW8.out HO8.out HY.out (by rw [sayD_w]; exact HEw.out)⟩
            · have h0' : (D.st == 0) = false := by simpa using h0
              have HO : Hid _ := sayD_old r yy h0
              clear h0
              go_wp2_with fail
              go_meet
              case rel => exact ⟨_, by rw [HO.out], rfl, ⟨HL9.out, by rw [HO.out]; exact HR9.out, by rw [sayD_w]; exact HEw.out⟩⟩
          case rest =>
            obtain ⟨v2, rfl, rfl, hS2⟩ := hcut
            clear HL9 HR9 HNy HEw HY4 y1 y2 y3
            generalize sayD D r yy = E at hS2 ⊢
            have HC : Hid _ := state_rlv 0 hS2.liv
            have hse : (E.st != E.st) = false := by simp
            have hr4 : IntKind.i64.wrap ((k : Int) + 1) = (k : Int) + 1 := by go_unwrap
            rw [show stR ⟨[E], ordY E⟩ 0 = E.st from rfl] at HC
            go_wp2_with fail
            refine Calls.mono HC.out ?_
            rintro e w11 ⟨rfl, rfl⟩
            clear HC
            have HC : Hid _ := done_rlv hS2.liv
            go_wp2_with fail
            refine Calls.mono HC.out ?_
            rintro e w12 ⟨⟨vh, rfl, hrh⟩, hb12⟩
            obtain ⟨gh, caph, rfl⟩ := own_sl hrh
            have hS3 := hS2.next hb12
            have ho := ordY_len E
            clear hrh hb12 HC hS2
            cases h1e : (E.st == 1)
            all_goals
              rw [h1e] at ho
              go_wp2_with fail
              go_roundg (sl + yl - (k + 1))
              case measure => have := HKs.out; omega
              case rel => exact ⟨k + 1, E, _, by have := HKs.out; omega, by have := HKs.out; omega, rfl, rfl, rfl, by simp, hS3⟩
        · have h2' : ¬ (k : Int) < (yl : Int) := by omega
          clear h2
          go_wp2_with fail
          go_ret
          exact ⟨rfl, after HB1.out hS.liv.below HB1.out.size⟩
      · have h1' : ¬ (k : Int) < (sl : Int) := by omega
        clear h1
        go_wp2_with fail
        go_ret
        exact ⟨rfl, after HB1.out hS.liv.below HB1.out.size⟩
  · rw [beginR_bad hc] at HC
    have hc' : ((chkW l).1 != 0) = true := by simpa using hc
    clear hc
    go_wp2_with fail
    refine Calls.mono HC.out ?_
    rintro e w3 ⟨rfl, hL3, _⟩
    clear HC
    go_wp2_with fail
    refine Calls.mono (len_rlv hL3) ?_
    rintro e w4 ⟨rfl, rfl⟩
    go_wp2_with fail
    go_ret
    exact ⟨rfl, after HB1.out hL3.below HB1.out.size⟩

end Go.Proofs.Ytbgnajcmhmpjlac

namespace Go.Proofs.Ytbgnajcmhmpjlac
open Go.ChangeShapes Go.WideShapes Go.ChangeAt Go.RowKit Go.Deep

theorem Try.ownBrokerYes : ownKnob Try.prog.godebug = none := by kernel_rfl
theorem Try.laidOutBrokerYes : laidOutB Try.prog = true := by kernel_rfl
theorem Try.cellsIntYes : Try.prog.cellsOf 3 = 1 := by kernel_rfl
theorem Try.cellsBoolYes : Try.prog.cellsOf 4 = 1 := by kernel_rfl

set_option maxRecDepth 100000 in
theorem brokerYes_lifted (os : Os) (started : os.Started) (H : Type) (enc : TypeId × Value → H) :
    ReturnsInHanded {} Try.checked os 3 .any (Rows.brokerYesSpec.pre6 enc Try.prog Try.f3 Rows.brokerYesRow.domain false) (Rows.brokerYesSpec.post enc Try.prog Try.f3 false true false false) := by
  refine returnsInHanded_of_change (C := Try.checked) Try.ownBrokerYes started (by kernel_rfl) Try.func3
    (ChangeSpec.witness6 (enc := enc) (C := Try.checked) false ⟨#[], #[.slice none 0 0, .slice none 0 0, .slice none 0 0], []⟩ 8 (by kernel_rfl) (by kernel_rfl) (by kernel_rfl) (by kernel_rfl)) ?_
  intro W base args ds gs before hval0 hW _ _
  have hval : ∀ (j : Nat) t v, Try.f3.params[j]? = some t → args[j]? = some v → Value.okWide Try.prog W .any base t v := hval0
  have hW' := hW
  obtain ⟨p, q, hA0, hV, rfl, hfz, hnd⟩ := hW
  have hA : DataW.TrodAll enc Try.prog W 0 (fun _ => true) true Try.f3.params.toList args.toList ds p := hA0
  rw [Try.params3] at hA hval
  obtain ⟨v0, v1, v2, d0, d1, d2, p0, p1, p2, rfl, rfl, rfl, h0, h1, h2⟩ := trodAll_three hA
  obtain ⟨rfl, rfl⟩ := trodVars_none hV
  have k0 := h0
  have k1 := h1
  have k2 := h2
  have lt0 : ∀ x ∈ p0, x.block < W.heap.size := by obtain ⟨m, hm⟩ := k0; exact DataW.trod_lt m _ _ _ hm
  have lt1 : ∀ x ∈ p1, x.block < W.heap.size := by obtain ⟨m, hm⟩ := k1; exact DataW.trod_lt m _ _ _ hm
  have lt2 : ∀ x ∈ p2, x.block < W.heap.size := by obtain ⟨m, hm⟩ := k2; exact DataW.trod_lt m _ _ _ hm
  obtain ⟨a0, l0, c0, rfl⟩ := okWide_slice Try.underlying22 (hval 0 22 v0 rfl rfl)
  obtain ⟨a1, l1, c1, rfl⟩ := okWide_slice Try.underlying23 (hval 1 23 v1 rfl rfl)
  obtain ⟨a2, l2, c2, rfl⟩ := okWide_slice Try.underlying24 (hval 2 24 v2 rfl rfl)
  obtain ⟨l, hwl, hll⟩ := open_wants h0
  obtain ⟨zs, hl⟩ : ∃ zs, ZsAt W a1 l1 zs := by
    obtain ⟨fuel, hf⟩ := h1
    rcases open_ints Try.underlying23 Try.underlying3 Try.cellsIntYes hf with ⟨hcs, _⟩ | ⟨x, l, c, zs, hcs, _, hl, hm, hz, hx, hcell, hwz⟩
    · simp [Value.cells] at hcs
      obtain ⟨rfl, rfl, rfl⟩ := hcs
      exact ⟨[], fun k hk => absurd hk (by omega)⟩
    · simp [Value.cells] at hcs
      obtain ⟨rfl, rfl, rfl⟩ := hcs
      simp only [if_true] at hz
      refine ⟨zs, fun k hk => ?_⟩
      have hc := hcell k (by omega)
      have h00 := hcell 0 (by omega)
      obtain ⟨b, off, spot⟩ := x
      have hspot : spot = none := by simpa [Addr.add] using World.cell?_spot h00
      subst hspot
      rw [add_plain] at hc
      exact ⟨b, off, rfl, World.block_lt_of_cell? W _ hc, hc⟩
  obtain ⟨bs, he⟩ : ∃ bs, BsAt W a2 l2 bs := by
    obtain ⟨fuel, hf⟩ := h2
    rcases open_slice1 Try.underlying24 Try.cellsBoolYes hf with ⟨hcs, _⟩ | ⟨x, l, c, m, f, V, D, Pl, hcs, _, hl, hm, hz, hx, hcell⟩
    · simp [Value.cells] at hcs
      obtain ⟨rfl, rfl, rfl⟩ := hcs
      exact ⟨fun _ => false, fun k hk => absurd hk (by omega)⟩
    · simp [Value.cells] at hcs
      obtain ⟨rfl, rfl, rfl⟩ := hcs
      simp only [if_true] at hz
      have hb : ∀ k, k < l2 → ∃ b : Bool, V k = .bool b := by
        intro k hk
        obtain ⟨b, hb, _⟩ := DataW.trod_bool Try.underlying4 (hcell k (by omega)).2
        simp at hb
        exact ⟨b, hb⟩
      obtain ⟨bs, hbs⟩ := choose_lt hb
      refine ⟨bs, fun k hk => ?_⟩
      have hc := (hcell k (by omega)).1
      have h00 := (hcell 0 (by omega)).1
      rw [hbs k hk] at hc
      obtain ⟨b, off, spot⟩ := x
      have hspot : spot = none := by simpa [Addr.add] using World.cell?_spot h00
      subst hspot
      rw [add_plain] at hc
      exact ⟨b, off, rfl, World.block_lt_of_cell? W _ hc, hc⟩
  clear hA0 hval0
  refine (yes_walk a0 a1 a2 l0 c0 l1 c1 l2 c2 l zs bs W hwl hll hl he).mono fun e W' ⟨hret, hb⟩ => ?_
  subst hret
  exact ⟨_, rfl, _, _, _, [], _, [], hW', trodAll_mk1 (shut_bool Try.underlying4 true), trodAll_mk3 (Below.trod Try.laidOutBrokerYes (by kernel_rfl) (of_decide_eq_true (by kernel_rfl)) k0 hb lt0) (Below.trod Try.laidOutBrokerYes (by kernel_rfl) (of_decide_eq_true (by kernel_rfl)) k1 hb lt1) (Below.trod Try.laidOutBrokerYes (by kernel_rfl) (of_decide_eq_true (by kernel_rfl)) k2 hb lt2), rfl, hb.frame _, fun h => by cases h⟩

theorem brokerYes_holds : Rows.BrokerYesSaid :=
  OpenClaim.holds_of_wide 3 Try.f3 rfl rfl rfl rfl rfl rfl rfl ⟨rfl, rfl, rfl, rfl, rfl⟩ rfl rfl rfl rfl rfl (by kernel_rfl) Try.func3 (by kernel_rfl)
    (of_decide_eq_true (by kernel_rfl)) (by unfold Func.isWrapper; first | (rw [if_pos (by decide +kernel)]; kernel_rfl) | (rw [if_neg (by decide +kernel)]; exact ⟨rfl, rfl⟩))
    (fun os started H enc _ => brokerYes_lifted os started H enc)

#print axioms brokerYes_holds
end Go.Proofs.Ytbgnajcmhmpjlac
