/- For every world and every list of steps: the statement TownNever of the program returns true, and its arguments read as before (no condition). -/
import Derived.BigQuiet
import Derived.Deep.RegionHeld3
import Derived.Test.YtbgnajcmhmpjlacRows
import Derived.Test.YtbgnajcmhmpjlacN6

/- What a law keeps while a town goes on: a world and a list of numbers in blocks of its own. -/
namespace Go.Proofs.Ytbgnajcmhmpjlac
open Go.RowKit

/-- The blocks that are kept. -/
def Zk (bx : Nat) (ga : Option Addr) : Nat → Prop := fun k => k = bx ∨ ∃ a, ga = some a ∧ a.block = k
theorem nums_save {O : Nat → Prop} {w w' : World} {ga : Option Addr} {l : List Int} (h : NumsAt w ga l) (hs : Save O w w') (hn : ∀ a, ga = some a → ¬ O a.block) : NumsAt w' ga l := by
  intro k x hk
  obtain ⟨b, off, e, hl, hc⟩ := h k x hk
  exact ⟨b, off, e, Nat.lt_of_lt_of_le hl hs.size, (hs.cell (p := ⟨b, off + k, none⟩) hl (hn ⟨b, off, none⟩ e)).trans hc⟩
structure Kpt (w : World) (bx : Nat) (f : Nat → Int) (ga : Option Addr) (l : List Int) : Prop where
  box : BoxAt w bx [.int .i64 (f 0), .int .i64 (f 1), .int .i64 (f 2), .int .i64 (f 3), .int .i64 (f 4), .int .i64 (f 5)]
  num : NumsAt w ga l
theorem Kpt.next {w w' : World} {bx : Nat} {f : Nat → Int} {ga : Option Addr} {l : List Int} (h : Kpt w bx f ga l) (hb : Below w.heap.size w w') : Kpt w' bx f ga l := ⟨h.box.next hb, h.num.below hb (Nat.le_refl _)⟩
theorem Kpt.step {w w' : World} {bx : Nat} {f : Nat → Int} {ga : Option Addr} {l : List Int} (h : Kpt w bx f ga l) (hs : Save (fun k => ¬ Zk bx ga k) w w') : Kpt w' bx f ga l :=
  ⟨h.box.save hs (fun q => q (.inl rfl)), nums_save h.num hs (fun a ha q => q (.inr ⟨a, ha, rfl⟩))⟩
/-- What a town that is kept beside them tells. -/
theorem world_is {w0 W : World} {Z : Nat → Prop} {p b m : Nat} {c : Nat → Nat} {ws f : Nat → Int} {T : Twn} (h : TLv w0 Z W p b m c ws T) (hf : ∀ k, k < 6 → valT T k = f k) : Calls Try.prog 31 #[.pointer (some ⟨p, 0, none⟩)] W fun e w' => e = .returned (.agg #[.int .i64 (f 0), .int .i64 (f 1), .int .i64 (f 2), .int .i64 (f 3), .int .i64 (f 4), .int .i64 (f 5)]) ∧ Below W.heap.size W w' := by
  have := world_tlv h
  unfold wldV at this
  rw [hf 0 (by omega), hf 1 (by omega), hf 2 (by omega), hf 3 (by omega), hf 4 (by omega), hf 5 (by omega)] at this
  exact this
theorem done_is {w0 W : World} {Z : Nat → Prop} {p b m : Nat} {c : Nat → Nat} {ws : Nat → Int} {T : Twn} {L : List Int} (h : TLv w0 Z W p b m c ws T) (hL : T.B.ord = L) : Calls Try.prog 20 #[.pointer (some ⟨b, 0, none⟩)] W fun e w' => (∃ g2 c2, e = .returned (.slice g2 L.length c2) ∧ NumsAt w' g2 L ∧ ∀ a, g2 = some a → W.heap.size ≤ a.block ∧ a.block < w'.heap.size) ∧ Below W.heap.size W w' := by
  refine (done_tlv h).mono ?_
  rintro e w' ⟨⟨v, he, hv⟩, hb⟩
  have hsl := hv
  obtain ⟨g2, c2, rfl, hN, _⟩ := nums_of_own hv
  rw [hL] at he hN
  exact ⟨⟨g2, c2, he, hN, fun a ha => by subst ha; exact hsl.lt a.block rfl⟩, hb⟩
theorem same_is {W : World} {g1 g2 : Option Addr} {c1 c2 : Nat} {L : List Int} (h1 : NumsAt W g1 L) (h2 : NumsAt W g2 L) (hl : L.length ≤ 8) : Calls Try.prog 39 #[.slice g1 L.length c1, .slice g2 L.length c2] W fun e w' => e = .returned (.bool true) ∧ Below W.heap.size W w' := by
  have := sameInts_any g1 g2 L.length L.length c1 c2 L L W h1 h2 rfl rfl (by omega)
  rw [decide_eq_true rfl] at this
  exact this
theorem mail_no {w0 W : World} {Z : Nat → Prop} {p b m : Nat} {c : Nat → Nat} {ws : Nat → Int} {T : Twn} (h : TLv w0 Z W p b m c ws T) (hM : T.M = []) : Calls Try.prog 27 #[.pointer (some ⟨p, 0, none⟩)] W fun e w' => (∃ g2 c2, e = .returned (.slice g2 0 c2)) ∧ Below W.heap.size W w' := by
  refine (mail_tlv h).mono ?_
  rintro e w' ⟨⟨g2, c2, he, _⟩, hb⟩
  rw [hM] at he
  exact ⟨⟨g2, c2, he⟩, hb⟩

end Go.Proofs.Ytbgnajcmhmpjlac

/- The walk of TownNever: it answers true, whatever it is given. -/
namespace Go.Proofs.Ytbgnajcmhmpjlac
open Go.RowKit

theorem box6_at {w : World} {b : Nat} {f : Nat → Int} (h : BoxAt w b [.int .i64 (f 0), .int .i64 (f 1), .int .i64 (f 2), .int .i64 (f 3), .int .i64 (f 4), .int .i64 (f 5)]) {k : Nat} (hk : k < 6) : w.cell? ⟨b, k, none⟩ = some (.int .i64 (f k)) := by
  rcases six_cases hk with rfl | rfl | rfl | rfl | rfl | rfl
  · exact h.2 0 _ rfl
  · exact h.2 1 _ rfl
  · exact h.2 2 _ rfl
  · exact h.2 3 _ rfl
  · exact h.2 4 _ rfl
  · exact h.2 5 _ rfl
theorem cnt_ok {ws : Nat → Int} {T : Twn} (h : Full ws T) {s k : Nat} (hs : s < 3) (hk : k < 2) : 0 ≤ cnt6 (T.P s).A (k * 3 + 1) ∧ cnt6 (T.P s).A (k * 3 + 1) ≤ cnt6 (T.P s).A (k * 3) ∧ 0 ≤ cnt6 (T.P s).A (k * 3 + 2) ∧ cnt6 (T.P s).A (k * 3) + cnt6 (T.P s).A (k * 3 + 2) ≤ 100 := by
  have q := h.town.inv.count (k := s * 2 + k) (by omega)
  have no := (h.shop hs).2.2.1
  rw [show (s * 2 + k) / 2 = s by omega] at q
  have e0 : cnt6 (T.P s).A (k * 3) = valT T (s * 2 + k) := cnt_val T s k hk
  have e1 : cnt6 (T.P s).A (k * 3 + 1) = outs (T.P s).A.hs ((s * 2 + k : Nat) : Int) := by
    have z : ((s * 2 + k : Nat) : Int) = (T.P s).A.no * 2 + (k : Int) := by rw [no]; omega
    rw [z]
    match k, hk with
    | 0, _ => simp [cnt6]
    | 1, _ => simp [cnt6]
  have e2 : cnt6 (T.P s).A (k * 3 + 2) = inns (T.P s).A.hs ((s * 2 + k : Nat) : Int) := by
    have z : ((s * 2 + k : Nat) : Int) = (T.P s).A.no * 2 + (k : Int) := by rw [no]; omega
    rw [z]
    match k, hk with
    | 0, _ => simp [cnt6]
    | 1, _ => simp [cnt6]
  rw [e0, e1, e2]
  omega
theorem chk_zero {v o i : Int} (h1 : 0 ≤ o) (h2 : o ≤ v) (h3 : 0 ≤ i) (h4 : v + i ≤ 100) : chk v o i = 0 := by
  unfold chk
  rw [if_neg (by omega), if_neg (by omega), if_neg (by omega), if_neg (by omega), if_neg (by omega), if_neg (by omega)]
theorem now_bound {ws : Nat → Int} {T : Twn} (h : Full ws T) {k : Nat} (hk : k < 6) : ∀ s : Nat, s ≤ 3 → - (2400 * (s : Int)) ≤ nowR T s k ∧ nowR T s k ≤ 100 + 2400 * (s : Int)
  | 0, _ => by have := h.val hk; simp only [nowR]; omega
  | s + 1, hs => by
    have ih := now_bound h hk s (by omega)
    have q := heldAdd_bound (B := T.B) (s := (s : Int)) k (T.P s).A.hs (nowR T s) (fun x hx => (h.holds (s := s) (by omega) x hx).2.2.2.2)
    have l := (h.shop (s := s) (by omega)).2.2.2.1
    simp only [nowR]
    omega
theorem part_bound {ws : Nat → Int} {T : Twn} (h : Full ws T) {s : Nat} (hs : s < 3) {k : Nat} (hk : k < 6) (i : Nat) : -10000 ≤ heldAdd T.B (s : Int) ((T.P s).A.hs.take i) (nowR T s) k ∧ heldAdd T.B (s : Int) ((T.P s).A.hs.take i) (nowR T s) k ≤ 10000 := by
  have ih := now_bound h hk s (by omega)
  have q := heldAdd_bound (B := T.B) (s := (s : Int)) k ((T.P s).A.hs.take i) (nowR T s) (fun x hx => (h.holds (s := s) (by omega) x (List.mem_of_mem_take hx)).2.2.2.2)
  have l := (h.shop (s := s) (by omega)).2.2.2.1
  have l2 : ((T.P s).A.hs.take i).length ≤ 24 := by simp; omega
  omega
theorem holds_save {O : Nat → Prop} {w w' : World} {ga : Option Addr} {l : List H3} (h : HoldsAt w ga l) (hs : Save O w w') (hn : ∀ a, ga = some a → ¬ O a.block) : HoldsAt w' ga l := by
  intro k a c d hk
  obtain ⟨b, off, e, hl, h0, h1, h2⟩ := h k a c d hk
  have q : ∀ o, w'.cell? ⟨b, o, none⟩ = w.cell? ⟨b, o, none⟩ := fun o => hs.cell (p := ⟨b, o, none⟩) hl (hn ⟨b, off, none⟩ e)
  exact ⟨b, off, e, Nat.lt_of_lt_of_le hl hs.size, (q _).trans h0, (q _).trans h1, (q _).trans h2⟩
/-- A town, and two worlds beside it: what deals make, and what there is. -/
structure NvS (w0 w : World) (p b m : Nat) (c : Nat → Nat) (ws : Nat → Int) (T : Twn) (b1 b2 : Nat) (f g : Nat → Int) : Prop where
  tl : TLv w0 (fun k => k = b1 ∨ k = b2) w p b m c ws T
  x : BoxAt w b1 [.int .i64 (f 0), .int .i64 (f 1), .int .i64 (f 2), .int .i64 (f 3), .int .i64 (f 4), .int .i64 (f 5)]
  y : BoxAt w b2 [.int .i64 (g 0), .int .i64 (g 1), .int .i64 (g 2), .int .i64 (g 3), .int .i64 (g 4), .int .i64 (g 5)]
  fz : ∀ j, w.frozen? ⟨b2, j, none⟩ = false
  ne : b1 ≠ b2
  ge : w0.heap.size ≤ b2
theorem NvS.next {w0 w w1 : World} {p b m : Nat} {c : Nat → Nat} {ws : Nat → Int} {T : Twn} {b1 b2 : Nat} {f g : Nat → Int} (h : NvS w0 w p b m c ws T b1 b2 f g) (hb : Below w.heap.size w w1) : NvS w0 w1 p b m c ws T b1 b2 f g :=
  ⟨h.tl.next hb, h.x.next hb, h.y.next hb, loose b2 hb h.y.1 h.fz, h.ne, h.ge⟩
theorem NvS.set {w0 w : World} {p b m : Nat} {c : Nat → Nat} {ws : Nat → Int} {T : Twn} {b1 b2 : Nat} {f g : Nat → Int} (h : NvS w0 w p b m c ws T b1 b2 f g) {n : Nat} (hn : n < 6) (v : Int) : NvS w0 (w.setCell ⟨b2, n, none⟩ (.int .i64 v)) p b m c ws T b1 b2 f (upd g n v) := by
  have hs : Save (fun j => j = b2) w (w.setCell ⟨b2, n, none⟩ (.int .i64 v)) := (Save.refl (fun j => j = b2) w).setCell (p := ⟨b2, n, none⟩) (fun _ => rfl) _
  have hc : ∀ k, k < 6 → (w.setCell ⟨b2, n, none⟩ (.int .i64 v)).cell? ⟨b2, k, none⟩ = some (.int .i64 (upd g n v k)) := by
    intro k hk
    unfold upd
    by_cases e : k = n
    · subst e
      rw [cell_set_same (box6_at h.y hk), if_pos rfl]
    · rw [cell_set_off (by omega), box6_at h.y hk, if_neg e]
  refine ⟨h.tl.keep hs (fun k hk => by rw [hk]; exact ⟨.inr rfl, h.ge⟩), h.x.save hs h.ne, ?_, fun j => by simpa [go_sem] using h.fz j, h.ne, h.ge⟩
  exact box_s6 (by simpa using h.y.1) (hc 0 (by omega)) (hc 1 (by omega)) (hc 2 (by omega)) (hc 3 (by omega)) (hc 4 (by omega)) (hc 5 (by omega))
theorem NvS.congr {w0 w : World} {p b m : Nat} {c : Nat → Nat} {ws : Nat → Int} {T : Twn} {b1 b2 : Nat} {f g g' : Nat → Int} (h : NvS w0 w p b m c ws T b1 b2 f g) (he : ∀ k, k < 6 → g k = g' k) : NvS w0 w p b m c ws T b1 b2 f g' :=
  ⟨h.tl, h.x, by have := h.y; rw [he 0 (by omega), he 1 (by omega), he 2 (by omega), he 3 (by omega), he 4 (by omega), he 5 (by omega)] at this; exact this, h.fz, h.ne, h.ge⟩

set_option maxHeartbeats 16000000 in
set_option maxRecDepth 100000 in
theorem tnever_walk (ws : Nat → Int) (la : Option Addr) (ll lc : Nat) (l : List TSp) (w : World) (hl : TStAt w la l) (hll : l.length = ll) :
    Calls Try.prog 5 #[.agg #[.int .i64 (ws 0), .int .i64 (ws 1), .int .i64 (ws 2), .int .i64 (ws 3), .int .i64 (ws 4), .int .i64 (ws 5)], .slice la ll lc] w fun e w' => e = .returned (.bool true) ∧ Below w.heap.size w w' := by
  have HL0 := hid hl
  have HLL := hid hll
  clear hl hll
  go_enter Try.func5, Try.ntmps5
  go_upto_region 1 with fail
  have hb1 : Below w.heap.size w (w.alloc (.cells #[.int .i64 (ws 0), .int .i64 (ws 1), .int .i64 (ws 2), .int .i64 (ws 3), .int .i64 (ws 4), .int .i64 (ws 5)] 42)) := (Below.refl _ _).alloc (Nat.le_refl _) _
  have hX : BoxAt (w.alloc (.cells #[.int .i64 (ws 0), .int .i64 (ws 1), .int .i64 (ws 2), .int .i64 (ws 3), .int .i64 (ws 4), .int .i64 (ws 5)] 42)) w.heap.size [.int .i64 (ws 0), .int .i64 (ws 1), .int .i64 (ws 2), .int .i64 (ws 3), .int .i64 (ws 4), .int .i64 (ws 5)] := BoxAt.new w _ _
  generalize (w.alloc (.cells #[.int .i64 (ws 0), .int .i64 (ws 1), .int .i64 (ws 2), .int .i64 (ws 3), .int .i64 (ws 4), .int .i64 (ws 5)] 42)) = w1 at hb1 hX ⊢
  generalize hbx : w.heap.size = bx at hX ⊢
  have HB1 := hid hb1
  have HX1 := hid hX
  have HBX := hid hbx
  clear hb1 hX hbx
  go_wp2_with fail
  refine Calls.mono (tbegun_any w1) ?_
  rintro e w2 ⟨rfl, hb2⟩
  have HX2 := hid (HX1.out.next hb2)
  have HB2 := hid (after HB1.out hb2 HB1.out.size)
  have HL2 := hid (HL0.out.below HB2.out)
  clear hb2 HX1 HB1
  go_wp2_with fail
  refine Calls.mono (greatT_any la ll lc l w2 HL2.out HLL.out) ?_
  rintro e w3 ⟨⟨g, rfl, hg⟩, rfl⟩
  have HB3 : Hid (Below w.heap.size w w3) := HB2
  have HL3 : Hid (TStAt w3 la l) := HL2
  have HX3 : Hid (BoxAt w3 bx [.int .i64 (ws 0), .int .i64 (ws 1), .int .i64 (ws 2), .int .i64 (ws 3), .int .i64 (ws 4), .int .i64 (ws 5)]) := HX2
  clear HB2 HL2 HX2
  cases g with
  | true =>
    clear hg
    go_wp2_with fail
    go_ret
    exact ⟨rfl, HB3.out⟩
  | false =>
  have HG := hid (hg rfl)
  clear hg
  have x0 := HX3.out.2 0 _ rfl
  have x1 := HX3.out.2 1 _ rfl
  have x2 := HX3.out.2 2 _ rfl
  have x3 := HX3.out.2 3 _ rfl
  have x4 := HX3.out.2 4 _ rfl
  have x5 := HX3.out.2 5 _ rfl
  by_cases hok : OkT ws
  case neg =>
    have HC := hid (new_nil hok w3)
    clear hok
    go_wp2_with fail
    refine Calls.mono HC.out ?_
    rintro e w4 ⟨rfl, hb4⟩
    have HB4 := hid (after HB3.out hb4 HB3.out.size)
    clear hb4 HC x0 x1 x2 x3 x4 x5
    go_wp2_with fail
    go_ret
    exact ⟨rfl, HB4.out⟩
  have HC := hid (new_tlv hok w3)
  clear hok
  go_wp2_with fail
  refine Calls.mono HC.out ?_
  rintro e w4 ⟨p, b, m, c, rfl, hT4⟩
  have HT4 := hid hT4
  have j2 : (ll : Int) ≤ 250 := by have := HG.out.1; omega
  clear hT4 HC x0 x1 x2 x3 x4 x5
  go_wp2_with fail
  go_loopg [6, 7, 8, 9, 10, 11, 12, 13, 14, 15, 16] ll (fun g s6 _ _ _ _ _ _ _ _ _ _ wr => ∃ (k : Nat) (T : Twn), k ≤ ll ∧ g = ll - k ∧ s6 = .int .i64 k ∧ Hid (TLv w3 (fun k => k ∈ ([] : List Nat)) wr p b m c ws T))
  case atStart => exact ⟨0, _, Nat.zero_le _, rfl, rfl, HT4⟩
  case round =>
  obtain ⟨k, T0, hk, rfl, rfl, HT0⟩ := hrel
  clear HT4
  by_cases hlt : k < ll
  case neg =>
    have j1 : ¬ (k : Int) < (ll : Int) := by omega
    clear hk hlt
    go_wp2_with fail
    go_ret
    exact ⟨rfl, after HB3.out HT0.out.below HB3.out.size⟩
  obtain ⟨x, hx⟩ : ∃ x, l[k]? = some x := ⟨_, List.getElem?_eq_getElem (by have := HLL.out; omega)⟩
  obtain ⟨bl, ol, sa, sc, rfl, hbl, hWx, q0, q1, q2⟩ := HL3.out.at HT0.out.below hx
  have HC := hid (step_tlv (sc := sc) x HT0.out hWx)
  have HK := hid hlt
  have j0 : (0 : Int) ≤ (k : Int) := by omega
  have j1 : (k : Int) < (ll : Int) := by omega
  clear hWx hx hk hlt hbl
  generalize (townR T0 x).1 = cde at HC
  generalize (townR T0 x).2 = T at HC
  go_wp2_with fail
  refine Calls.mono HC.out ?_
  rintro e w5 ⟨rfl, hT5, _⟩
  have HT5 := hid hT5
  clear HC hT5 q0 q1 q2 HT0
  go_wp2_with fail
  go_loopg [7, 8, 9, 10] 3 (fun g s7 _ _ _ wx => ∃ s : Nat, s ≤ 3 ∧ g = 3 - s ∧ s7 = .int .i64 s ∧ Hid (TLv w3 (fun k => k ∈ ([] : List Nat)) wx p b m c ws T))
  case atStart => exact ⟨0, Nat.zero_le _, rfl, rfl, HT5⟩
  case round =>
  clear HT5
  obtain ⟨s, hs, rfl, rfl, HT⟩ := hrel
  by_cases hs3 : s < 3
  case pos =>
    have s1 : (s : Int) < 3 := by omega
    have s0 : (0 : Int) ≤ (s : Int) := by omega
    have HS3 := hid hs3
    have HCk := hid (clerk_tlv (s : Int) HT.out)
    rw [clkP_at c hs3] at HCk
    obtain ⟨q, r, k0, k1, l0, l1, hcl⟩ := shop_tlv HT.out hs3
    have HCn := hid (hcl _ (Below.refl _ _)).1
    have HOk : Hid (∀ j, j < 2 → 0 ≤ cnt6 (T.P s).A (j * 3 + 1) ∧ cnt6 (T.P s).A (j * 3 + 1) ≤ cnt6 (T.P s).A (j * 3) ∧ 0 ≤ cnt6 (T.P s).A (j * 3 + 2) ∧ cnt6 (T.P s).A (j * 3) + cnt6 (T.P s).A (j * 3 + 2) ≤ 100) := fun j hj => cnt_ok HT.out.full hs3 hj
    clear hs hs3 hcl
    generalize cnt6 (T.P s).A = f at HCn HOk
    go_wp2_with fail
    refine Calls.mono HCk.out ?_
    rintro e w6 ⟨rfl, rfl⟩
    go_wp2_with fail
    refine Calls.mono HCn.out ?_
    rintro e w7 ⟨rfl, hb7⟩
    simp only [cntV]
    have HT7 := hid (HT.out.next hb7)
    clear HCk HCn k0 k1 l0 l1 hb7 HT
    go_upto_region 19 with fail
    have hbn : Below w7.heap.size w7 (w7.alloc (.cells #[.int .i64 (f 0), .int .i64 (f 1), .int .i64 (f 2), .int .i64 (f 3), .int .i64 (f 4), .int .i64 (f 5)] 73)) := (Below.refl _ _).alloc (Nat.le_refl _) _
    have hX : BoxAt (w7.alloc (.cells #[.int .i64 (f 0), .int .i64 (f 1), .int .i64 (f 2), .int .i64 (f 3), .int .i64 (f 4), .int .i64 (f 5)] 73)) w7.heap.size [.int .i64 (f 0), .int .i64 (f 1), .int .i64 (f 2), .int .i64 (f 3), .int .i64 (f 4), .int .i64 (f 5)] := BoxAt.new w7 _ _
    have HT8 := hid (HT7.out.next hbn)
    generalize (w7.alloc (.cells #[.int .i64 (f 0), .int .i64 (f 1), .int .i64 (f 2), .int .i64 (f 3), .int .i64 (f 4), .int .i64 (f 5)] 73)) = w8 at hX HT8 ⊢
    generalize w7.heap.size = b9 at hX ⊢
    have HX := hid hX
    clear hX hbn HT7
    go_wp2_with fail
    go_loopg [10] 2 (fun g s10 wx => ∃ j : Nat, j ≤ 2 ∧ g = 2 - j ∧ s10 = .int .i64 j ∧ Hid (Below w8.heap.size w8 wx))
    case atStart => exact ⟨0, Nat.zero_le _, rfl, rfl, Below.refl _ _⟩
    case round =>
    obtain ⟨j, hj, rfl, rfl, HBx⟩ := hrel
    by_cases hj2 : j < 2
    case pos =>
      have t1 : (j : Int) < 2 := by omega
      have t0 : (0 : Int) ≤ (j : Int) := by omega
      have HJ := hid hj2
      have e0 := box6_at (HX.out.next HBx.out) (k := j * 3) (by omega)
      have e1 := box6_at (HX.out.next HBx.out) (k := j * 3 + 1) (by omega)
      have e2 := box6_at (HX.out.next HBx.out) (k := j * 3 + 2) (by omega)
      obtain ⟨o1, o2, o3, o4⟩ := HOk.out j hj2
      have HChk := hid (check_any (f (j * 3)) (f (j * 3 + 1)) (f (j * 3 + 2)) wr)
      rw [chk_zero o1 o2 o3 o4] at HChk
      have HO4 : Hid (0 ≤ f (j * 3 + 1) ∧ f (j * 3 + 1) ≤ f (j * 3) ∧ 0 ≤ f (j * 3 + 2) ∧ f (j * 3) + f (j * 3 + 2) ≤ 100) := ⟨o1, o2, o3, o4⟩
      have HBw : Hid (∀ w', Below wr.heap.size wr w' → w'.cell? ⟨b9, j * 3, none⟩ = some (.int .i64 (f (j * 3))) ∧ w'.cell? ⟨b9, j * 3 + 1, none⟩ = some (.int .i64 (f (j * 3 + 1))) ∧ w'.cell? ⟨b9, j * 3 + 2, none⟩ = some (.int .i64 (f (j * 3 + 2)))) := fun w' hb => ⟨box6_at ((HX.out.next HBx.out).next hb) (by omega), box6_at ((HX.out.next HBx.out).next hb) (by omega), box6_at ((HX.out.next HBx.out).next hb) (by omega)⟩
      clear hj hj2 o1 o2 o3 o4
      generalize f (j * 3) = v at *
      generalize f (j * 3 + 1) = o at *
      generalize f (j * 3 + 2) = n at *
      have lo : ¬ v - o < 0 := by have := HO4.out; omega
      have hi : ¬ 100 < v + n := by have := HO4.out; omega
      go_wp2_with fail
      refine Calls.mono HChk.out ?_
      rintro e w9 ⟨rfl, hb9⟩
      obtain ⟨d0, d1, d2⟩ := HBw.out _ hb9
      have HB9 := hid hb9
      clear e0 e1 e2 hb9 HChk
      go_wp2_with fail
      refine Calls.mono (low_any v o n w9 (by have := HO4.out; omega) (by have := HO4.out; omega) (by have := HO4.out; omega) (by have := HO4.out; omega)) ?_
      rintro e w10 ⟨rfl, hb10⟩
      have HB10 := hid (after HB9.out hb10 HB9.out.size)
      obtain ⟨g0, g1, g2⟩ := HBw.out _ HB10.out
      clear d0 d1 d2 hb10 HB9
      go_wp2_with fail
      refine Calls.mono (high_any v o n w10 (by have := HO4.out; omega) (by have := HO4.out; omega) (by have := HO4.out; omega) (by have := HO4.out; omega)) ?_
      rintro e w11 ⟨rfl, hb11⟩
      have HB11 := hid (after HB10.out hb11 HB10.out.size)
      clear g0 g1 g2 hb11 HB10
      go_wp2_with fail
      go_roundg (2 - (j + 1))
      case measure => have := HJ.out; omega
      case rel => exact ⟨j + 1, HJ.out, rfl, by simp, after HBx.out HB11.out HBx.out.size⟩
    have t1 : ¬ (j : Int) < 2 := by omega
    clear hj hj2
    have HT9 := hid (HT8.out.next HBx.out)
    clear HBx HX HT8
    go_wp2_with fail
    go_roundg (3 - (s + 1))
    case measure => have := HS3.out; omega
    case rel => exact ⟨s + 1, HS3.out, rfl, by simp, HT9⟩
  have s1 : ¬ (s : Int) < 3 := by omega
  clear hs hs3
  have HSr := hid (serial_tlv HT.out)
  have HFl := hid HT.out.full
  obtain ⟨f, hf⟩ : ∃ f, f = curR ws T := ⟨_, rfl⟩
  have HF := hid hf
  rw [← hf] at HSr
  clear hf
  go_wp2_with fail
  refine Calls.mono HSr.out ?_
  rintro e w5 ⟨rfl, hb5⟩
  simp only [wldV]
  go_upto_region 25 with fail
  have hbn : Below w5.heap.size w5 (w5.alloc (.cells #[.int .i64 (f 0), .int .i64 (f 1), .int .i64 (f 2), .int .i64 (f 3), .int .i64 (f 4), .int .i64 (f 5)] 42)) := (Below.refl _ _).alloc (Nat.le_refl _) _
  have hX : BoxAt (w5.alloc (.cells #[.int .i64 (f 0), .int .i64 (f 1), .int .i64 (f 2), .int .i64 (f 3), .int .i64 (f 4), .int .i64 (f 5)] 42)) w5.heap.size [.int .i64 (f 0), .int .i64 (f 1), .int .i64 (f 2), .int .i64 (f 3), .int .i64 (f 4), .int .i64 (f 5)] := BoxAt.new w5 _ _
  have HT6 := hid ((HT.out.next hb5).more hbn (Z' := fun k => k = w5.heap.size) (fun k hk => .inr (by rw [hk]; exact ⟨Nat.le_refl _, hX.1⟩)))
  generalize (w5.alloc (.cells #[.int .i64 (f 0), .int .i64 (f 1), .int .i64 (f 2), .int .i64 (f 3), .int .i64 (f 4), .int .i64 (f 5)] 42)) = w6 at hX HT6 ⊢
  generalize w5.heap.size = b1 at hX HT6 ⊢
  have HX := hid hX
  obtain ⟨v, hv⟩ : ∃ v, v = valT T := ⟨_, rfl⟩
  have HWd := hid (world_is HT6.out (f := v) (fun k _ => by rw [hv]))
  have HVv := hid hv
  clear hX hbn hb5 HSr HT hv
  go_wp2_with fail
  refine Calls.mono HWd.out ?_
  rintro e w7 ⟨rfl, hb7⟩
  have HT7 := hid (HT6.out.next hb7)
  have HX7 := hid (HX.out.next hb7)
  clear hb7 HWd HX HT6
  go_upto_region 28 with fail
  have hbn : Below w7.heap.size w7 (w7.alloc (.cells #[.int .i64 (v 0), .int .i64 (v 1), .int .i64 (v 2), .int .i64 (v 3), .int .i64 (v 4), .int .i64 (v 5)] 42)) := (Below.refl _ _).alloc (Nat.le_refl _) _
  have hY : BoxAt (w7.alloc (.cells #[.int .i64 (v 0), .int .i64 (v 1), .int .i64 (v 2), .int .i64 (v 3), .int .i64 (v 4), .int .i64 (v 5)] 42)) w7.heap.size [.int .i64 (v 0), .int .i64 (v 1), .int .i64 (v 2), .int .i64 (v 3), .int .i64 (v 4), .int .i64 (v 5)] := BoxAt.new w7 _ _
  have HN8 : Hid (NvS w3 (w7.alloc (.cells #[.int .i64 (v 0), .int .i64 (v 1), .int .i64 (v 2), .int .i64 (v 3), .int .i64 (v 4), .int .i64 (v 5)] 42)) p b m c ws T b1 w7.heap.size f (nowR T 0)) := by
    refine ⟨HT7.out.more hbn (fun k hk => hk.elim .inl (fun q => .inr (by rw [q]; exact ⟨Nat.le_refl _, hY.1⟩))), HX7.out.next hbn, ?_, fun j => by simp [go_sem], Nat.ne_of_lt HX7.out.1, HT7.out.below.size⟩
    have e : nowR T 0 = v := by rw [HVv.out]; rfl
    rw [e]
    exact hY
  generalize (w7.alloc (.cells #[.int .i64 (v 0), .int .i64 (v 1), .int .i64 (v 2), .int .i64 (v 3), .int .i64 (v 4), .int .i64 (v 5)] 42)) = w8 at HN8 ⊢
  generalize w7.heap.size = b2 at HN8 ⊢
  clear hbn hY HT7 HX7
  go_wp2_with fail
  go_loopg [14, 15, 16] 3 (fun g s14 _ _ wx => ∃ s : Nat, s ≤ 3 ∧ g = 3 - s ∧ s14 = .int .i64 s ∧ Hid (NvS w3 wx p b m c ws T b1 b2 f (nowR T s)))
  case atStart => exact ⟨0, Nat.zero_le _, rfl, rfl, HN8⟩
  case round =>
  clear HN8
  obtain ⟨s, hs, rfl, rfl, HN⟩ := hrel
  by_cases hs3 : s < 3
  case neg =>
    have s1 : ¬ (s : Int) < 3 := by omega
    have hse : s = 3 := by omega
    subst hse
    clear hs
    have HN2 := hid (HN.out.congr (g' := f) (fun k hk => by rw [HFl.out.now hk, HF.out]))
    have a0 := HN2.out.x.2 0 _ rfl
    have a1 := HN2.out.x.2 1 _ rfl
    have a2 := HN2.out.x.2 2 _ rfl
    have a3 := HN2.out.x.2 3 _ rfl
    have a4 := HN2.out.x.2 4 _ rfl
    have a5 := HN2.out.x.2 5 _ rfl
    have y0 := HN2.out.y.2 0 _ rfl
    have y1 := HN2.out.y.2 1 _ rfl
    have y2 := HN2.out.y.2 2 _ rfl
    have y3 := HN2.out.y.2 3 _ rfl
    have y4 := HN2.out.y.2 4 _ rfl
    have y5 := HN2.out.y.2 5 _ rfl
    have hq := eq6
    have HTe := hid (HN2.out.tl.less (Z' := fun k => k ∈ ([] : List Nat)) (fun k hk => by simp at hk))
    clear HN HN2
    go_wp2_with fail
    go_roundg (ll - (k + 1))
    case measure => have := HK.out; omega
    case rel => exact ⟨k + 1, _, HK.out, rfl, by simp, HTe⟩
  have s1 : (s : Int) < 3 := by omega
  have s0 : (0 : Int) ≤ (s : Int) := by omega
  have HS3 := hid hs3
  have HCk := hid (clerk_tlv (s : Int) HN.out.tl)
  rw [clkP_at c hs3] at HCk
  obtain ⟨q, r, k0, k1, l0, l1, hcl⟩ := shop_tlv HN.out.tl hs3
  have HHd := hid (hcl _ (Below.refl _ _)).2
  have HHo := hid (HFl.out.holds hs3)
  have HPb : Hid (∀ (i : Nat) (j : Nat), j < 6 → -10000 ≤ heldAdd T.B (s : Int) ((T.P s).A.hs.take i) (nowR T s) j ∧ heldAdd T.B (s : Int) ((T.P s).A.hs.take i) (nowR T s) j ≤ 10000) := fun i j hj => part_bound HFl.out hs3 hj i
  have HNx : Hid (nowR T (s + 1) = heldAdd T.B (s : Int) (T.P s).A.hs (nowR T s)) := rfl
  have HLe : Hid ((T.P s).A.hs.length ≤ 24) := (HFl.out.shop hs3).2.2.2.1
  clear hs hs3 hcl
  generalize nowR T s = g0 at *
  generalize (T.P s).A.hs = hs at *
  go_wp2_with fail
  refine Calls.mono HCk.out ?_
  rintro e w9 ⟨rfl, rfl⟩
  go_wp2_with fail
  refine Calls.mono HHd.out ?_
  rintro e w10 ⟨⟨gh, ch, rfl, hHA, hga⟩, hb10⟩
  have HN10 := hid (HN.out.next hb10)
  have HHA := hid hHA
  have HGn : Hid (∀ a, gh = some a → ¬ a.block = b2) := fun a ha q => by
    have z1 := (hga a ha).1
    have z2 := HN.out.y.1
    omega
  clear hb10 hHA hga HCk HHd k0 k1 l0 l1 HN
  go_wp2_with fail
  go_loopg [16] hs.length (fun gg s16 wx => ∃ i : Nat, i ≤ hs.length ∧ gg = hs.length - i ∧ s16 = .int .i64 i ∧ Hid (NvS w3 wx p b m c ws T b1 b2 f (heldAdd T.B (s : Int) (hs.take i) g0)) ∧ Hid (Save (fun j => j = b2) w10 wx))
  case atStart => exact ⟨0, Nat.zero_le _, rfl, rfl, HN10, Save.refl _ _⟩
  case round =>
  clear HN10
  obtain ⟨i, hi, rfl, rfl, HN, HSv⟩ := hrel
  by_cases hil : i < hs.length
  case neg =>
    have i1 : ¬ (i : Int) < (hs.length : Int) := by omega
    have hE : hs.take i = hs := List.take_of_length_le (by omega)
    rw [hE] at HN
    clear hi hE
    go_wp2_with fail
    go_roundg (3 - (s + 1))
    case measure => have := HS3.out; omega
    case rel => exact ⟨s + 1, HS3.out, rfl, by simp, by rw [HNx.out]; exact HN⟩
  obtain ⟨⟨dl, cn, dd⟩, hx⟩ : ∃ y, hs[i]? = some y := ⟨_, List.getElem?_eq_getElem hil⟩
  obtain ⟨bh, oh, rfl, hbh, p0, p1, p2⟩ := HHA.out i dl cn dd hx
  have hnb := HGn.out _ rfl
  have hce : ∀ o, wr.cell? ⟨bh, o, none⟩ = w10.cell? ⟨bh, o, none⟩ := fun o => HSv.out.cell (p := ⟨bh, o, none⟩) hbh hnb
  obtain ⟨c0', c6, hsp, _, d1, d2⟩ := HHo.out (dl, cn, dd) (List.mem_of_getElem? hx)
  dsimp only at c0' c6 hsp d1 d2
  obtain ⟨n, rfl⟩ : ∃ n : Nat, cn = (n : Int) := ⟨cn.toNat, by omega⟩
  have hn6 : n < 6 := by omega
  have hE : heldAdd T.B (s : Int) (hs.take (i + 1)) g0 = if stR T.B dl = 1 ∧ shp (n : Int) = (s : Int) then upd (heldAdd T.B (s : Int) (hs.take i) g0) n (heldAdd T.B (s : Int) (hs.take i) g0 n + dd) else heldAdd T.B (s : Int) (hs.take i) g0 := by
    rw [take_snoc hx, heldAdd_snoc]
    simp only [Int.toNat_natCast]
  have e0 : wr.cell? ⟨bh, oh + i * 3, none⟩ = some (.int .i64 dl) := (hce _).trans p0
  have e1 : wr.cell? ⟨bh, oh + i * 3 + 1, none⟩ = some (.int .i64 (n : Int)) := (hce _).trans p1
  have e2 : wr.cell? ⟨bh, oh + i * 3 + 2, none⟩ = some (.int .i64 dd) := (hce _).trans p2
  have pc0 := HN.out.tl.c0.1
  have HST := hid (fun W (hW : Below wr.heap.size wr W) => state_tlv dl (HN.out.tl.next hW))
  have HI := hid hil
  have i0 : (0 : Int) ≤ (i : Int) := by omega
  have i1 : (i : Int) < (hs.length : Int) := by omega
  have i2 : (hs.length : Int) ≤ 24 := by have := HLe.out; omega
  have hwr : IntKind.i64.wrap (heldAdd T.B (s : Int) (hs.take i) g0 n + dd) = heldAdd T.B (s : Int) (hs.take i) g0 n + dd := by
    have := HPb.out i n hn6
    go_unwrap
  have hcy := box6_at HN.out.y hn6
  have hfz := HN.out.fz
  have n0 : (0 : Int) ≤ (n : Int) := by omega
  have n6 : (n : Int) < 6 := by omega
  have HN6 := hid hn6
  have hlb : b2 < wr.heap.size := HN.out.y.1
  have hbl2 : bh < wr.heap.size := Nat.lt_of_lt_of_le hbh HSv.out.size
  have hne2 : ¬ bh = b2 := hnb
  by_cases hst : stR T.B dl = 1
  case pos =>
    rw [if_pos ⟨hst, hsp⟩] at hE
    rw [hst] at HST
    have HE := hid hE
    have hsp' : (shp (n : Int) == (s : Int)) = true := by rw [hsp]; simp
    clear hE hst hx hi hil p0 p1 p2 hce hbh hnb c0' c6 d1 d2 hsp hn6
    generalize heldAdd T.B (s : Int) (hs.take i) g0 = g1 at *
    go_upto_region 35 with fail
    go_quiet ((first | (go_at_call 19; exact Calls.quiet_of_same (HST.out _ (bdrewN (Below.refl _ _) _))) | (go_at_call 36; exact Calls.quiet_of_same (shopOf_any _ _))))
    go_upto_region 36 with fail
    have e0' : (wr.drewN nq).cell? ⟨bh, oh + i * 3, none⟩ = some (.int .i64 dl) := e0
    have e1' : (wr.drewN nq).cell? ⟨bh, oh + i * 3 + 1, none⟩ = some (.int .i64 (n : Int)) := e1
    have e2' : (wr.drewN nq).cell? ⟨bh, oh + i * 3 + 2, none⟩ = some (.int .i64 dd) := e2
    have hcy' : (wr.drewN nq).cell? ⟨b2, n, none⟩ = some (.int .i64 (g1 n)) := hcy
    have hfz' : ∀ j, (wr.drewN nq).frozen? ⟨b2, j, none⟩ = false := hfz
    have HNd := hid (HN.out.next (bdrewN (Below.refl _ _) nq))
    have HSd := hid (HSv.out.next (bdrewN (Below.refl _ _) nq))
    clear e0 e1 e2 hcy hfz pc0 HST hlb hbl2 HHA HHo HPb HN HSv HGn
    generalize wr.drewN nq = W at *
    go_region
    go_wp2_with fail
    go_roundg (hs.length - (i + 1))
    case measure => have := HI.out; omega
    case rel =>
      refine ⟨i + 1, HI.out, rfl, by simp, ?_, ?_⟩
      · rw [HE.out]
        exact (HNd.out.next ((Below.refl _ _).drew)).set HN6.out (g1 n + dd)
      · exact (HSd.out.next ((Below.refl _ _).drew)).setCell (p := ⟨b2, n, none⟩) (fun _ => rfl) _
  rw [if_neg (fun q => hst q.1)] at hE
  have hst' : (stR T.B dl == 1) = false := by rw [beq_eq_false_iff_ne]; exact hst
  have HE := hid hE
  clear hE hst hx hi hil p0 p1 p2 hce hbh hnb c0' c6 d1 d2 hsp hn6 hwr hcy
  generalize heldAdd T.B (s : Int) (hs.take i) g0 = g1 at *
  generalize stR T.B dl = st at HST hst'
  go_upto_region 35 with fail
  go_quiet ((first | (go_at_call 19; exact Calls.quiet_of_same (HST.out _ (bdrewN (Below.refl _ _) _))) | (go_at_call 36; exact Calls.quiet_of_same (shopOf_any _ _))))
  go_wp2_with fail
  go_roundg (hs.length - (i + 1))
  case measure => have := HI.out; omega
  case rel => exact ⟨i + 1, HI.out, rfl, by simp, by rw [HE.out]; exact HN.out.next (bdrewN (Below.refl _ _) nq), HSv.out.next (bdrewN (Below.refl _ _) nq)⟩

end Go.Proofs.Ytbgnajcmhmpjlac

namespace Go.Proofs.Ytbgnajcmhmpjlac
open Go.ChangeShapes Go.WideShapes Go.ChangeAt Go.RowKit Go.Deep

theorem Try.ownTownNever : ownKnob Try.prog.godebug = none := by kernel_rfl
theorem Try.laidOutTownNever : laidOutB Try.prog = true := by kernel_rfl

set_option maxRecDepth 100000 in
theorem townNever_lifted (os : Os) (started : os.Started) (H : Type) (enc : TypeId × Value → H) :
    ReturnsInHanded {} Try.checked os 5 .any (Rows.townNeverSpec.pre6 enc Try.prog Try.f5 Rows.townNeverRow.domain false) (Rows.townNeverSpec.post enc Try.prog Try.f5 false true false false) := by
  refine returnsInHanded_of_change (C := Try.checked) Try.ownTownNever started (by kernel_rfl) Try.func5
    (ChangeSpec.witness6 (enc := enc) (C := Try.checked) false ⟨#[], #[.agg #[.int .i64 0, .int .i64 0, .int .i64 0, .int .i64 0, .int .i64 0, .int .i64 0], .slice none 0 0], []⟩ 8 (by kernel_rfl) (by kernel_rfl) (by kernel_rfl) (by kernel_rfl)) ?_
  intro W base args ds gs before hval0 hW _ _
  have hval : ∀ (j : Nat) t v, Try.f5.params[j]? = some t → args[j]? = some v → Value.okWide Try.prog W .any base t v := hval0
  have hW' := hW
  obtain ⟨p, q, hA0, hV, rfl, hfz, hnd⟩ := hW
  have hA : DataW.TrodAll enc Try.prog W 0 (fun _ => true) true Try.f5.params.toList args.toList ds p := hA0
  rw [Try.params5] at hA hval
  obtain ⟨v0, v1, d0, d1, p0, p1, rfl, rfl, rfl, h0, h1⟩ := trodAll_two hA
  obtain ⟨rfl, rfl⟩ := trodVars_none hV
  have k0 := h0
  have lt0 : ∀ x ∈ p0, x.block < W.heap.size := by obtain ⟨m, hm⟩ := k0; exact DataW.trod_lt m _ _ _ hm
  have k1 := h1
  have lt1 : ∀ x ∈ p1, x.block < W.heap.size := by obtain ⟨m, hm⟩ := k1; exact DataW.trod_lt m _ _ _ hm
  obtain ⟨ws, rfl⟩ := open_world (hval 0 42 v0 rfl rfl) h0
  obtain ⟨a1, l1, c1, rfl⟩ := okWide_slice Try.underlying43 (hval 1 43 v1 rfl rfl)
  obtain ⟨l, hl, hll⟩ := open_tsteps h1
  clear hA0 hval0
  refine (tnever_walk ws a1 l1 c1 l W hl hll).mono fun e W' ⟨hret, hb⟩ => ?_
  subst hret
  exact ⟨_, rfl, _, _, _, [], _, [], hW', trodAll_mk1 (shut_bool Try.underlying4 true), trodAll_mk2 (Below.trod Try.laidOutTownNever (by kernel_rfl) (of_decide_eq_true (by kernel_rfl)) k0 hb lt0) (Below.trod Try.laidOutTownNever (by kernel_rfl) (of_decide_eq_true (by kernel_rfl)) k1 hb lt1), rfl, hb.frame _, fun h => by cases h⟩

theorem townNever_holds : Rows.TownNeverSaid :=
  OpenClaim.holds_of_wide 5 Try.f5 rfl rfl rfl rfl rfl rfl rfl ⟨rfl, rfl, rfl, rfl, rfl⟩ rfl rfl rfl rfl rfl (by kernel_rfl) Try.func5 (by kernel_rfl)
    (of_decide_eq_true (by kernel_rfl)) (by unfold Func.isWrapper; first | (rw [if_pos (by decide +kernel)]; kernel_rfl) | (rw [if_neg (by decide +kernel)]; exact ⟨rfl, rfl⟩))
    (fun os started H enc _ => townNever_lifted os started H enc)

#print axioms townNever_holds
end Go.Proofs.Ytbgnajcmhmpjlac
