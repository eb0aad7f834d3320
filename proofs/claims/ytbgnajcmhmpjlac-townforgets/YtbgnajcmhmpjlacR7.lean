/- For every world and every list of steps: the statement TownForgets of the program returns true, and its arguments read as before (no condition). -/
import Derived.BigQuiet
import Derived.Deep.RegionHeld3
import Derived.Test.YtbgnajcmhmpjlacRows
import Derived.Test.YtbgnajcmhmpjlacN6

/- What a law keeps while a town goes on: a world and a list of numbers in blocks of its own. -/
namespace Go.Proofs.Ytbgnajcmhmpjlac
open Go.RowKit

/-- The blocks that are kept. -/
def Zk (bx : Nat) (ga : Option Addr) : Nat → Prop := fun k => k = bx ∨ ∃ a, ga = some a ∧ a.block = k
theorem nums_save {O : Nat → Prop} {w w' : World} {ga : Option Addr} {l : List Int} (h : NumsAt w ga l) (hs : Save O w w') (hn : ∀ a, ga = some a → ¬ O a.block) : NumsAt w' ga l := by
  intro k x hk
  obtain ⟨b, off, e, hl, hc⟩ := h k x hk
  exact ⟨b, off, e, Nat.lt_of_lt_of_le hl hs.size, (hs.cell (p := ⟨b, off + k, none⟩) hl (hn ⟨b, off, none⟩ e)).trans hc⟩
structure Kpt (w : World) (bx : Nat) (f : Nat → Int) (ga : Option Addr) (l : List Int) : Prop where
  box : BoxAt w bx [.int .i64 (f 0), .int .i64 (f 1), .int .i64 (f 2), .int .i64 (f 3), .int .i64 (f 4), .int .i64 (f 5)]
  num : NumsAt w ga l
theorem Kpt.next {w w' : World} {bx : Nat} {f : Nat → Int} {ga : Option Addr} {l : List Int} (h : Kpt w bx f ga l) (hb : Below w.heap.size w w') : Kpt w' bx f ga l := ⟨h.box.next hb, h.num.below hb (Nat.le_refl _)⟩
theorem Kpt.step {w w' : World} {bx : Nat} {f : Nat → Int} {ga : Option Addr} {l : List Int} (h : Kpt w bx f ga l) (hs : Save (fun k => ¬ Zk bx ga k) w w') : Kpt w' bx f ga l :=
  ⟨h.box.save hs (fun q => q (.inl rfl)), nums_save h.num hs (fun a ha q => q (.inr ⟨a, ha, rfl⟩))⟩
/-- What a town that is kept beside them tells. -/
theorem world_is {w0 W : World} {Z : Nat → Prop} {p b m : Nat} {c : Nat → Nat} {ws f : Nat → Int} {T : Twn} (h : TLv w0 Z W p b m c ws T) (hf : ∀ k, k < 6 → valT T k = f k) : Calls Try.prog 31 #[.pointer (some ⟨p, 0, none⟩)] W fun e w' => e = .returned (.agg #[.int .i64 (f 0), .int .i64 (f 1), .int .i64 (f 2), .int .i64 (f 3), .int .i64 (f 4), .int .i64 (f 5)]) ∧ Below W.heap.size W w' := by
  have := world_tlv h
  unfold wldV at this
  rw [hf 0 (by omega), hf 1 (by omega), hf 2 (by omega), hf 3 (by omega), hf 4 (by omega), hf 5 (by omega)] at this
  exact this
theorem done_is {w0 W : World} {Z : Nat → Prop} {p b m : Nat} {c : Nat → Nat} {ws : Nat → Int} {T : Twn} {L : List Int} (h : TLv w0 Z W p b m c ws T) (hL : T.B.ord = L) : Calls Try.prog 20 #[.pointer (some ⟨b, 0, none⟩)] W fun e w' => (∃ g2 c2, e = .returned (.slice g2 L.length c2) ∧ NumsAt w' g2 L ∧ ∀ a, g2 = some a → W.heap.size ≤ a.block ∧ a.block < w'.heap.size) ∧ Below W.heap.size W w' := by
  refine (done_tlv h).mono ?_
  rintro e w' ⟨⟨v, he, hv⟩, hb⟩
  have hsl := hv
  obtain ⟨g2, c2, rfl, hN, _⟩ := nums_of_own hv
  rw [hL] at he hN
  exact ⟨⟨g2, c2, he, hN, fun a ha => by subst ha; exact hsl.lt a.block rfl⟩, hb⟩
theorem same_is {W : World} {g1 g2 : Option Addr} {c1 c2 : Nat} {L : List Int} (h1 : NumsAt W g1 L) (h2 : NumsAt W g2 L) (hl : L.length ≤ 8) : Calls Try.prog 39 #[.slice g1 L.length c1, .slice g2 L.length c2] W fun e w' => e = .returned (.bool true) ∧ Below W.heap.size W w' := by
  have := sameInts_any g1 g2 L.length L.length c1 c2 L L W h1 h2 rfl rfl (by omega)
  rw [decide_eq_true rfl] at this
  exact this
theorem mail_no {w0 W : World} {Z : Nat → Prop} {p b m : Nat} {c : Nat → Nat} {ws : Nat → Int} {T : Twn} (h : TLv w0 Z W p b m c ws T) (hM : T.M = []) : Calls Try.prog 27 #[.pointer (some ⟨p, 0, none⟩)] W fun e w' => (∃ g2 c2, e = .returned (.slice g2 0 c2)) ∧ Below W.heap.size W w' := by
  refine (mail_tlv h).mono ?_
  rintro e w' ⟨⟨g2, c2, he, _⟩, hb⟩
  rw [hM] at he
  exact ⟨⟨g2, c2, he⟩, hb⟩

end Go.Proofs.Ytbgnajcmhmpjlac

/- Two towns beside each other. -/
namespace Go.Proofs.Ytbgnajcmhmpjlac
open Go.RowKit

structure T2 (w0 : World) (w : World) (p b m : Nat) (c : Nat → Nat) (p' b' m' : Nat) (c' : Nat → Nat) (ws : Nat → Int) (T T' : Twn) : Prop where
  lv : Lv (Pr (TnIn p b m c ws T) (TnIn p' b' m' c' ws T')) w0 (fun k => k ∈ ([] : List Nat)) w
  full : Full ws T
  full' : Full ws T'
  ok : ∀ s : Nat, s < 3 → newOk (s : Int) ws = true
theorem T2.next {w0 w w1 : World} {p b m : Nat} {c : Nat → Nat} {p' b' m' : Nat} {c' : Nat → Nat} {ws : Nat → Int} {T T' : Twn} (h : T2 w0 w p b m c p' b' m' c' ws T T') (hb : Below w.heap.size w w1) : T2 w0 w1 p b m c p' b' m' c' ws T T' := ⟨h.lv.next (pr_stands (tn_stands ..) (tn_stands ..)) hb, h.full, h.full', h.ok⟩
theorem T2.left {w0 w : World} {p b m : Nat} {c : Nat → Nat} {p' b' m' : Nat} {c' : Nat → Nat} {ws : Nat → Int} {T T' : Twn} (h : T2 w0 w p b m c p' b' m' c' ws T T') : TLv w0 (fun k => k ∈ ([] : List Nat)) w p b m c ws T := by
  obtain ⟨O, h1, h2⟩ := h.lv.inn
  obtain ⟨OA, a1, a2, _⟩ := Pr.left (tn_stands ..) (tn_stands ..) h1
  exact ⟨⟨⟨OA, a1, fun k hk => h2 k (a2 k hk)⟩, h.lv.below, h.lv.kept⟩, h.full, h.ok⟩
theorem T2.right {w0 w : World} {p b m : Nat} {c : Nat → Nat} {p' b' m' : Nat} {c' : Nat → Nat} {ws : Nat → Int} {T T' : Twn} (h : T2 w0 w p b m c p' b' m' c' ws T T') : TLv w0 (fun k => k ∈ ([] : List Nat)) w p' b' m' c' ws T' := by
  obtain ⟨O, h1, h2⟩ := h.lv.inn
  obtain ⟨OA, a1, a2, _⟩ := Pr.right (tn_stands ..) (tn_stands ..) h1
  exact ⟨⟨⟨OA, a1, fun k hk => h2 k (a2 k hk)⟩, h.lv.below, h.lv.kept⟩, h.full', h.ok⟩
theorem T2.new {w0 w w1 : World} {p b m : Nat} {c : Nat → Nat} {p' b' m' : Nat} {c' : Nat → Nat} {ws : Nat → Int} (h : TLv w0 (fun k => k ∈ ([] : List Nat)) w p b m c ws (T00 ws)) (h1 : TLv w (fun k => k ∈ ([] : List Nat)) w1 p' b' m' c' ws (T00 ws)) : T2 w0 w1 p b m c p' b' m' c' ws (T00 ws) (T00 ws) :=
  ⟨Pr.new (tn_stands ..) (tn_stands ..) h.lv h1.below h1.lv, h.full, h.full, h.ok⟩
theorem step_l {w0 w : World} {p b m : Nat} {c : Nat → Nat} {p' b' m' : Nat} {c' : Nat → Nat} {ws : Nat → Int} {T T' : Twn} (x : TSp) {sa : Option Addr} {sc : Nat} (h : T2 w0 w p b m c p' b' m' c' ws T T') (hx : WantsAt w sa x.w) : Calls Try.prog 24 #[.pointer (some ⟨p, 0, none⟩), .agg #[.int .i64 x.kind, .int .i64 x.n, .slice sa x.w.length sc]] w fun e w' => e = .returned (.int .i64 (townR T x).1) ∧ T2 w0 w' p b m c p' b' m' c' ws (townR T x).2 T' := by
  obtain ⟨O, h1, h2⟩ := h.lv.inn
  obtain ⟨OA, a1, a2, a3⟩ := Pr.left (tn_stands ..) (tn_stands ..) h1
  refine (tstep_any x a1 (h.full.rdy h.ok) hx).mono ?_
  rintro e w' ⟨he, hT⟩
  exact ⟨he, (h.lv.step h2 (a3 w' _ (tn_stands ..) hT)).1, h.full.step x, h.full', h.ok⟩
theorem step_r {w0 w : World} {p b m : Nat} {c : Nat → Nat} {p' b' m' : Nat} {c' : Nat → Nat} {ws : Nat → Int} {T T' : Twn} (x : TSp) {sa : Option Addr} {sc : Nat} (h : T2 w0 w p b m c p' b' m' c' ws T T') (hx : WantsAt w sa x.w) : Calls Try.prog 24 #[.pointer (some ⟨p', 0, none⟩), .agg #[.int .i64 x.kind, .int .i64 x.n, .slice sa x.w.length sc]] w fun e w' => e = .returned (.int .i64 (townR T' x).1) ∧ T2 w0 w' p b m c p' b' m' c' ws T (townR T' x).2 := by
  obtain ⟨O, h1, h2⟩ := h.lv.inn
  obtain ⟨OA, a1, a2, a3⟩ := Pr.right (tn_stands ..) (tn_stands ..) h1
  refine (tstep_any x a1 (h.full'.rdy h.ok) hx).mono ?_
  rintro e w' ⟨he, hT⟩
  exact ⟨he, (h.lv.step h2 (a3 w' _ (tn_stands ..) hT)).1, h.full, h.full'.step x, h.ok⟩
theorem due_lst {w0 W : World} {Z : Nat → Prop} {p b m : Nat} {c : Nat → Nat} {ws : Nat → Int} {T : Twn} (h : TLv w0 Z W p b m c ws T) : Calls Try.prog 26 #[.pointer (some ⟨b, 0, none⟩)] W fun e w' => (∃ g2 c2, e = .returned (.slice g2 (dueR T.B).length c2) ∧ MailsAt w' g2 (dueR T.B)) ∧ Below W.heap.size W w' := by
  refine (due_tlv h).mono ?_
  rintro e w' ⟨⟨v, he, hv⟩, hb⟩
  obtain ⟨g2, c2, rfl, hN, _⟩ := mails_of_own hv
  exact ⟨⟨g2, c2, he, hN⟩, hb⟩
theorem same_mail {W : World} {g1 g2 : Option Addr} {c1 c2 : Nat} {L : List Ml} (h1 : MailsAt W g1 L) (h2 : MailsAt W g2 L) (hl : L.length ≤ 40) : Calls Try.prog 38 #[.slice g1 L.length c1, .slice g2 L.length c2] W fun e w' => e = .returned (.bool true) ∧ Below W.heap.size W w' := by
  refine (sameMail_any g1 g2 L.length L.length c1 c2 L L W h1 h2 rfl rfl (by omega)).mono ?_
  rintro e w' ⟨⟨t, he, ht⟩, hb⟩
  have : t = true := ht.2 rfl
  subst this
  exact ⟨he, hb⟩

end Go.Proofs.Ytbgnajcmhmpjlac

/- The walk of TownForgets: it answers true, whatever it is given. -/
namespace Go.Proofs.Ytbgnajcmhmpjlac
open Go.RowKit

set_option maxHeartbeats 16000000 in
set_option maxRecDepth 100000 in
theorem tforgets_walk (ws : Nat → Int) (la : Option Addr) (ll lc : Nat) (l : List TSp) (w : World) (hl : TStAt w la l) (hll : l.length = ll) :
    Calls Try.prog 7 #[.agg #[.int .i64 (ws 0), .int .i64 (ws 1), .int .i64 (ws 2), .int .i64 (ws 3), .int .i64 (ws 4), .int .i64 (ws 5)], .slice la ll lc] w fun e w' => e = .returned (.bool true) ∧ Below w.heap.size w w' := by
  have HL0 := hid hl
  have HLL := hid hll
  clear hl hll
  go_enter Try.func7, Try.ntmps7
  go_upto_region 1 with fail
  have hb1 : Below w.heap.size w (w.alloc (.cells #[.int .i64 (ws 0), .int .i64 (ws 1), .int .i64 (ws 2), .int .i64 (ws 3), .int .i64 (ws 4), .int .i64 (ws 5)] 42)) := (Below.refl _ _).alloc (Nat.le_refl _) _
  have hX : BoxAt (w.alloc (.cells #[.int .i64 (ws 0), .int .i64 (ws 1), .int .i64 (ws 2), .int .i64 (ws 3), .int .i64 (ws 4), .int .i64 (ws 5)] 42)) w.heap.size [.int .i64 (ws 0), .int .i64 (ws 1), .int .i64 (ws 2), .int .i64 (ws 3), .int .i64 (ws 4), .int .i64 (ws 5)] := BoxAt.new w _ _
  generalize (w.alloc (.cells #[.int .i64 (ws 0), .int .i64 (ws 1), .int .i64 (ws 2), .int .i64 (ws 3), .int .i64 (ws 4), .int .i64 (ws 5)] 42)) = w1 at hb1 hX ⊢
  generalize hbx : w.heap.size = bx at hX ⊢
  have HB1 := hid hb1
  have HX1 := hid hX
  have HBX := hid hbx
  clear hb1 hX hbx
  go_wp2_with fail
  refine Calls.mono (tbegun_any w1) ?_
  rintro e w2 ⟨rfl, hb2⟩
  have HX2 := hid (HX1.out.next hb2)
  have HB2 := hid (after HB1.out hb2 HB1.out.size)
  have HL2 := hid (HL0.out.below HB2.out)
  clear hb2 HX1 HB1
  go_wp2_with fail
  refine Calls.mono (greatT_any la ll lc l w2 HL2.out HLL.out) ?_
  rintro e w3 ⟨⟨g, rfl, hg⟩, rfl⟩
  have HB3 : Hid (Below w.heap.size w w3) := HB2
  have HL3 : Hid (TStAt w3 la l) := HL2
  have HX3 : Hid (BoxAt w3 bx [.int .i64 (ws 0), .int .i64 (ws 1), .int .i64 (ws 2), .int .i64 (ws 3), .int .i64 (ws 4), .int .i64 (ws 5)]) := HX2
  clear HB2 HL2 HX2
  cases g with
  | true =>
    clear hg
    go_wp2_with fail
    go_ret
    exact ⟨rfl, HB3.out⟩
  | false =>
  have HG := hid (hg rfl)
  clear hg
  have x0 := HX3.out.2 0 _ rfl
  have x1 := HX3.out.2 1 _ rfl
  have x2 := HX3.out.2 2 _ rfl
  have x3 := HX3.out.2 3 _ rfl
  have x4 := HX3.out.2 4 _ rfl
  have x5 := HX3.out.2 5 _ rfl
  have HK : Hid (∀ w', Below w3.heap.size w3 w' → w'.cell? ⟨bx, 0, none⟩ = some (.int .i64 (ws 0)) ∧ w'.cell? ⟨bx, 1, none⟩ = some (.int .i64 (ws 1)) ∧ w'.cell? ⟨bx, 2, none⟩ = some (.int .i64 (ws 2)) ∧ w'.cell? ⟨bx, 3, none⟩ = some (.int .i64 (ws 3)) ∧ w'.cell? ⟨bx, 4, none⟩ = some (.int .i64 (ws 4)) ∧ w'.cell? ⟨bx, 5, none⟩ = some (.int .i64 (ws 5))) := fun w' hb => ⟨(HX3.out.next hb).2 0 _ rfl, (HX3.out.next hb).2 1 _ rfl, (HX3.out.next hb).2 2 _ rfl, (HX3.out.next hb).2 3 _ rfl, (HX3.out.next hb).2 4 _ rfl, (HX3.out.next hb).2 5 _ rfl⟩
  have j2 : (ll : Int) ≤ 250 := by have := HG.out.1; omega
  by_cases hok : OkT ws
  case neg =>
    have HNl : Hid (∀ W, Below w3.heap.size w3 W → Calls Try.prog 23 #[.agg #[.int .i64 (ws 0), .int .i64 (ws 1), .int .i64 (ws 2), .int .i64 (ws 3), .int .i64 (ws 4), .int .i64 (ws 5)]] W fun e w' => e = .returned (.pointer none) ∧ Below W.heap.size W w') := fun W _ => new_nil hok W
    clear hok x0 x1 x2 x3 x4 x5
    go_upto_region 5 with fail
    go_region_held3 (fun w' => w'.cell? ⟨bx, 0, none⟩ = some (.int .i64 (ws 0)) ∧ w'.cell? ⟨bx, 1, none⟩ = some (.int .i64 (ws 1)) ∧ w'.cell? ⟨bx, 2, none⟩ = some (.int .i64 (ws 2)) ∧ w'.cell? ⟨bx, 3, none⟩ = some (.int .i64 (ws 3)) ∧ w'.cell? ⟨bx, 4, none⟩ = some (.int .i64 (ws 4)) ∧ w'.cell? ⟨bx, 5, none⟩ = some (.int .i64 (ws 5)))
      (first | exact HK.out _ (by go_grown))
      (first | (go_at_call 23; refine Calls.mono (HNl.out _ (by go_grown)) ?_; have hz81 : w3.heap.size ≤ w81.heap.size := hw81.size; rintro e w82 ⟨rfl, hb82⟩; have hw82 : Below w3.heap.size w3 w82 := after (by go_grown) hb82 (by first | omega | (simp <;> omega)); have hz82 : w3.heap.size ≤ w82.heap.size := hw82.size) | (go_at_call 23; refine Calls.mono (HNl.out _ (by go_grown)) ?_; rintro e w81 ⟨rfl, hb81⟩; have hw81 : Below w3.heap.size w3 w81 := after (by go_grown) hb81 (by first | omega | (simp <;> omega)); have hz81 : w3.heap.size ≤ w81.heap.size := hw81.size))
    all_goals
      go_wp2_with fail
      go_ret
      exact ⟨rfl, after HB3.out hw82 HB3.out.size⟩
  have HNw : Hid (∀ W, Below w3.heap.size w3 W → Calls Try.prog 23 #[.agg #[.int .i64 (ws 0), .int .i64 (ws 1), .int .i64 (ws 2), .int .i64 (ws 3), .int .i64 (ws 4), .int .i64 (ws 5)]] W fun e w' => ∃ p b m c, e = .returned (.pointer (some ⟨p, 0, none⟩)) ∧ TLv W (fun k => k ∈ ([] : List Nat)) w' p b m c ws (T00 ws)) := fun W _ => new_tlv hok W
  clear hok x0 x1 x2 x3 x4 x5
  go_upto_region 5 with fail
  go_region_held3 (fun w' => w'.cell? ⟨bx, 0, none⟩ = some (.int .i64 (ws 0)) ∧ w'.cell? ⟨bx, 1, none⟩ = some (.int .i64 (ws 1)) ∧ w'.cell? ⟨bx, 2, none⟩ = some (.int .i64 (ws 2)) ∧ w'.cell? ⟨bx, 3, none⟩ = some (.int .i64 (ws 3)) ∧ w'.cell? ⟨bx, 4, none⟩ = some (.int .i64 (ws 4)) ∧ w'.cell? ⟨bx, 5, none⟩ = some (.int .i64 (ws 5)))
    (first | exact HK.out _ (by go_grown))
    (first | (go_at_call 23; refine Calls.mono (HNw.out _ (by go_grown)) ?_; have hz81 : w3.heap.size ≤ w81.heap.size := hw81.size; rintro e w82 ⟨p', b', m', c', rfl, hT82⟩; have HT82 := hid hT82; have hb82 := hT82.below; clear hT82; have hw82 : Below w3.heap.size w3 w82 := after (by go_grown) hb82 (by first | omega | (simp <;> omega)); have hz82 : w3.heap.size ≤ w82.heap.size := hw82.size) | (go_at_call 23; refine Calls.mono (HNw.out _ (by go_grown)) ?_; rintro e w81 ⟨p, b, m, c, rfl, hT81⟩; have HT81 := hid hT81; have hb81 := hT81.below; clear hT81; have hw81 : Below w3.heap.size w3 w81 := after (by go_grown) hb81 (by first | omega | (simp <;> omega)); have hz81 : w3.heap.size ≤ w81.heap.size := hw81.size))
  have HP0 := hid (T2.new HT81.out HT82.out)
  have HBd : Hid (Below w3.heap.size w3 w3.drew) := (Below.refl _ _).drew
  have HLB := hid (HL3.out.below HBd.out)
  have HBB := hid (after HB3.out HBd.out HB3.out.size)
  generalize w3.drew = wB at HP0 HBd HLB HBB
  clear HT81 HT82 hb81 hw81 hb82 hw82 hz82 HK HNw HBd HL3 HB3 HX3
  clear hz81
  go_wp2_with fail
  go_loopg [7, 8] ll (fun g s7 _ wr => ∃ (k : Nat) (T : Twn), k ≤ ll ∧ g = ll - k ∧ s7 = .int .i64 k ∧ Hid (T2 wB wr p b m c p' b' m' c' ws T T))
  case atStart => exact ⟨0, _, Nat.zero_le _, rfl, rfl, HP0⟩
  case round =>
  clear HP0
  obtain ⟨k, T, hk, rfl, rfl, HP⟩ := hrel
  by_cases hlt : k < ll
  case pos =>
    obtain ⟨x, hx⟩ : ∃ x, l[k]? = some x := ⟨_, List.getElem?_eq_getElem (by have := HLL.out; omega)⟩
    obtain ⟨bl, ol, sa, sc, rfl, hbl, hWb, z0, z1, z2⟩ := HLB.out.at (Below.refl _ _) hx
    have HWB : Hid (WantsAt wB sa x.w ∧ wB.cell? ⟨bl, ol + k * 3, none⟩ = some (.int .i64 x.kind) ∧ wB.cell? ⟨bl, ol + k * 3 + 1, none⟩ = some (.int .i64 x.n) ∧ wB.cell? ⟨bl, ol + k * 3 + 2, none⟩ = some (.slice sa x.w.length sc)) := ⟨hWb, z0, z1, z2⟩
    clear hWb z0 z1 z2
    have HAt : Hid (∀ W, Below wB.heap.size wB W → WantsAt W sa x.w ∧ W.cell? ⟨bl, ol + k * 3, none⟩ = some (.int .i64 x.kind) ∧ W.cell? ⟨bl, ol + k * 3 + 1, none⟩ = some (.int .i64 x.n) ∧ W.cell? ⟨bl, ol + k * 3 + 2, none⟩ = some (.slice sa x.w.length sc)) := fun W hW => by
      obtain ⟨h1, h2, h3, h4⟩ : WantsAt wB sa x.w ∧ wB.cell? ⟨bl, ol + k * 3, none⟩ = some (.int .i64 x.kind) ∧ wB.cell? ⟨bl, ol + k * 3 + 1, none⟩ = some (.int .i64 x.n) ∧ wB.cell? ⟨bl, ol + k * 3 + 2, none⟩ = some (.slice sa x.w.length sc) := HWB.out
      exact ⟨h1.below hW (Nat.le_refl _), ((bcell hW).1 _ _ hbl).trans h2, ((bcell hW).1 _ _ hbl).trans h3, ((bcell hW).1 _ _ hbl).trans h4⟩
    obtain ⟨hWx, q0, q1, q2⟩ := HAt.out wr HP.out.lv.below
    have HC := hid (step_l (sc := sc) x HP.out hWx)
    have HK := hid hlt
    have j0 : (0 : Int) ≤ (k : Int) := by omega
    have j1 : (k : Int) < (ll : Int) := by omega
    clear hWx hx hk hlt HWB
    by_cases h7 : x.kind = 7
    · have h7' : (x.kind == 7) = true := by simp [h7]
      have hE : (townR T x).2 = T := by rw [townR_shop T h7]
      rw [hE] at HC
      clear hE h7
      generalize (townR T x).1 = cde at HC
      go_wp2_with fail
      refine Calls.mono HC.out ?_
      rintro e w5 ⟨rfl, hP5⟩
      have HP5 := hid hP5
      obtain ⟨_, r0, r1, r2⟩ := HAt.out w5 hP5.lv.below
      clear HC hP5 q0 q1 q2
      go_wp2_with fail
      go_roundg (ll - (k + 1))
      case measure => have := HK.out; omega
      case rel => exact ⟨k + 1, _, HK.out, rfl, by simp, HP5⟩
    · have h7' : (x.kind == 7) = false := by rw [beq_eq_false_iff_ne]; exact h7
      clear h7
      have HSr : Hid (∀ W, T2 wB W p b m c p' b' m' c' ws (townR T x).2 T → WantsAt W sa x.w → Calls Try.prog 24 #[.pointer (some ⟨p', 0, none⟩), .agg #[.int .i64 x.kind, .int .i64 x.n, .slice sa x.w.length sc]] W fun e w' => e = .returned (.int .i64 (townR T x).1) ∧ T2 wB w' p b m c p' b' m' c' ws (townR T x).2 (townR T x).2) := fun W h1 h2 => step_r x h1 h2
      generalize (townR T x).1 = cde at HC HSr
      generalize (townR T x).2 = T1 at HC HSr
      go_wp2_with fail
      refine Calls.mono HC.out ?_
      rintro e w5 ⟨rfl, hP5⟩
      have HP5 := hid hP5
      obtain ⟨_, r0, r1, r2⟩ := HAt.out w5 hP5.lv.below
      clear HC hP5 q0 q1 q2 HP
      obtain ⟨v, hv⟩ : ∃ v, v = valT T1 := ⟨_, rfl⟩
      have HVv : Hid (∀ k, k < 6 → valT T1 k = v k) := fun k _ => by rw [hv]
      clear hv
      have HS5 : Hid (∀ w', Below w5.heap.size w5 w' → w'.cell? ⟨bl, ol + k * 3, none⟩ = some (.int .i64 x.kind) ∧ w'.cell? ⟨bl, ol + k * 3 + 1, none⟩ = some (.int .i64 x.n) ∧ w'.cell? ⟨bl, ol + k * 3 + 2, none⟩ = some (.slice sa x.w.length sc) ∧ w'.cell? ⟨p, 0, none⟩ = some (.pointer (some ⟨b, 0, none⟩)) ∧ w'.cell? ⟨p', 0, none⟩ = some (.pointer (some ⟨b', 0, none⟩))) := fun w' hb => ⟨(HAt.out w' (HP5.out.next hb).lv.below).2.1, (HAt.out w' (HP5.out.next hb).lv.below).2.2.1, (HAt.out w' (HP5.out.next hb).lv.below).2.2.2, (HP5.out.next hb).left.c0.1, (HP5.out.next hb).right.c0.1⟩
      have hq := eq6
      go_upto_region 13 with fail
      clear r0 r1 r2
      go_region_held3 (fun w' => w'.cell? ⟨bl, ol + k * 3, none⟩ = some (.int .i64 x.kind) ∧ w'.cell? ⟨bl, ol + k * 3 + 1, none⟩ = some (.int .i64 x.n) ∧ w'.cell? ⟨bl, ol + k * 3 + 2, none⟩ = some (.slice sa x.w.length sc) ∧ w'.cell? ⟨p, 0, none⟩ = some (.pointer (some ⟨b, 0, none⟩)) ∧ w'.cell? ⟨p', 0, none⟩ = some (.pointer (some ⟨b', 0, none⟩)))
        (first | exact HS90.out _ (by go_grown) | exact HS5.out _ (by go_grown))
        (first | (go_at_call 24; refine Calls.mono (HSr.out _ (HP5.out.next (by go_grown)) (HAt.out _ (HP5.out.next (by go_grown)).lv.below).1) ?_; rintro e w90 ⟨rfl, hP90⟩; have HP90 := hid hP90; clear hP90; have HS90 : Hid (∀ w', Below w90.heap.size w90 w' → w'.cell? ⟨bl, ol + k * 3, none⟩ = some (.int .i64 x.kind) ∧ w'.cell? ⟨bl, ol + k * 3 + 1, none⟩ = some (.int .i64 x.n) ∧ w'.cell? ⟨bl, ol + k * 3 + 2, none⟩ = some (.slice sa x.w.length sc) ∧ w'.cell? ⟨p, 0, none⟩ = some (.pointer (some ⟨b, 0, none⟩)) ∧ w'.cell? ⟨p', 0, none⟩ = some (.pointer (some ⟨b', 0, none⟩))) := fun w' hb => ⟨(HAt.out w' (HP90.out.next hb).lv.below).2.1, (HAt.out w' (HP90.out.next hb).lv.below).2.2.1, (HAt.out w' (HP90.out.next hb).lv.below).2.2.2, (HP90.out.next hb).left.c0.1, (HP90.out.next hb).right.c0.1⟩) | (go_at_call 31; refine Calls.mono (world_is (HP90.out.next (by go_grown)).left HVv.out) ?_; rintro e wWT ⟨rfl, hbWT⟩; have hwWT : Below w90.heap.size w90 wWT := after (by go_grown) hbWT (by first | omega | (simp <;> omega)); have hzWT : w90.heap.size ≤ wWT.heap.size := hwWT.size) | (go_at_call 31; refine Calls.mono (world_is (HP90.out.next (by go_grown)).right HVv.out) ?_; rintro e wWU ⟨rfl, hbWU⟩; have hwWU : Below w90.heap.size w90 wWU := after (by go_grown) hbWU (by first | omega | (simp <;> omega)); have hzWU : w90.heap.size ≤ wWU.heap.size := hwWU.size) | (go_at_call 27; refine Calls.mono (mail_tlv (HP90.out.next (by go_grown)).left) ?_; rintro e wMT ⟨⟨gMT, cMT, rfl, hMT, _, _⟩, hbMT⟩; have HMT := hid hMT; clear hMT; have hwMT : Below w90.heap.size w90 wMT := after (by go_grown) hbMT (by first | omega | (simp <;> omega)); have hzMT : w90.heap.size ≤ wMT.heap.size := hwMT.size) | (go_at_call 27; refine Calls.mono (mail_tlv (HP90.out.next (by go_grown)).right) ?_; rintro e wMU ⟨⟨gMU, cMU, rfl, hMU, _, _⟩, hbMU⟩; have HMU := hid hMU; clear hMU; have hwMU : Below w90.heap.size w90 wMU := after (by go_grown) hbMU (by first | omega | (simp <;> omega)); have hzMU : w90.heap.size ≤ wMU.heap.size := hwMU.size) | (go_at_call 26; refine Calls.mono (due_lst (HP90.out.next (by go_grown)).left) ?_; rintro e wDT ⟨⟨gDT, cDT, rfl, hDT⟩, hbDT⟩; have HDT := hid hDT; clear hDT; have hwDT : Below w90.heap.size w90 wDT := after (by go_grown) hbDT (by first | omega | (simp <;> omega)); have hzDT : w90.heap.size ≤ wDT.heap.size := hwDT.size) | (go_at_call 26; refine Calls.mono (due_lst (HP90.out.next (by go_grown)).right) ?_; rintro e wDU ⟨⟨gDU, cDU, rfl, hDU⟩, hbDU⟩; have HDU := hid hDU; clear hDU; have hwDU : Below w90.heap.size w90 wDU := after (by go_grown) hbDU (by first | omega | (simp <;> omega)); have hzDU : w90.heap.size ≤ wDU.heap.size := hwDU.size) | (go_at_call 38; refine Calls.mono (same_mail (HMT.out.below (by go_grown) (Nat.le_refl _)) (HMU.out.below (by go_grown) (Nat.le_refl _)) HP90.out.full.town.inv.mlen) ?_; rintro e wSM ⟨rfl, hbSM⟩; have hwSM : Below w90.heap.size w90 wSM := after (by go_grown) hbSM (by first | omega | (simp <;> omega)); have hzSM : w90.heap.size ≤ wSM.heap.size := hwSM.size) | (go_at_call 38; refine Calls.mono (same_mail (HDT.out.below (by go_grown) (Nat.le_refl _)) (HDU.out.below (by go_grown) (Nat.le_refl _)) (Nat.le_trans (due_room HP90.out.full.brk) (by omega))) ?_; rintro e wSD ⟨rfl, hbSD⟩; have hwSD : Below w90.heap.size w90 wSD := after (by go_grown) hbSD (by first | omega | (simp <;> omega)); have hzSD : w90.heap.size ≤ wSD.heap.size := hwSD.size))
      all_goals
        go_wp2_with fail
        go_roundg (ll - (k + 1))
        case measure => have := HK.out; omega
        case rel => exact ⟨k + 1, _, HK.out, rfl, by simp, HP90.out.next hwSD⟩
  have j1 : ¬ (k : Int) < (ll : Int) := by omega
  clear hk hlt
  obtain ⟨L, hL⟩ : ∃ L, T.B.ord = L := ⟨_, rfl⟩
  have HO := hid hL
  have HL8 : Hid (L.length ≤ 8) := by rw [← hL]; exact HP.out.full.brk.ordLen
  clear hL
  have HS : Hid (∀ w', Below wr.heap.size wr w' → w'.cell? ⟨p, 0, none⟩ = some (.pointer (some ⟨b, 0, none⟩)) ∧ w'.cell? ⟨p', 0, none⟩ = some (.pointer (some ⟨b', 0, none⟩))) := fun w' hb => ⟨(HP.out.next hb).left.c0.1, (HP.out.next hb).right.c0.1⟩
  go_upto_region 15 with fail
  go_region_held3 (fun w' => w'.cell? ⟨p, 0, none⟩ = some (.pointer (some ⟨b, 0, none⟩)) ∧ w'.cell? ⟨p', 0, none⟩ = some (.pointer (some ⟨b', 0, none⟩)))
    (first | exact HS.out _ (by go_grown))
    (first | (go_at_call 20; refine Calls.mono (done_is (HP.out.next (by go_grown)).left HO.out) ?_; rintro e wF1 ⟨⟨gF1, cF1, rfl, hF1, _⟩, hbF1⟩; have HF1 := hid hF1; clear hF1; have hwF1 : Below wr.heap.size wr wF1 := after (by go_grown) hbF1 (by first | omega | (simp <;> omega)); have hzF1 : wr.heap.size ≤ wF1.heap.size := hwF1.size) | (go_at_call 20; refine Calls.mono (done_is (HP.out.next (by go_grown)).right HO.out) ?_; rintro e wF2 ⟨⟨gF2, cF2, rfl, hF2, _⟩, hbF2⟩; have HF2 := hid hF2; clear hF2; have hwF2 : Below wr.heap.size wr wF2 := after (by go_grown) hbF2 (by first | omega | (simp <;> omega)); have hzF2 : wr.heap.size ≤ wF2.heap.size := hwF2.size) | (go_at_call 39; refine Calls.mono (same_is (HF1.out.below (by go_grown) (Nat.le_refl _)) (HF2.out.below (by go_grown) (Nat.le_refl _)) HL8.out) ?_; rintro e wF3 ⟨rfl, hbF3⟩; have hwF3 : Below wr.heap.size wr wF3 := after (by go_grown) hbF3 (by first | omega | (simp <;> omega)); have hzF3 : wr.heap.size ≤ wF3.heap.size := hwF3.size))
  all_goals
    go_wp2_with fail
    go_ret
    exact ⟨rfl, after HBB.out (after HP.out.lv.below hwF3 HP.out.lv.below.size) HBB.out.size⟩

end Go.Proofs.Ytbgnajcmhmpjlac

namespace Go.Proofs.Ytbgnajcmhmpjlac
open Go.ChangeShapes Go.WideShapes Go.ChangeAt Go.RowKit Go.Deep

theorem Try.ownTownForgets : ownKnob Try.prog.godebug = none := by kernel_rfl
theorem Try.laidOutTownForgets : laidOutB Try.prog = true := by kernel_rfl

set_option maxRecDepth 100000 in
theorem townForgets_lifted (os : Os) (started : os.Started) (H : Type) (enc : TypeId × Value → H) :
    ReturnsInHanded {} Try.checked os 7 .any (Rows.townForgetsSpec.pre6 enc Try.prog Try.f7 Rows.townForgetsRow.domain false) (Rows.townForgetsSpec.post enc Try.prog Try.f7 false true false false) := by
  refine returnsInHanded_of_change (C := Try.checked) Try.ownTownForgets started (by kernel_rfl) Try.func7
    (ChangeSpec.witness6 (enc := enc) (C := Try.checked) false ⟨#[], #[.agg #[.int .i64 0, .int .i64 0, .int .i64 0, .int .i64 0, .int .i64 0, .int .i64 0], .slice none 0 0], []⟩ 8 (by kernel_rfl) (by kernel_rfl) (by kernel_rfl) (by kernel_rfl)) ?_
  intro W base args ds gs before hval0 hW _ _
  have hval : ∀ (j : Nat) t v, Try.f7.params[j]? = some t → args[j]? = some v → Value.okWide Try.prog W .any base t v := hval0
  have hW' := hW
  obtain ⟨p, q, hA0, hV, rfl, hfz, hnd⟩ := hW
  have hA : DataW.TrodAll enc Try.prog W 0 (fun _ => true) true Try.f7.params.toList args.toList ds p := hA0
  rw [Try.params7] at hA hval
  obtain ⟨v0, v1, d0, d1, p0, p1, rfl, rfl, rfl, h0, h1⟩ := trodAll_two hA
  obtain ⟨rfl, rfl⟩ := trodVars_none hV
  have k0 := h0
  have lt0 : ∀ x ∈ p0, x.block < W.heap.size := by obtain ⟨m, hm⟩ := k0; exact DataW.trod_lt m _ _ _ hm
  have k1 := h1
  have lt1 : ∀ x ∈ p1, x.block < W.heap.size := by obtain ⟨m, hm⟩ := k1; exact DataW.trod_lt m _ _ _ hm
  obtain ⟨ws, rfl⟩ := open_world (hval 0 42 v0 rfl rfl) h0
  obtain ⟨a1, l1, c1, rfl⟩ := okWide_slice Try.underlying43 (hval 1 43 v1 rfl rfl)
  obtain ⟨l, hl, hll⟩ := open_tsteps h1
  clear hA0 hval0
  refine (tforgets_walk ws a1 l1 c1 l W hl hll).mono fun e W' ⟨hret, hb⟩ => ?_
  subst hret
  exact ⟨_, rfl, _, _, _, [], _, [], hW', trodAll_mk1 (shut_bool Try.underlying4 true), trodAll_mk2 (Below.trod Try.laidOutTownForgets (by kernel_rfl) (of_decide_eq_true (by kernel_rfl)) k0 hb lt0) (Below.trod Try.laidOutTownForgets (by kernel_rfl) (of_decide_eq_true (by kernel_rfl)) k1 hb lt1), rfl, hb.frame _, fun h => by cases h⟩

theorem townForgets_holds : Rows.TownForgetsSaid :=
  OpenClaim.holds_of_wide 7 Try.f7 rfl rfl rfl rfl rfl rfl rfl ⟨rfl, rfl, rfl, rfl, rfl⟩ rfl rfl rfl rfl rfl (by kernel_rfl) Try.func7 (by kernel_rfl)
    (of_decide_eq_true (by kernel_rfl)) (by unfold Func.isWrapper; first | (rw [if_pos (by decide +kernel)]; kernel_rfl) | (rw [if_neg (by decide +kernel)]; exact ⟨rfl, rfl⟩))
    (fun os started H enc _ => townForgets_lifted os started H enc)

#print axioms townForgets_holds
end Go.Proofs.Ytbgnajcmhmpjlac
