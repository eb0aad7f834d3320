/- The contract of keepBegun: it answers true. -/
import Derived.Test.YtbgnajcmhmpjlabKCrash
namespace Go.Proofs.Ytbgnajcmhmpjlab
open Go.RowKit

def wsK : Nat → Int
  | 0 => 10
  | _ => 0
def rK1 : Stp := ⟨1, 1, 0, -4, false⟩
def rK2 : Stp := ⟨2, 1, 0, 0, true⟩
def rK0 : Stp := ⟨0, 0, 0, 0, false⟩
def B0 : Bk := { no := 0, v0 := 10, v1 := 0, hs := [], es := [] }
def B1 : Bk := { no := 0, v0 := 10, v1 := 0, hs := [(1, 0, -4)], es := [] }
def B2 : Bk := { no := 0, v0 := 6, v1 := 0, hs := [], es := [(1, true)] }
def K0 : Kb := ⟨B0, []⟩
def K1 : Kb := ⟨B1, [rK1]⟩
def K2 : Kb := ⟨B2, [rK1, rK2]⟩
theorem bookK0 : book0 0 wsK = B0 := rfl
theorem okK : newOk 0 wsK = true := rfl
theorem doK1 : doR K0 rK1 = (0, K1) := by rfl
theorem doK1' : doR K1 rK1 = (0, K1) := by rfl
theorem doK2 : doR K1 rK2 = (0, K2) := by rfl
theorem doK0 : doR K2 rK0 = (10, K2) := by rfl
theorem goodK0 : GoodK (book0 0 wsK) K0 := goodK_new (good_new okK) rfl rfl
theorem goodK1 : GoodK (book0 0 wsK) K1 := by have := goodK_do goodK0 rK1; rwa [doK1] at this
theorem goodK2 : GoodK (book0 0 wsK) K2 := by have := goodK_do goodK1 rK2; rwa [doK2] at this

theorem knew_begun (w : World) : Calls Try.prog 22 #[.int .i64 0, .agg #[.int .i64 10, .int .i64 0, .int .i64 0, .int .i64 0, .int .i64 0, .int .i64 0]] w fun e w' => ∃ q, e = .returned (.pointer (some ⟨q, 0, none⟩)) ∧ KLive w (fun _ => False) w' q 0 wsK K0 := by
  refine (knew_any 0 wsK w).mono ?_
  rintro e w' ⟨h, hb⟩
  unfold NewKIs at h
  rw [if_pos (by rfl)] at h
  obtain ⟨q, O, he, hI, hO⟩ := h
  exact ⟨q, he, ⟨O, hI, fun k hk => ⟨hO k hk, fun q => q⟩⟩, hb, fun _ q => q.elim⟩
theorem do_is {w0 w : World} {Z : Nat → Prop} {q : Nat} {no : Int} {ws : Nat → Int} {K K' : Kb} {c : Int} (r : Stp) (h : KLive w0 Z w q no ws K) (hG : Good K.A) (hl : K.A.hs.length < 2 ^ 40) (hr : K.rs.length < 2 ^ 40) (he : doR K r = (c, K')) : Calls Try.prog 24 #[.pointer (some ⟨q, 0, none⟩), .agg #[.int .i64 r.what, .int .i64 r.deal, .int .i64 r.c, .int .i64 r.d, .bool r.done]] w fun e w' => e = .returned (.int .i64 c) ∧ KLive w0 Z w' q no ws K' ∧ Save (fun k => ¬ Z k) w w' := by
  have := do_live r h hG hl hr
  rw [he] at this
  exact this
theorem crash_live {w0 w : World} {Z : Nat → Prop} {q : Nat} {no : Int} {ws : Nat → Int} {K : Kb} (h : KLive w0 Z w q no ws K) (hG : GoodK (book0 no ws) K) (hok : newOk no ws = true) (hr : K.rs.length < 1000000) : Calls Try.prog 26 #[.pointer (some ⟨q, 0, none⟩)] w fun e w' => e = .returned (.tuple #[]) ∧ KLive w0 Z w' q no ws K ∧ Save (fun k => ¬ Z k) w w' := by
  obtain ⟨O, h1, h2⟩ := h.inn
  refine (kcrash_any O no ws K q w h1 hG hok hr).mono ?_
  rintro e w' ⟨he, O', h3, h4, h5⟩
  exact ⟨he, KLive.step h h2 h3 h4 h5⟩

set_option maxHeartbeats 1000000 in
theorem ktell_bad (q : Nat) (r : Stp) (w : World) (hc : rchk r ≠ 0) : Calls Try.prog 66 #[.pointer (some ⟨q, 0, none⟩), .agg #[.int .i64 r.what, .int .i64 r.deal, .int .i64 r.c, .int .i64 r.d, .bool r.done]] w fun e w' => e = .returned (.int .i64 (rchk r)) ∧ Below w.heap.size w w' := by
  have HC : Hid (∀ W : World, Calls Try.prog 90 #[.agg #[.int .i64 r.what, .int .i64 r.deal, .int .i64 r.c, .int .i64 r.d, .bool r.done]] W fun e w' => e = .returned (.int .i64 (rchk r)) ∧ Below W.heap.size W w') := kchk_any r
  have hc' : (rchk r != 0) = true := by simpa using hc
  clear hc
  go_enter Try.func66, Try.ntmps66
  go_wp2_with fail
  refine Calls.mono (HC.out _) ?_
  rintro e w1 ⟨rfl, hb1⟩
  have hW1 : Below w.heap.size w w1 := after (by go_grown) hb1 (by simp)
  go_wp2_with fail
  go_ret
  exact ⟨rfl, hW1⟩
set_option maxHeartbeats 1000000 in
theorem kdo_bad (q : Nat) (r : Stp) (w : World) (hc : rchk r ≠ 0) : Calls Try.prog 24 #[.pointer (some ⟨q, 0, none⟩), .agg #[.int .i64 r.what, .int .i64 r.deal, .int .i64 r.c, .int .i64 r.d, .bool r.done]] w fun e w' => e = .returned (.int .i64 (rchk r)) ∧ Below w.heap.size w w' := by
  have HC : Hid (rchk r ≠ 0) := hc
  have hc' : (rchk r != 0) = true := by simpa using hc
  clear hc
  go_enter Try.func24, Try.ntmps24
  go_wp2_with fail
  refine Calls.mono (ktell_bad q r _ HC.out) ?_
  rintro e w1 ⟨rfl, hb1⟩
  have hW1 : Below w.heap.size w w1 := after (by go_grown) hb1 (by simp)
  go_wp2_with fail
  go_ret
  exact ⟨rfl, hW1⟩
theorem fld3 (a b c : Int) (W : World) : (Instr.field 35 (.agg #[.int .i64 a, .int .i64 b, .int .i64 c]) 0).run Try.prog W = .ok (.int .i64 a) W := by
  simp [Instr.field, asAgg, go_sem]

set_option maxRecDepth 100000 in
set_option maxHeartbeats 4000000 in
theorem kbegun_any (w : World) : Calls Try.prog 15 #[] w fun e w' => e = .returned (.bool true) ∧ Below w.heap.size w w' := by
  go_enter Try.func15, Try.ntmps15
  go_wp2_with fail
  refine (knew_begun w).mono ?_
  rintro e w1 ⟨q, rfl, hL1⟩
  go_upto_region 5 with fail
  have hX := BoxAt.new w1 [.int .i64 1, .int .i64 1, .int .i64 0, .int .i64 (-4), .bool false] 51
  have hL2 : KLive w (fun b => b = w1.heap.size) (w1.alloc (.cells #[.int .i64 1, .int .i64 1, .int .i64 0, .int .i64 (-4), .bool false] 51)) q 0 wsK K0 := hL1.more ((Below.refl _ _).alloc (Nat.le_refl _) _) (fun b e => .inr (by subst e; simp))
  change BoxAt (w1.alloc (.cells #[.int .i64 1, .int .i64 1, .int .i64 0, .int .i64 (-4), .bool false] 51)) _ _ at hX
  generalize (w1.alloc (.cells #[.int .i64 1, .int .i64 1, .int .i64 0, .int .i64 (-4), .bool false] 51)) = W at hX hL2 ⊢
  generalize w1.heap.size = bx at hX hL2 ⊢
  clear hL1
  go_cut [3, 4] (fun s3 s4 wx => s3 = .int .i64 0 ∧ s4 = .int .i64 0 ∧ KLive w (fun b => b = bx) wx q 0 wsK K1)
  case first =>
    have HK : Hid (∀ w', BoxAt w' bx [.int .i64 1, .int .i64 1, .int .i64 0, .int .i64 (-4), .bool false] → w'.cell? ⟨bx, 0, none⟩ = some (.int .i64 1) ∧ w'.cell? ⟨bx, 1, none⟩ = some (.int .i64 1) ∧ w'.cell? ⟨bx, 2, none⟩ = some (.int .i64 0) ∧ w'.cell? ⟨bx, 3, none⟩ = some (.int .i64 (-4)) ∧ w'.cell? ⟨bx, 4, none⟩ = some (.bool false)) := fun w' h => ⟨h.2 0 _ rfl, h.2 1 _ rfl, h.2 2 _ rfl, h.2 3 _ rfl, h.2 4 _ rfl⟩
    have HC1 : Hid (∀ W' : World, Below W.heap.size W W' → Calls Try.prog 24 #[.pointer (some ⟨q, 0, none⟩), .agg #[.int .i64 1, .int .i64 1, .int .i64 0, .int .i64 (-4), .bool false]] W' fun e w' => e = .returned (.int .i64 0) ∧ KLive w (fun b => b = bx) w' q 0 wsK K1 ∧ BoxAt w' bx [.int .i64 1, .int .i64 1, .int .i64 0, .int .i64 (-4), .bool false]) := fun W' hW => (do_is rK1 (hL2.next hW) goodK0.good (by decide) (by decide) doK1).mono (fun e w' h => ⟨h.1, h.2.1, (hX.next hW).save h.2.2 (fun q => q rfl)⟩)
    have HC2 : Hid (∀ W1 W' : World, KLive w (fun b => b = bx) W1 q 0 wsK K1 → BoxAt W1 bx [.int .i64 1, .int .i64 1, .int .i64 0, .int .i64 (-4), .bool false] → Below W1.heap.size W1 W' → Calls Try.prog 24 #[.pointer (some ⟨q, 0, none⟩), .agg #[.int .i64 1, .int .i64 1, .int .i64 0, .int .i64 (-4), .bool false]] W' fun e w' => e = .returned (.int .i64 0) ∧ KLive w (fun b => b = bx) w' q 0 wsK K1 ∧ BoxAt w' bx [.int .i64 1, .int .i64 1, .int .i64 0, .int .i64 (-4), .bool false]) := fun W1 W' h1 h2 hW => (do_is rK1 (h1.next hW) goodK1.good (by decide) (by decide) doK1').mono (fun e w' h => ⟨h.1, h.2.1, (h2.next hW).save h.2.2 (fun q => q rfl)⟩)
    have HX : Hid (BoxAt W bx [.int .i64 1, .int .i64 1, .int .i64 0, .int .i64 (-4), .bool false]) := hX
    clear hX hL2
    go_region_held3 (fun w' => w'.cell? ⟨bx, 0, none⟩ = some (.int .i64 1) ∧ w'.cell? ⟨bx, 1, none⟩ = some (.int .i64 1) ∧ w'.cell? ⟨bx, 2, none⟩ = some (.int .i64 0) ∧ w'.cell? ⟨bx, 3, none⟩ = some (.int .i64 (-4)) ∧ w'.cell? ⟨bx, 4, none⟩ = some (.bool false))
      (first | exact HK.out _ HX10.out | exact HK.out _ HX9.out | exact HK.out _ (HX.out.next (by go_grown)))
      (first | (go_at_call 24; refine Calls.mono (HC2.out w9 _ HL9.out HX9.out (by go_grown)) ?_; rintro e w10 ⟨rfl, hL10, hX10⟩; have HL10 : Hid (KLive w (fun b => b = bx) w10 q 0 wsK K1) := hL10; have HX10 : Hid (BoxAt w10 bx [.int .i64 1, .int .i64 1, .int .i64 0, .int .i64 (-4), .bool false]) := hX10; clear hL10 hX10) | (go_at_call 24; refine Calls.mono (HC1.out _ (by go_grown)) ?_; rintro e w9 ⟨rfl, hL9, hX9⟩; have HL9 : Hid (KLive w (fun b => b = bx) w9 q 0 wsK K1) := hL9; have HX9 : Hid (BoxAt w9 bx [.int .i64 1, .int .i64 1, .int .i64 0, .int .i64 (-4), .bool false]) := hX9; clear hL9 hX9))
    all_goals
      go_wp2_with fail
      go_meet
      case rel => exact ⟨rfl, rfl, HL10.out⟩
  case rest =>
    obtain ⟨rfl, rfl, hL3⟩ := hcut
    clear hL2 hX
    go_wp2_with fail
    refine Calls.mono (do_is rK2 hL3 goodK1.good (by decide) (by decide) doK2) ?_
    rintro e w4 ⟨rfl, hL4, _⟩
    clear hL3
    go_wp2_with fail
    refine Calls.mono (crash_live hL4 goodK2 okK (by decide)) ?_
    rintro e w5 ⟨rfl, hL5, _⟩
    clear hL4
    go_wp2_with fail
    refine Calls.mono (recs_live hL5 (by decide)) ?_
    rintro e w6 ⟨⟨ga, cap, rfl, hA6, _⟩, hL6, _⟩
    clear hL5
    go_wp2_with fail
    refine Calls.mono ((krep_any 0 wsK ga 2 cap K2.rs w6 hA6 rfl (by decide)).mono (fun e w' h => And.intro (rep_again okK goodK2 h.1) h.2)) ?_
    rintro e w7 ⟨⟨p2, O2, rfl, hI7, hO7⟩, hb7⟩
    have hL7 := hL6.next hb7
    go_upto_region 9 with fail
    have hB := Box2.new w7 28 0 0
    have hb8 : Below w7.heap.size w7 (w7.alloc (.cells #[.int .i64 0, .int .i64 0] 28)) := (Below.refl _ _).alloc (Nat.le_refl _) _
    have hL8 := hL7.next hb8
    have hI8 := hI7.next hb8
    generalize (w7.alloc (.cells #[.int .i64 0, .int .i64 0] 28)) = W9 at hB hL8 hI8 ⊢
    generalize w7.heap.size = fb at hB ⊢
    clear hL7 hI7 hL6 hb8 hA6 hO7 hb7
    obtain ⟨p, c0, hql, hLs⟩ := hL8.shop
    have HK : Hid (∀ w', Below W9.heap.size W9 w' → w'.cell? ⟨q, 0, none⟩ = some (.pointer (some ⟨p, 0, none⟩)) ∧ w'.cell? ⟨fb, 0, none⟩ = some (.int .i64 0)) := fun w' hb => ⟨((bcell hb).1 _ _ hql).trans c0, ((bcell hb).1 _ _ hB.lt).trans hB.c0⟩
    have HCr : Hid (∀ W' : World, Below W9.heap.size W9 W' → Calls Try.prog 28 #[.pointer (some ⟨q, 0, none⟩)] W' fun e w' => (∃ ga cap, e = .returned (.slice ga 2 cap)) ∧ Below W'.heap.size W' w') := fun W' hW => (recs_live (hL8.next hW) (by decide)).mono (fun e w' h => by
      obtain ⟨⟨ga, cap, e1, _⟩, _, e2⟩ := h
      exact ⟨⟨ga, cap, e1⟩, e2⟩)
    have HCc : Hid (∀ W' : World, Below W9.heap.size W9 W' → Calls Try.prog 18 #[.pointer (some ⟨p, 0, none⟩)] W' fun e w' => e = .returned (.agg #[.int .i64 6, .int .i64 0, .int .i64 0, .int .i64 0, .int .i64 0, .int .i64 0]) ∧ Below W'.heap.size W' w') := fun W' hW => (counts_live (hLs.next hW)).mono (fun e w' h => ⟨h.1, h.2.2⟩)
    have HCs : Hid (∀ W' : World, Below W9.heap.size W9 W' → Calls Try.prog 18 #[.pointer (some ⟨p2, 0, none⟩)] W' fun e w' => e = .returned (.agg #[.int .i64 6, .int .i64 0, .int .i64 0, .int .i64 0, .int .i64 0, .int .i64 0]) ∧ Below W'.heap.size W' w') := fun W' hW => scounts_any O2 K2.A p2 W' (hI8.next hW)
    have HCd : Hid (∀ W' : World, Calls Try.prog 24 #[.pointer (some ⟨q, 0, none⟩), .agg #[.int .i64 0, .int .i64 0, .int .i64 0, .int .i64 0, .bool false]] W' fun e w' => e = .returned (.int .i64 10) ∧ Below W'.heap.size W' w') := fun W' => kdo_bad q rK0 W' (by decide)
    have HB9 : Hid (Below w.heap.size w W9) := hL8.below
    have hq1 : ∀ W : World, (Op.equalIn 10000 36 (.agg #[.int .i64 6, .int .i64 0, .int .i64 0, .int .i64 0, .int .i64 0, .int .i64 0]) (.agg #[.int .i64 6, .int .i64 0, .int .i64 0, .int .i64 0, .int .i64 0, .int .i64 0])).run Try.prog W = .ok true W := fun W => by rw [eqC]; rfl
    have hq2 := idx2
    have hq3 := fld3
    clear hL8 hI8 hB hLs c0
    go_region_held3 (fun w' => w'.cell? ⟨q, 0, none⟩ = some (.pointer (some ⟨p, 0, none⟩)) ∧ w'.cell? ⟨fb, 0, none⟩ = some (.int .i64 0))
      (first | exact HK.out _ (by go_grown))
      (first | (go_at_call 28; refine Calls.mono (HCr.out _ (by go_grown)) ?_; rintro e w9 ⟨⟨gb, capb, rfl⟩, hb9⟩; have hw9 : Below W9.heap.size W9 w9 := after (by go_grown) hb9 (by simp); have hz9 : W9.heap.size ≤ w9.heap.size := hw9.size) | (go_at_call 18; refine Calls.mono (HCs.out _ (by go_grown)) ?_; rintro e w11 ⟨rfl, hb11⟩; have hw11 : Below W9.heap.size W9 w11 := after (by go_grown) hb11 (by assumption); have hz11 : W9.heap.size ≤ w11.heap.size := hw11.size) | (go_at_call 18; refine Calls.mono (HCc.out _ (by go_grown)) ?_; rintro e w10 ⟨rfl, hb10⟩; have hw10 : Below W9.heap.size W9 w10 := after (by go_grown) hb10 (by assumption); have hz10 : W9.heap.size ≤ w10.heap.size := hw10.size) | (go_at_call 24; refine Calls.mono (HCd.out _) ?_; rintro e w12 ⟨rfl, hb12⟩; have hw12 : Below W9.heap.size W9 w12 := after (by go_grown) hb12 (by assumption); have hz12 : W9.heap.size ≤ w12.heap.size := hw12.size))
    all_goals
      go_wp2_with fail
      go_ret
      exact ⟨rfl, after HB9.out (by go_grown) HB9.out.size⟩

end Go.Proofs.Ytbgnajcmhmpjlab
