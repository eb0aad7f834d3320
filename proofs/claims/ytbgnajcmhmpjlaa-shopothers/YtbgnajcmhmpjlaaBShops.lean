/- The contract of shops: a shop and the document's booth, behind the same steps, have one book. -/
import Derived.Test.YtbgnajcmhmpjlaaBBoth
namespace Go.Proofs.Ytbgnajcmhmpjlaa
open Go.RowKit

/-- What shops answers. -/
def ShopsIs (no : Int) (ws : Nat → Int) (n : Nat) (w : World) (e : Ending) (w' : World) : Prop :=
  if newOk no ws = true then ∃ p q A, e = .returned (.tuple #[.pointer (some ⟨p, 0, none⟩), .pointer (some ⟨q, 0, none⟩), .bool true]) ∧ Both w (fun _ => False) w' p q A A ∧ Good A ∧ A.hs.length ≤ n ∧ A.es.length ≤ n else e = .returned (.tuple #[.pointer none, .pointer none, .bool true])
theorem shopsIs_nil {no : Int} {ws : Nat → Int} {n : Nat} {w w' : World} {e : Ending} (h : newOk no ws = false) (he : e = .returned (.tuple #[.pointer none, .pointer none, .bool true])) : ShopsIs no ws n w e w' := by
  unfold ShopsIs; rw [if_neg (by rw [h]; simp)]; exact he
theorem shopsIs_both {no : Int} {ws : Nat → Int} {n : Nat} {w w' : World} {e : Ending} (h : newOk no ws = true) (he : ∃ p q A, e = .returned (.tuple #[.pointer (some ⟨p, 0, none⟩), .pointer (some ⟨q, 0, none⟩), .bool true]) ∧ Both w (fun _ => False) w' p q A A ∧ Good A ∧ A.hs.length ≤ n ∧ A.es.length ≤ n) : ShopsIs no ws n w e w' := by
  unfold ShopsIs; rw [if_pos h]; exact he

set_option maxHeartbeats 4000000 in
set_option maxRecDepth 100000 in
theorem bshops_any (no : Int) (ws : Nat → Int) (la : Option Addr) (ll lc : Nat) (l : List Stp) (w : World) (hl : StepsAt w la l) (hll : l.length = ll) (hb150 : ll ≤ 150) :
    Calls Try.prog 40 #[.int .i64 no, .agg #[.int .i64 (ws 0), .int .i64 (ws 1), .int .i64 (ws 2), .int .i64 (ws 3), .int .i64 (ws 4), .int .i64 (ws 5)], .slice la ll lc] w fun e w' => ShopsIs no ws ll w e w' ∧ Below w.heap.size w w' := by
  have HB : Hid (ll ≤ 150) := hb150
  have HT : Hid (StepsAt w la l) := hl
  clear hb150 hl
  go_enter Try.func40, Try.ntmps40
  go_upto_region 1 with fail
  have hX := box_new6 w ws 39
  have hbW : Below w.heap.size w (w.alloc (.cells #[.int .i64 (ws 0), .int .i64 (ws 1), .int .i64 (ws 2), .int .i64 (ws 3), .int .i64 (ws 4), .int .i64 (ws 5)] 39)) := (Below.refl _ _).alloc (Nat.le_refl _) _
  generalize (w.alloc (.cells #[.int .i64 (ws 0), .int .i64 (ws 1), .int .i64 (ws 2), .int .i64 (ws 3), .int .i64 (ws 4), .int .i64 (ws 5)] 39)) = W at hX hbW ⊢
  have HK : Hid (∀ w', Below W.heap.size W w' → w'.cell? ⟨w.heap.size, 0, none⟩ = some (.int .i64 (ws 0)) ∧ w'.cell? ⟨w.heap.size, 1, none⟩ = some (.int .i64 (ws 1)) ∧ w'.cell? ⟨w.heap.size, 2, none⟩ = some (.int .i64 (ws 2)) ∧ w'.cell? ⟨w.heap.size, 3, none⟩ = some (.int .i64 (ws 3)) ∧ w'.cell? ⟨w.heap.size, 4, none⟩ = some (.int .i64 (ws 4)) ∧ w'.cell? ⟨w.heap.size, 5, none⟩ = some (.int .i64 (ws 5)) ∧ Below W.heap.size W w') := fun w' hb => by
    have h := hX.next hb
    exact ⟨h.2 0 _ rfl, h.2 1 _ rfl, h.2 2 _ rfl, h.2 3 _ rfl, h.2 4 _ rfl, h.2 5 _ rfl, hb⟩
  by_cases hok : newOk no ws = true
  · have HOk : Hid (newOk no ws = true) := hok
    have HN1 : Hid (∀ W' : World, Calls Try.prog 47 #[.int .i64 no, .agg #[.int .i64 (ws 0), .int .i64 (ws 1), .int .i64 (ws 2), .int .i64 (ws 3), .int .i64 (ws 4), .int .i64 (ws 5)]] W' fun e w' => (∃ p O, e = .returned (.pointer (some ⟨p, 0, none⟩)) ∧ ShopIn O w' p (book0 no ws) ∧ ∀ k, O k → W'.heap.size ≤ k) ∧ Below W'.heap.size W' w') := fun W' => (snew_any no ws W').mono (fun e w' h => ⟨by have := h.1; unfold NewIs at this; rwa [if_pos hok] at this, h.2⟩)
    have HN2 : Hid (∀ W' : World, Calls Try.prog 54 #[.int .i64 no, .agg #[.int .i64 (ws 0), .int .i64 (ws 1), .int .i64 (ws 2), .int .i64 (ws 3), .int .i64 (ws 4), .int .i64 (ws 5)]] W' fun e w' => (∃ q O, e = .returned (.pointer (some ⟨q, 0, none⟩)) ∧ BoothIn O w' q (book0 no ws) ∧ ∀ k, O k → W'.heap.size ≤ k) ∧ Below W'.heap.size W' w') := fun W' => (bnew_any no ws W').mono (fun e w' h => ⟨by have := h.1; unfold NewBIs at this; rwa [if_pos hok] at this, h.2⟩)
    have HBW : Hid (Below w.heap.size w W) := hbW
    clear hok hX hbW
    go_cut [9, 10] (fun s9 s10 wx => ∃ p q, s9 = .pointer (some ⟨p, 0, none⟩) ∧ s10 = .pointer (some ⟨q, 0, none⟩) ∧ Both w (fun _ => False) wx p q (book0 no ws) (book0 no ws))
    case first =>
      go_region_held3 (fun w' => w'.cell? ⟨w.heap.size, 0, none⟩ = some (.int .i64 (ws 0)) ∧ w'.cell? ⟨w.heap.size, 1, none⟩ = some (.int .i64 (ws 1)) ∧ w'.cell? ⟨w.heap.size, 2, none⟩ = some (.int .i64 (ws 2)) ∧ w'.cell? ⟨w.heap.size, 3, none⟩ = some (.int .i64 (ws 3)) ∧ w'.cell? ⟨w.heap.size, 4, none⟩ = some (.int .i64 (ws 4)) ∧ w'.cell? ⟨w.heap.size, 5, none⟩ = some (.int .i64 (ws 5)) ∧ Below W.heap.size W w')
        (first | exact HK.out _ (by go_grown))
        (first | (go_at_call 47; refine Calls.mono (HN1.out _) ?_; rintro e w9 ⟨⟨p, O1, rfl, hI9, hO9⟩, hb9⟩; have HI9 : Hid (ShopIn O1 w9 p (book0 no ws)) := hI9; have HO9 : Hid (∀ k, O1 k → W.heap.size ≤ k) := (fun k hk => Nat.le_trans (by simp) (hO9 k hk)); clear hI9 hO9; have hw9 : Below W.heap.size W w9 := after (by go_grown) hb9 (by simp); have hz9 : W.heap.size ≤ w9.heap.size := hw9.size) | (go_at_call 54; refine Calls.mono (HN2.out _) ?_; rintro e w10 ⟨⟨q, O2, rfl, hI10, hO10⟩, hb10⟩; have HI10 : Hid (BoothIn O2 w10 q (book0 no ws)) := hI10; have HO10 : Hid (∀ k, O2 k → w9.heap.size ≤ k) := (fun k hk => Nat.le_trans (by simp) (hO10 k hk)); clear hI10 hO10; have hv10 : Below w9.heap.size w9 w10 := after (by go_grown) hb10 (by simp); have hw10 : Below W.heap.size W w10 := after (by go_grown) hb10 (by first | assumption | simp); have hz10 : W.heap.size ≤ w10.heap.size := hw10.size))
      all_goals
        go_wp2_with fail
        go_meet
        case rel =>
          have hwW := HBW.out.size
          exact ⟨p, q, rfl, rfl, ⟨O1, O2, HI9.out.next hv10, HI10.out, fun k h1 h2 => by have := HI9.out.own k h1; have := HO10.out k h2; omega, fun k hk => ⟨Nat.le_trans hwW (HO9.out k hk), fun q => q⟩, fun k hk => ⟨Nat.le_trans hwW (Nat.le_trans hz9 (HO10.out k hk)), fun q => q⟩⟩, after HBW.out hw10 hwW, fun _ q => q.elim⟩
    case rest =>
      obtain ⟨p, q, rfl, rfl, hBo⟩ := hcut
      have HG0 : Hid (Good (book0 no ws)) := good_new HOk.out
      clear HK HN1 HN2 HBW
      go_wp2_with fail
      go_loopg [11] ll (fun g s11 wr => ∃ (k : Nat) (A : Bk), k ≤ ll ∧ g = ll - k ∧ s11 = .int .i64 k ∧ Both w (fun _ => False) wr p q A A ∧ Hid (Good A) ∧ Hid (A.hs.length ≤ k ∧ A.es.length ≤ k))
      case atStart => exact ⟨0, _, Nat.zero_le _, rfl, rfl, hBo, HG0, ⟨Nat.le_refl _, Nat.le_refl _⟩⟩
      case round =>
        obtain ⟨k, A, hk, rfl, rfl, hB1, HG, HL⟩ := hrel
        clear hBo HG0
        by_cases hlt : k < ll
        · obtain ⟨x, hkx⟩ : ∃ x, l[k]? = some x := ⟨_, List.getElem?_eq_getElem (by omega)⟩
          obtain ⟨bl, ol, rfl, hbl, hcell⟩ := HT.out k x hkx
          have hcell' : ∀ j v, x.cells[j]? = some v → wr.cell? ⟨bl, ol + k * 5 + j, none⟩ = some v := fun j v hj => (hB1.below.cell (p := ⟨bl, _, none⟩) hbl).trans (hcell j v hj)
          have p0 : wr.cell? ⟨bl, ol + k * 5, none⟩ = some (.int .i64 x.what) := hcell' 0 _ rfl
          have p1 : wr.cell? ⟨bl, ol + k * 5 + 1, none⟩ = some (.int .i64 x.deal) := hcell' 1 _ rfl
          have p2 : wr.cell? ⟨bl, ol + k * 5 + 2, none⟩ = some (.int .i64 x.c) := hcell' 2 _ rfl
          have p3 : wr.cell? ⟨bl, ol + k * 5 + 3, none⟩ = some (.int .i64 x.d) := hcell' 3 _ rfl
          have p4 : wr.cell? ⟨bl, ol + k * 5 + 4, none⟩ = some (.bool x.done) := hcell' 4 _ rfl
          have j0 : (0 : Int) ≤ (k : Int) := by omega
          have j1 : (k : Int) < (ll : Int) := by omega
          have j2 : (ll : Int) ≤ 150 := by have := HB.out; omega
          have HKN : Hid (k < ll) := hlt
          have HLen : Hid (A.hs.length < 200 ∧ A.es.length < 200) := by have := HL.out; have := HB.out; exact ⟨by omega, by omega⟩
          clear hcell hcell' hkx hk hlt hbl
          go_upto_region 8 with fail
          have hX := BoxAt.new wr x.cells 72
          have hB2 : Both w (fun b => b = wr.heap.size) (wr.alloc (.cells x.cells.toArray 72)) p q A A := hB1.more ((Below.refl _ _).alloc (Nat.le_refl _) _) (fun b e => .inr (by subst e; simp))
          change Both w _ (wr.alloc (.cells #[.int .i64 x.what, .int .i64 x.deal, .int .i64 x.c, .int .i64 x.d, .bool x.done] _)) p q A A at hB2
          change BoxAt (wr.alloc (.cells #[.int .i64 x.what, .int .i64 x.deal, .int .i64 x.c, .int .i64 x.d, .bool x.done] _)) _ _ at hX
          generalize (wr.alloc (.cells #[.int .i64 x.what, .int .i64 x.deal, .int .i64 x.c, .int .i64 x.d, .bool x.done] 72)) = W1 at hX hB2 ⊢
          generalize wr.heap.size = bx at hX hB2 ⊢
          clear hB1 p0 p1 p2 p3 p4
          have y0 : W1.cell? ⟨bx, 0, none⟩ = some (.int .i64 x.what) := hX.2 0 _ rfl
          obtain ⟨what, deal, c, d, done⟩ := x
          dsimp only at *
          by_cases e0 : what = 0
          · subst e0
            have HA1 : Hid (∀ W' : World, Below W1.heap.size W1 W' → Calls Try.prog 48 #[.pointer (some ⟨p, 0, none⟩), .int .i64 deal, .agg #[.int .i64 c, .int .i64 d]] W' fun e w' => e = .returned (.int .i64 (holdR A deal c d).1) ∧ Both w (fun b => b = bx) w' p q (holdR A deal c d).2 A ∧ BoxAt w' bx (Stp.cells ⟨0, deal, c, d, done⟩)) := fun W' hW => (both_hold_s deal c d (hB2.next hW) HG.out (by have := HLen.out; omega)).mono (fun e w' h => ⟨h.1, h.2.1, (hX.next hW).save h.2.2 (fun q => q rfl)⟩)
            have HA2 : Hid (∀ W2 W' : World, Both w (fun b => b = bx) W2 p q (holdR A deal c d).2 A → BoxAt W2 bx (Stp.cells ⟨0, deal, c, d, done⟩) → Below W2.heap.size W2 W' → Calls Try.prog 55 #[.pointer (some ⟨q, 0, none⟩), .int .i64 deal, .agg #[.int .i64 c, .int .i64 d]] W' fun e w' => e = .returned (.int .i64 (holdR A deal c d).1) ∧ Both w (fun b => b = bx) w' p q (holdR A deal c d).2 (holdR A deal c d).2 ∧ BoxAt w' bx (Stp.cells ⟨0, deal, c, d, done⟩)) := fun W2 W' h1 h2 hW => (both_hold_b deal c d (h1.next hW) HG.out (by have := HLen.out; omega) (by have := HLen.out; omega)).mono (fun e w' h => ⟨h.1, h.2.1, (h2.next hW).save h.2.2 (fun q => q rfl)⟩)
            have HKx : Hid (∀ w', BoxAt w' bx (Stp.cells ⟨0, deal, c, d, done⟩) → w'.cell? ⟨bx, 1, none⟩ = some (.int .i64 deal) ∧ w'.cell? ⟨bx, 2, none⟩ = some (.int .i64 c) ∧ w'.cell? ⟨bx, 3, none⟩ = some (.int .i64 d)) := fun w' h => ⟨h.2 1 _ rfl, h.2 2 _ rfl, h.2 3 _ rfl⟩
            have HG2 : Hid (Good (holdR A deal c d).2) := good_hold HG.out deal c d
            have HL2 : Hid ((holdR A deal c d).2.hs.length ≤ k + 1 ∧ (holdR A deal c d).2.es.length ≤ k + 1) := by
              obtain ⟨a1, a2, _⟩ := hold_len A deal c d
              have := HL.out
              exact ⟨by omega, by rw [a2]; omega⟩
            have HX : Hid (BoxAt W1 bx (Stp.cells ⟨0, deal, c, d, done⟩)) := hX
            clear hX hB2
            generalize holdR A deal c d = r at *
            go_upto_region 10 with fail
            go_cut [59] (fun s59 wx => s59 = .bool false ∧ Both w (fun b => b = bx) wx p q r.2 r.2)
            case first =>
              go_region_held3 (fun w' => w'.cell? ⟨bx, 1, none⟩ = some (.int .i64 deal) ∧ w'.cell? ⟨bx, 2, none⟩ = some (.int .i64 c) ∧ w'.cell? ⟨bx, 3, none⟩ = some (.int .i64 d))
                (first | exact HKx.out _ HX10.out | exact HKx.out _ HX9.out | exact HKx.out _ (HX.out.next (by go_grown)))
                (first | (go_at_call 48; refine Calls.mono (HA1.out _ (by go_grown)) ?_; rintro e w9 ⟨rfl, hB9, hX9⟩; have HB9 : Hid (Both w (fun b => b = bx) w9 p q r.2 A) := hB9; have HX9 : Hid (BoxAt w9 bx (Stp.cells ⟨0, deal, c, d, done⟩)) := hX9; clear hB9 hX9) | (go_at_call 55; refine Calls.mono (HA2.out w9 _ HB9.out HX9.out (by go_grown)) ?_; rintro e w10 ⟨rfl, hB10, hX10⟩; have HB10 : Hid (Both w (fun b => b = bx) w10 p q r.2 r.2) := hB10; have HX10 : Hid (BoxAt w10 bx (Stp.cells ⟨0, deal, c, d, done⟩)) := hX10; clear hB10 hX10))
              all_goals
                go_wp2_with fail
                go_meet
                case rel => exact ⟨by simp, HB10.out⟩
            case rest =>
              obtain ⟨rfl, hB3⟩ := hcut
              go_wp2_with fail
              go_roundg (ll - (k + 1))
              case measure => have := HKN.out; omega
              case rel => exact ⟨k + 1, r.2, HKN.out, rfl, by simp, hB3.less (fun _ q => q.elim), HG2, HL2⟩
          · by_cases e1 : what = 1
            · subst e1
              clear e0
              have HA1 : Hid (∀ W' : World, Below W1.heap.size W1 W' → Calls Try.prog 49 #[.pointer (some ⟨p, 0, none⟩), .int .i64 deal, .bool done] W' fun e w' => e = .returned (.int .i64 (endR A deal done).1) ∧ Both w (fun b => b = bx) w' p q (endR A deal done).2 A ∧ BoxAt w' bx (Stp.cells ⟨1, deal, c, d, done⟩)) := fun W' hW => (both_end_s deal done (hB2.next hW) HG.out (by have := HLen.out; omega)).mono (fun e w' h => ⟨h.1, h.2.1, (hX.next hW).save h.2.2 (fun q => q rfl)⟩)
              have HA2 : Hid (∀ W2 W' : World, Both w (fun b => b = bx) W2 p q (endR A deal done).2 A → BoxAt W2 bx (Stp.cells ⟨1, deal, c, d, done⟩) → Below W2.heap.size W2 W' → Calls Try.prog 56 #[.pointer (some ⟨q, 0, none⟩), .int .i64 deal, .bool done] W' fun e w' => e = .returned (.int .i64 (endR A deal done).1) ∧ Both w (fun b => b = bx) w' p q (endR A deal done).2 (endR A deal done).2 ∧ BoxAt w' bx (Stp.cells ⟨1, deal, c, d, done⟩)) := fun W2 W' h1 h2 hW => (both_end_b deal done (h1.next hW) HG.out (by have := HLen.out; omega) (by have := HLen.out; omega)).mono (fun e w' h => ⟨h.1, h.2.1, (h2.next hW).save h.2.2 (fun q => q rfl)⟩)
              have HKx : Hid (∀ w', BoxAt w' bx (Stp.cells ⟨1, deal, c, d, done⟩) → w'.cell? ⟨bx, 1, none⟩ = some (.int .i64 deal) ∧ w'.cell? ⟨bx, 4, none⟩ = some (.bool done)) := fun w' h => ⟨h.2 1 _ rfl, h.2 4 _ rfl⟩
              have HG2 : Hid (Good (endR A deal done).2) := good_end HG.out deal done
              have HL2 : Hid ((endR A deal done).2.hs.length ≤ k + 1 ∧ (endR A deal done).2.es.length ≤ k + 1) := by
                obtain ⟨a1, a2, _⟩ := end_len A deal done
                have := HL.out
                exact ⟨by omega, by omega⟩
              have HX : Hid (BoxAt W1 bx (Stp.cells ⟨1, deal, c, d, done⟩)) := hX
              clear hX hB2
              generalize endR A deal done = r at *
              go_upto_region 13 with fail
              go_cut [76] (fun s76 wx => s76 = .bool false ∧ Both w (fun b => b = bx) wx p q r.2 r.2)
              case first =>
                go_region_held3 (fun w' => w'.cell? ⟨bx, 1, none⟩ = some (.int .i64 deal) ∧ w'.cell? ⟨bx, 4, none⟩ = some (.bool done))
                  (first | exact HKx.out _ HX10.out | exact HKx.out _ HX9.out | exact HKx.out _ (HX.out.next (by go_grown)))
                  (first | (go_at_call 49; refine Calls.mono (HA1.out _ (by go_grown)) ?_; rintro e w9 ⟨rfl, hB9, hX9⟩; have HB9 : Hid (Both w (fun b => b = bx) w9 p q r.2 A) := hB9; have HX9 : Hid (BoxAt w9 bx (Stp.cells ⟨1, deal, c, d, done⟩)) := hX9; clear hB9 hX9) | (go_at_call 56; refine Calls.mono (HA2.out w9 _ HB9.out HX9.out (by go_grown)) ?_; rintro e w10 ⟨rfl, hB10, hX10⟩; have HB10 : Hid (Both w (fun b => b = bx) w10 p q r.2 r.2) := hB10; have HX10 : Hid (BoxAt w10 bx (Stp.cells ⟨1, deal, c, d, done⟩)) := hX10; clear hB10 hX10))
                all_goals
                  go_wp2_with fail
                  go_meet
                  case rel => exact ⟨by simp, HB10.out⟩
              case rest =>
                obtain ⟨rfl, hB3⟩ := hcut
                go_wp2_with fail
                go_roundg (ll - (k + 1))
                case measure => have := HKN.out; omega
                case rel => exact ⟨k + 1, r.2, HKN.out, rfl, by simp, hB3.less (fun _ q => q.elim), HG2, HL2⟩
            · have e0' : (what == 0) = false := by simpa using e0
              have e1' : (what == 1) = false := by simpa using e1
              clear e0 e1
              go_wp2_with fail
              go_roundg (ll - (k + 1))
              case measure => have := HKN.out; omega
              case rel => exact ⟨k + 1, A, HKN.out, rfl, by simp, hB2.less (fun _ q => q.elim), HG, ⟨by have := HL.out; omega, by have := HL.out; omega⟩⟩
        · have hkk : k = ll := by omega
          subst hkk
          clear hk hlt
          go_wp2_with fail
          exact bodyPost_ret (v := .tuple #[.pointer (some ⟨p, 0, none⟩), .pointer (some ⟨q, 0, none⟩), .bool true]) (by simp [results, Try.results40, go_sem]) rfl ⟨shopsIs_both HOk.out ⟨p, q, A, rfl, hB1, HG.out, HL.out.1, HL.out.2⟩, hB1.below⟩
  · have HOk : Hid (newOk no ws = false) := by show _ = _; simpa using hok
    have HN1 : Hid (∀ W' : World, Calls Try.prog 47 #[.int .i64 no, .agg #[.int .i64 (ws 0), .int .i64 (ws 1), .int .i64 (ws 2), .int .i64 (ws 3), .int .i64 (ws 4), .int .i64 (ws 5)]] W' fun e w' => e = .returned (.pointer none) ∧ Below W'.heap.size W' w') := fun W' => (snew_any no ws W').mono (fun e w' h => ⟨by have := h.1; unfold NewIs at this; rwa [if_neg hok] at this, h.2⟩)
    have HN2 : Hid (∀ W' : World, Calls Try.prog 54 #[.int .i64 no, .agg #[.int .i64 (ws 0), .int .i64 (ws 1), .int .i64 (ws 2), .int .i64 (ws 3), .int .i64 (ws 4), .int .i64 (ws 5)]] W' fun e w' => e = .returned (.pointer none) ∧ Below W'.heap.size W' w') := fun W' => (bnew_any no ws W').mono (fun e w' h => ⟨by have := h.1; unfold NewBIs at this; rwa [if_neg hok] at this, h.2⟩)
    have HBW : Hid (Below w.heap.size w W) := hbW
    clear hok hX hbW
    go_cut [9, 10] (fun s9 s10 wx => s9 = .pointer none ∧ s10 = .pointer none ∧ Below w.heap.size w wx)
    case first =>
      go_region_held3 (fun w' => w'.cell? ⟨w.heap.size, 0, none⟩ = some (.int .i64 (ws 0)) ∧ w'.cell? ⟨w.heap.size, 1, none⟩ = some (.int .i64 (ws 1)) ∧ w'.cell? ⟨w.heap.size, 2, none⟩ = some (.int .i64 (ws 2)) ∧ w'.cell? ⟨w.heap.size, 3, none⟩ = some (.int .i64 (ws 3)) ∧ w'.cell? ⟨w.heap.size, 4, none⟩ = some (.int .i64 (ws 4)) ∧ w'.cell? ⟨w.heap.size, 5, none⟩ = some (.int .i64 (ws 5)) ∧ Below W.heap.size W w')
        (first | exact HK.out _ (by go_grown))
        (first | (go_at_call 47; refine Calls.mono (HN1.out _) ?_; rintro e w9 ⟨rfl, hb9⟩; have hw9 : Below W.heap.size W w9 := after (by go_grown) hb9 (by simp); have hz9 : W.heap.size ≤ w9.heap.size := hw9.size) | (go_at_call 54; refine Calls.mono (HN2.out _) ?_; rintro e w10 ⟨rfl, hb10⟩; have hw10 : Below W.heap.size W w10 := after (by go_grown) hb10 (by first | assumption | simp); have hz10 : W.heap.size ≤ w10.heap.size := hw10.size))
      all_goals
        go_wp2_with fail
        go_meet
        case rel => exact ⟨rfl, rfl, after HBW.out (by go_grown) HBW.out.size⟩
    case rest =>
      obtain ⟨rfl, rfl, hb3⟩ := hcut
      go_wp2_with fail
      exact bodyPost_ret (v := .tuple #[.pointer none, .pointer none, .bool true]) (by simp [results, Try.results40, go_sem]) rfl ⟨shopsIs_nil HOk.out rfl, hb3⟩

end Go.Proofs.Ytbgnajcmhmpjlaa
