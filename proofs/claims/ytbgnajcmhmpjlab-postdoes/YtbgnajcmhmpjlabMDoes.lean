/- The walk of PostDoes: it answers true, whatever steps it is given. -/
import Derived.Test.YtbgnajcmhmpjlabMBoth
import Derived.Deep.RegionHeld3
namespace Go.Proofs.Ytbgnajcmhmpjlab
open Go.RowKit

set_option maxHeartbeats 8000000 in
set_option maxRecDepth 100000 in
theorem mdoes_walk (la : Option Addr) (ll lc : Nat) (l : List PSp) (w : World) (hl : PStepsAt w la l) (hll : l.length = ll) :
    Calls Try.prog 6 #[.slice la ll lc] w fun e w' => e = .returned (.bool true) ∧ Below w.heap.size w w' := by
  by_cases hbig : 200 < ll
  · have hbig' : (200 : Int) < (ll : Int) := by omega
    clear hl hll hbig
    go_enter Try.func6, Try.ntmps6
    go_wp2_with fail
    refine (mbegun_any _).mono ?_
    rintro e w1 ⟨rfl, hb1⟩
    go_wp2_with fail
    go_ret
    exact ⟨rfl, hb1⟩
  · have hbig' : ¬ (200 : Int) < (ll : Int) := by omega
    have HB : Hid (ll ≤ 200) := by show _ ≤ _; omega
    clear hbig
    go_enter Try.func6, Try.ntmps6
    go_wp2_with fail
    refine (mbegun_any _).mono ?_
    rintro e w1 ⟨rfl, hb1⟩
    have HT : Hid (PStepsAt w la l) := hl
    clear hl
    go_wp2_with fail
    refine Calls.mono (pnew_live w1) ?_
    rintro e w2 ⟨p, rfl, hL2, _, _⟩
    have hL2' : MLive w (fun _ => False) w2 p [] := by
      obtain ⟨O, q1, q2⟩ := hL2.inn
      exact ⟨⟨O, q1, fun k hk => ⟨Nat.le_trans hb1.size (q2 k hk).1, (q2 k hk).2⟩⟩, after hb1 hL2.below hb1.size, hL2.kept⟩
    have hB3 := MBoth.of_live hL2'
    clear hL2 hL2' hb1
    go_upto_region 7 with fail
    generalize (w2.alloc (.cells #[.slice none 0 0] 67)) = w3 at hB3 ⊢
    generalize w2.heap.size = q at hB3 ⊢
    go_wp2_with fail
    go_loopg [5, 6, 7, 8, 9, 10] ll (fun g s5 _ _ _ _ _ wr => ∃ (k : Nat) (A : List Ml), k ≤ ll ∧ g = ll - k ∧ s5 = .int .i64 k ∧ MBoth w (fun _ => False) wr p q A A ∧ Hid (A.length ≤ 40))
    case atStart => exact ⟨0, [], Nat.zero_le _, rfl, rfl, hB3, Nat.zero_le _⟩
    case round =>
      obtain ⟨k, A, hk, rfl, rfl, hB1, HLen⟩ := hrel
      clear hB3
      by_cases hlt : k < ll
      · obtain ⟨x, hkx⟩ : ∃ x, l[k]? = some x := ⟨_, List.getElem?_eq_getElem (by omega)⟩
        obtain ⟨bl, ol, rfl, hbl, hcell⟩ := HT.out k x hkx
        have hcell' : ∀ j v, x.cells[j]? = some v → wr.cell? ⟨bl, ol + k * 8 + j, none⟩ = some v := fun j v hj => (hB1.below.cell (p := ⟨bl, _, none⟩) hbl).trans (hcell j v hj)
        have p0 : wr.cell? ⟨bl, ol + k * 8, none⟩ = some (.int .i64 x.what) := hcell' 0 _ rfl
        have p1 : wr.cell? ⟨bl, ol + k * 8 + 1, none⟩ = some (.int .i64 x.n) := hcell' 1 _ rfl
        have p2 : wr.cell? ⟨bl, ol + k * 8 + 2, none⟩ = some (.int .i64 x.m.kind) := hcell' 2 _ rfl
        have p3 : wr.cell? ⟨bl, ol + k * 8 + 3, none⟩ = some (.int .i64 x.m.deal) := hcell' 3 _ rfl
        have p4 : wr.cell? ⟨bl, ol + k * 8 + 4, none⟩ = some (.int .i64 x.m.shop) := hcell' 4 _ rfl
        have p5 : wr.cell? ⟨bl, ol + k * 8 + 5, none⟩ = some (.int .i64 x.m.c) := hcell' 5 _ rfl
        have p6 : wr.cell? ⟨bl, ol + k * 8 + 6, none⟩ = some (.int .i64 x.m.d) := hcell' 6 _ rfl
        have p7 : wr.cell? ⟨bl, ol + k * 8 + 7, none⟩ = some (.bool x.m.yes) := hcell' 7 _ rfl
        have j0 : (0 : Int) ≤ (k : Int) := by omega
        have j1 : (k : Int) < (ll : Int) := by omega
        have j2 : (ll : Int) ≤ 200 := by have := HB.out; omega
        have HKN : Hid (k < ll) := hlt
        clear hcell hcell' hkx hk hlt hbl
        go_upto_region 11 with fail
        have hX := BoxAt.new wr x.cells 73
        have hB2 : MBoth w (fun b => b = wr.heap.size) (wr.alloc (.cells x.cells.toArray 73)) p q A A := hB1.more ((Below.refl _ _).alloc (Nat.le_refl _) _) (fun b e => .inr (by subst e; simp))
        change MBoth w _ (wr.alloc (.cells #[.int .i64 x.what, .int .i64 x.n, .int .i64 x.m.kind, .int .i64 x.m.deal, .int .i64 x.m.shop, .int .i64 x.m.c, .int .i64 x.m.d, .bool x.m.yes] _)) p q A A at hB2
        change BoxAt (wr.alloc (.cells #[.int .i64 x.what, .int .i64 x.n, .int .i64 x.m.kind, .int .i64 x.m.deal, .int .i64 x.m.shop, .int .i64 x.m.c, .int .i64 x.m.d, .bool x.m.yes] _)) _ _ at hX
        generalize (wr.alloc (.cells #[.int .i64 x.what, .int .i64 x.n, .int .i64 x.m.kind, .int .i64 x.m.deal, .int .i64 x.m.shop, .int .i64 x.m.c, .int .i64 x.m.d, .bool x.m.yes] 73)) = W1 at hX hB2 ⊢
        generalize wr.heap.size = bx at hX hB2 ⊢
        clear hB1 p0 p1 p2 p3 p4 p5 p6 p7
        have y0 : W1.cell? ⟨bx, 0, none⟩ = some (.int .i64 x.what) := hX.2 0 _ rfl
        go_upto_block 2 with fail
        go_cut [7, 8, 9, 10] (fun _ _ _ _ wx => MBoth w (fun b => b = bx) wx p q (pstepR A x) (pstepR A x))
        case first =>
          have hA1000 : A.length < 1000 := by have := HLen.out; omega
          have HA : Hid (A.length < 1000) := hA1000
          obtain ⟨what, n, m⟩ := x
          dsimp only at *
          clear hA1000
          by_cases e0 : what = 0
          · subst e0
            have HA1 : Hid (∀ W' : World, Below W1.heap.size W1 W' → Calls Try.prog 32 #[.pointer (some ⟨p, 0, none⟩), .agg #[.int .i64 m.kind, .int .i64 m.deal, .int .i64 m.shop, .int .i64 m.c, .int .i64 m.d, .bool m.yes]] W' fun e w' => e = .returned (.bool (sendR A m).1) ∧ MBoth w (fun b => b = bx) w' p q (sendR A m).2 A ∧ BoxAt w' bx (PSp.cells ⟨0, n, m⟩)) := fun W' hW => (both_send_p m (hB2.next hW) HA.out).mono (fun e w' h => ⟨h.1, h.2.1, (hX.next hW).save h.2.2 (fun q => q rfl)⟩)
            have HA2 : Hid (∀ W2 W' : World, MBoth w (fun b => b = bx) W2 p q (sendR A m).2 A → BoxAt W2 bx (PSp.cells ⟨0, n, m⟩) → Below W2.heap.size W2 W' → Calls Try.prog 33 #[.pointer (some ⟨q, 0, none⟩), .agg #[.int .i64 m.kind, .int .i64 m.deal, .int .i64 m.shop, .int .i64 m.c, .int .i64 m.d, .bool m.yes]] W' fun e w' => e = .returned (.bool (sendR A m).1) ∧ MBoth w (fun b => b = bx) w' p q (sendR A m).2 (sendR A m).2 ∧ BoxAt w' bx (PSp.cells ⟨0, n, m⟩)) := fun W2 W' h1 h2 hW => (both_send_g m (h1.next hW) HA.out).mono (fun e w' h => ⟨h.1, h.2.1, (h2.next hW).save h.2.2 (fun q => q rfl)⟩)
            have HKx : Hid (∀ w', BoxAt w' bx (PSp.cells ⟨0, n, m⟩) → w'.cell? ⟨bx, 2, none⟩ = some (.int .i64 m.kind) ∧ w'.cell? ⟨bx, 3, none⟩ = some (.int .i64 m.deal) ∧ w'.cell? ⟨bx, 4, none⟩ = some (.int .i64 m.shop) ∧ w'.cell? ⟨bx, 5, none⟩ = some (.int .i64 m.c) ∧ w'.cell? ⟨bx, 6, none⟩ = some (.int .i64 m.d) ∧ w'.cell? ⟨bx, 7, none⟩ = some (.bool m.yes)) := fun w' h => ⟨h.2 2 _ rfl, h.2 3 _ rfl, h.2 4 _ rfl, h.2 5 _ rfl, h.2 6 _ rfl, h.2 7 _ rfl⟩
            have HX : Hid (BoxAt W1 bx (PSp.cells ⟨0, n, m⟩)) := hX
            have HP : Hid (pstepR A ⟨0, n, m⟩ = (sendR A m).2) := rfl
            clear hX hB2
            generalize sendR A m = r at *
            go_upto_region 13 with fail
            go_cut [38] (fun s38 wx => s38 = .bool false ∧ MBoth w (fun b => b = bx) wx p q r.2 r.2)
            case first =>
              go_region_held3 (fun w' => w'.cell? ⟨bx, 2, none⟩ = some (.int .i64 m.kind) ∧ w'.cell? ⟨bx, 3, none⟩ = some (.int .i64 m.deal) ∧ w'.cell? ⟨bx, 4, none⟩ = some (.int .i64 m.shop) ∧ w'.cell? ⟨bx, 5, none⟩ = some (.int .i64 m.c) ∧ w'.cell? ⟨bx, 6, none⟩ = some (.int .i64 m.d) ∧ w'.cell? ⟨bx, 7, none⟩ = some (.bool m.yes))
                (first | exact HKx.out _ HX10.out | exact HKx.out _ HX9.out | exact HKx.out _ (HX.out.next (by go_grown)))
                (first | (go_at_call 32; refine Calls.mono (HA1.out _ (by go_grown)) ?_; rintro e w9 ⟨rfl, hB9, hX9⟩; have HB9 : Hid (MBoth w (fun b => b = bx) w9 p q r.2 A) := hB9; have HX9 : Hid (BoxAt w9 bx (PSp.cells ⟨0, n, m⟩)) := hX9; clear hB9 hX9) | (go_at_call 33; refine Calls.mono (HA2.out w9 _ HB9.out HX9.out (by go_grown)) ?_; rintro e w10 ⟨rfl, hB10, hX10⟩; have HB10 : Hid (MBoth w (fun b => b = bx) w10 p q r.2 r.2) := hB10; have HX10 : Hid (BoxAt w10 bx (PSp.cells ⟨0, n, m⟩)) := hX10; clear hB10 hX10))
              all_goals
                go_wp2_with fail
                go_meet
                case rel => exact ⟨by simp, HB10.out⟩
            case rest =>
              obtain ⟨rfl, hB3⟩ := hcut
              go_wp2_with fail
              go_meet
              case rel => rw [HP.out]; exact hB3
          · by_cases e1 : what = 1
            · subst e1
              clear e0
              have HP : Hid (pstepR A ⟨1, n, m⟩ = (takeR A n).2.2) := rfl
              have y1 : W1.cell? ⟨bx, 1, none⟩ = some (.int .i64 n) := hX.2 1 _ rfl
              obtain ⟨r, hr⟩ : ∃ r, r = takeR A n := ⟨_, rfl⟩
              have HT1 : Hid (∀ W' : World, MBoth w (fun b => b = bx) W' p q A A → Calls Try.prog 34 #[.pointer (some ⟨p, 0, none⟩), .int .i64 n] W' fun e w' => e = .returned (.tuple #[.agg #[.int .i64 r.1.kind, .int .i64 r.1.deal, .int .i64 r.1.shop, .int .i64 r.1.c, .int .i64 r.1.d, .bool r.1.yes], .bool r.2.1]) ∧ MBoth w (fun b => b = bx) w' p q r.2.2 A ∧ Save (fun k => ¬ (fun b => b = bx) k) W' w') := fun W' h => by rw [hr]; exact both_take_p n h HA.out
              have HT2 : Hid (∀ (Z : Nat → Prop) (W' : World), MBoth w Z W' p q r.2.2 A → Calls Try.prog 35 #[.pointer (some ⟨q, 0, none⟩), .int .i64 n] W' fun e w' => e = .returned (.tuple #[.agg #[.int .i64 r.1.kind, .int .i64 r.1.deal, .int .i64 r.1.shop, .int .i64 r.1.c, .int .i64 r.1.d, .bool r.1.yes], .bool r.2.1]) ∧ MBoth w Z w' p q r.2.2 r.2.2 ∧ Save (fun k => ¬ Z k) W' w') := fun Z W' h => by rw [hr] at h ⊢; exact both_take_g n h HA.out
              rw [← hr] at HP
              have hqe : ∀ W : World, (Op.equalIn 10000 71 (.agg #[.int .i64 r.1.kind, .int .i64 r.1.deal, .int .i64 r.1.shop, .int .i64 r.1.c, .int .i64 r.1.d, .bool r.1.yes]) (.agg #[.int .i64 r.1.kind, .int .i64 r.1.deal, .int .i64 r.1.shop, .int .i64 r.1.c, .int .i64 r.1.d, .bool r.1.yes])).run Try.prog W = .ok true W := fun W => by rw [eqMl, eqM_iff.2 rfl]
              clear hr
              obtain ⟨r1, r2, r3⟩ := r
              dsimp only at *
              go_wp2_with fail
              refine Calls.mono (HT1.out _ hB2) ?_
              rintro e w9 ⟨rfl, hB9, hS9⟩
              have hX9 := hX.save hS9 (fun q => q rfl)
              clear hX hB2 hS9 y0 y1 HT1
              go_upto_region 17 with fail
              have hb9 : Below w9.heap.size w9 (w9.alloc (.cells #[.int .i64 r1.kind, .int .i64 r1.deal, .int .i64 r1.shop, .int .i64 r1.c, .int .i64 r1.d, .bool r1.yes] 71)) := (Below.refl _ _).alloc (Nat.le_refl _) _
              have hC9 := Box6.new w9 r1
              have hB10 : MBoth w (fun b => b = bx ∨ b = w9.heap.size) (w9.alloc (.cells #[.int .i64 r1.kind, .int .i64 r1.deal, .int .i64 r1.shop, .int .i64 r1.c, .int .i64 r1.d, .bool r1.yes] 71)) p q r3 A := hB9.more hb9 (fun b e => e.elim .inl (fun e => .inr (by subst e; simp)))
              have hX10 := hX9.next hb9
              generalize (w9.alloc (.cells #[.int .i64 r1.kind, .int .i64 r1.deal, .int .i64 r1.shop, .int .i64 r1.c, .int .i64 r1.d, .bool r1.yes] 71)) = W2 at *
              generalize w9.heap.size = b7 at hC9 hB10 ⊢
              clear hB9 hX9 hb9
              have y1 : W2.cell? ⟨bx, 1, none⟩ = some (.int .i64 n) := hX10.2 1 _ rfl
              go_wp2_with fail
              refine Calls.mono (HT2.out _ _ hB10) ?_
              rintro e w11 ⟨rfl, hB11, hS11⟩
              have hC11 := hC9.save hS11 (fun q => q (.inr rfl))
              clear hC9 hB10 hX10 y1 hS11 HT2
              go_upto_region 18 with fail
              have hb11 : Below w11.heap.size w11 (w11.alloc (.cells #[.int .i64 r1.kind, .int .i64 r1.deal, .int .i64 r1.shop, .int .i64 r1.c, .int .i64 r1.d, .bool r1.yes] 71)) := (Below.refl _ _).alloc (Nat.le_refl _) _
              have hC12 := Box6.new w11 r1
              have hC7 := hC11.next hb11
              have hB12 := hB11.next hb11
              generalize (w11.alloc (.cells #[.int .i64 r1.kind, .int .i64 r1.deal, .int .i64 r1.shop, .int .i64 r1.c, .int .i64 r1.d, .bool r1.yes] 71)) = W3 at *
              generalize w11.heap.size = b9 at hC12 ⊢
              clear hB11 hC11 hb11
              obtain ⟨_, u0, u1, u2, u3, u4, u5, _⟩ := hC7
              obtain ⟨_, v0, v1, v2, v3, v4, v5, _⟩ := hC12
              go_wp2_with fail
              go_meet
              case rel => rw [HP.out]; exact hB12.less (fun _ e => .inl e)
            · by_cases e2 : what = 2
              · subst e2
                clear e0 e1
                have HA1 : Hid (∀ W' : World, Below W1.heap.size W1 W' → Calls Try.prog 36 #[.pointer (some ⟨p, 0, none⟩), .int .i64 n] W' fun e w' => e = .returned (.bool (dblR A n).1) ∧ MBoth w (fun b => b = bx) w' p q (dblR A n).2 A ∧ BoxAt w' bx (PSp.cells ⟨2, n, m⟩)) := fun W' hW => (both_dbl_p n (hB2.next hW) HA.out).mono (fun e w' h => ⟨h.1, h.2.1, (hX.next hW).save h.2.2 (fun q => q rfl)⟩)
                have HA2 : Hid (∀ W2 W' : World, MBoth w (fun b => b = bx) W2 p q (dblR A n).2 A → BoxAt W2 bx (PSp.cells ⟨2, n, m⟩) → Below W2.heap.size W2 W' → Calls Try.prog 37 #[.pointer (some ⟨q, 0, none⟩), .int .i64 n] W' fun e w' => e = .returned (.bool (dblR A n).1) ∧ MBoth w (fun b => b = bx) w' p q (dblR A n).2 (dblR A n).2 ∧ BoxAt w' bx (PSp.cells ⟨2, n, m⟩)) := fun W2 W' h1 h2 hW => (both_dbl_g n (h1.next hW) HA.out).mono (fun e w' h => ⟨h.1, h.2.1, (h2.next hW).save h.2.2 (fun q => q rfl)⟩)
                have HKx : Hid (∀ w', BoxAt w' bx (PSp.cells ⟨2, n, m⟩) → w'.cell? ⟨bx, 1, none⟩ = some (.int .i64 n)) := fun w' h => h.2 1 _ rfl
                have HX : Hid (BoxAt W1 bx (PSp.cells ⟨2, n, m⟩)) := hX
                have HP : Hid (pstepR A ⟨2, n, m⟩ = (dblR A n).2) := rfl
                clear hX hB2
                generalize dblR A n = r at *
                go_upto_region 21 with fail
                go_cut [71] (fun s71 wx => s71 = .bool false ∧ MBoth w (fun b => b = bx) wx p q r.2 r.2)
                case first =>
                  go_region_held3 (fun w' => w'.cell? ⟨bx, 1, none⟩ = some (.int .i64 n))
                    (first | exact HKx.out _ HX10.out | exact HKx.out _ HX9.out | exact HKx.out _ (HX.out.next (by go_grown)))
                    (first | (go_at_call 36; refine Calls.mono (HA1.out _ (by go_grown)) ?_; rintro e w9 ⟨rfl, hB9, hX9⟩; have HB9 : Hid (MBoth w (fun b => b = bx) w9 p q r.2 A) := hB9; have HX9 : Hid (BoxAt w9 bx (PSp.cells ⟨2, n, m⟩)) := hX9; clear hB9 hX9) | (go_at_call 37; refine Calls.mono (HA2.out w9 _ HB9.out HX9.out (by go_grown)) ?_; rintro e w10 ⟨rfl, hB10, hX10⟩; have HB10 : Hid (MBoth w (fun b => b = bx) w10 p q r.2 r.2) := hB10; have HX10 : Hid (BoxAt w10 bx (PSp.cells ⟨2, n, m⟩)) := hX10; clear hB10 hX10))
                  all_goals
                    go_wp2_with fail
                    go_meet
                    case rel => exact ⟨by simp, HB10.out⟩
                case rest =>
                  obtain ⟨rfl, hB3⟩ := hcut
                  go_wp2_with fail
                  go_meet
                  case rel => rw [HP.out]; exact hB3
              · have e0' : (what == 0) = false := by simpa using e0
                have e1' : (what == 1) = false := by simpa using e1
                have e2' : (what == 2) = false := by simpa using e2
                have HP : Hid (pstepR A ⟨what, n, m⟩ = A) := pstepR_no A what n m e0 e1 e2
                clear e0 e1 e2
                go_wp2_with fail
                go_meet
                case rel => rw [HP.out]; exact hB2
        case rest =>
          have HL40 : Hid ((pstepR A x).length ≤ 40) := pstepR_len A x HLen.out
          have hB3 := hcut
          clear hcut hB2 hX y0
          generalize pstepR A x = L at hB3 HL40
          obtain ⟨O1, O2, h1, h2, _⟩ := hB3.inn
          obtain ⟨mv, c0, hrow, _⟩ := h2.raw
          obtain ⟨ga, cap, rfl, hMA, _⟩ := mails_of_own hrow
          have hql := h2.lt
          have HM : Hid (MailsAt wc ga L) := hMA
          have HK : Hid (∀ w', Below wc.heap.size wc w' → w'.cell? ⟨q, 0, none⟩ = some (.slice ga L.length cap) ∧ Below wc.heap.size wc w') := fun w' hb => ⟨((bcell hb).1 _ _ hql).trans c0, hb⟩
          have HC1 : Hid (∀ W : World, Below wc.heap.size wc W → Calls Try.prog 38 #[.pointer (some ⟨p, 0, none⟩)] W fun e w' => e = .returned (.int .i64 (L.length : Int)) ∧ Below W.heap.size W w') := fun W hW => plen_any O1 L p 0 W (h1.next hW)
          have HC2 : Hid (∀ W : World, Below wc.heap.size wc W → Calls Try.prog 40 #[.pointer (some ⟨p, 0, none⟩)] W fun e w' => (∃ gb capb, e = .returned (.slice gb L.length capb) ∧ MailsAt w' gb L) ∧ Below W.heap.size W w') := fun W hW => (plist_any O1 L p 0 W (h1.next hW) (by have := HL40.out; omega)).mono (fun e w' h => by
            obtain ⟨⟨gb, capb, e1, e2, _⟩, e3⟩ := h
            exact ⟨⟨gb, capb, e1, e2⟩, e3⟩)
          have HC3 : Hid (∀ (W W' : World) (gb : Option Addr) (capb : Nat), Below wc.heap.size wc W → MailsAt W gb L → Below W.heap.size W W' → Calls Try.prog 39 #[.slice gb L.length capb, .slice ga L.length cap] W' fun e w' => e = .returned (.bool true) ∧ Below W'.heap.size W' w') := fun W W' gb capb hW hB hW' => (sameMail_any gb ga _ _ capb cap L L W' (hB.below hW' (Nat.le_refl _)) ((HM.out.below hW (Nat.le_refl _)).below hW' (Nat.le_refl _)) rfl rfl (by have := HL40.out; omega)).mono (fun e w' h => by
            obtain ⟨⟨b, e1, e2⟩, e3⟩ := h
            rw [e2.2 rfl] at e1
            exact ⟨e1, e3⟩)
          have HB3 : Hid (MBoth w (fun b => b = bx) wc p q L L) := hB3
          have hnn : ((L.length : Int) != (L.length : Int)) = false := by simp
          clear hB3 h1 h2 hrow hMA c0
          go_upto_region 23 with fail
          go_cut [83] (fun s83 wx => s83 = .bool false ∧ Below wc.heap.size wc wx)
          case first =>
            go_region_held3 (fun w' => w'.cell? ⟨q, 0, none⟩ = some (.slice ga L.length cap) ∧ Below wc.heap.size wc w')
              (first | exact HK.out _ (by go_grown))
              (first | (go_at_call 38; refine Calls.mono (HC1.out _ (by go_grown)) ?_; rintro e w9 ⟨rfl, hb9⟩; have hw9 : Below wc.heap.size wc w9 := after (by go_grown) hb9 (by simp); have hz9 : wc.heap.size ≤ w9.heap.size := hw9.size) | (go_at_call 40; refine Calls.mono (HC2.out _ (by go_grown)) ?_; rintro e w11 ⟨⟨gb, capb, rfl, hAB⟩, hb11⟩; have HAB : Hid (MailsAt w11 gb L) := hAB; clear hAB; have hw11 : Below wc.heap.size wc w11 := after hw9 hb11 hz9; have hz11 : wc.heap.size ≤ w11.heap.size := hw11.size) | (go_at_call 39; refine Calls.mono (HC3.out w11 _ gb capb hw11 HAB.out (by go_grown)) ?_; rintro e w12 ⟨rfl, hb12⟩; have hw12 : Below wc.heap.size wc w12 := after hw11 hb12 hz11; have hz12 : wc.heap.size ≤ w12.heap.size := hw12.size))
            all_goals
              go_wp2_with fail
              go_meet
              case rel => exact ⟨by simp, by go_grown⟩
          case rest =>
            obtain ⟨rfl, hb4⟩ := hcut
            go_wp2_with fail
            go_roundg (ll - (k + 1))
            case measure => have := HKN.out; omega
            case rel => exact ⟨k + 1, L, HKN.out, rfl, by simp, (HB3.out.next hb4).less (fun _ q => q.elim), HL40⟩
      · have hkk : k = ll := by omega
        subst hkk
        clear hk hlt
        go_wp2_with fail
        go_ret
        exact ⟨rfl, hB1.below⟩

end Go.Proofs.Ytbgnajcmhmpjlab
