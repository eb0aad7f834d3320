/- The walk of ShopOthers: it answers true, whatever shop, world, steps and step it is given. -/
import Derived.Test.YtbgnajcmhmpjlaaSOth
namespace Go.Proofs.Ytbgnajcmhmpjlaa
open Go.RowKit

set_option maxHeartbeats 8000000 in
set_option maxRecDepth 100000 in
theorem others_walk (no : Int) (ws : Nat → Int) (la : Option Addr) (ll lc : Nat) (l : List Stp) (x : Stp) (w : World) (hl : StepsAt w la l) (hll : l.length = ll) :
    Calls Try.prog 14 #[.int .i64 no, .agg #[.int .i64 (ws 0), .int .i64 (ws 1), .int .i64 (ws 2), .int .i64 (ws 3), .int .i64 (ws 4), .int .i64 (ws 5)], .slice la ll lc, .agg #[.int .i64 x.what, .int .i64 x.deal, .int .i64 x.c, .int .i64 x.d, .bool x.done]] w fun e w' => e = .returned (.bool true) ∧ Below w.heap.size w w' := by
  by_cases hbig : 150 < ll
  · have hbig' : (150 : Int) < (ll : Int) := by omega
    clear hl hll hbig
    go_enter Try.func14, Try.ntmps14
    go_wp2_with fail
    refine (sbegun_any _).mono ?_
    rintro e w1 ⟨rfl, hb1⟩
    go_wp2_with fail
    go_ret
    exact ⟨rfl, after (by go_grown) hb1 (by simp; omega)⟩
  · have hbig' : ¬ (150 : Int) < (ll : Int) := by omega
    have HB : Hid (ll ≤ 150) := by show _ ≤ _; omega
    clear hbig
    go_enter Try.func14, Try.ntmps14
    go_upto_region 1 with fail
    have hX := (box_new6 w ws 39).next ((Below.refl _ _).alloc (Nat.le_refl _) (.cells #[.int .i64 x.what, .int .i64 x.deal, .int .i64 x.c, .int .i64 x.d, .bool x.done] 72))
    have hY := BoxAt.new (w.alloc (.cells #[.int .i64 (ws 0), .int .i64 (ws 1), .int .i64 (ws 2), .int .i64 (ws 3), .int .i64 (ws 4), .int .i64 (ws 5)] 39)) [.int .i64 x.what, .int .i64 x.deal, .int .i64 x.c, .int .i64 x.d, .bool x.done] 72
    have hb0 : Below w.heap.size w ((w.alloc (.cells #[.int .i64 (ws 0), .int .i64 (ws 1), .int .i64 (ws 2), .int .i64 (ws 3), .int .i64 (ws 4), .int .i64 (ws 5)] 39)).alloc (.cells #[.int .i64 x.what, .int .i64 x.deal, .int .i64 x.c, .int .i64 x.d, .bool x.done] 72)) := by go_grown
    have hz : (w.alloc (.cells #[.int .i64 (ws 0), .int .i64 (ws 1), .int .i64 (ws 2), .int .i64 (ws 3), .int .i64 (ws 4), .int .i64 (ws 5)] 39)).heap.size = w.heap.size + 1 := by simp
    change BoxAt ((w.alloc (.cells #[.int .i64 (ws 0), .int .i64 (ws 1), .int .i64 (ws 2), .int .i64 (ws 3), .int .i64 (ws 4), .int .i64 (ws 5)] 39)).alloc (.cells #[.int .i64 x.what, .int .i64 x.deal, .int .i64 x.c, .int .i64 x.d, .bool x.done] 72)) _ _ at hY
    rw [hz] at hY
    generalize ((w.alloc (.cells #[.int .i64 (ws 0), .int .i64 (ws 1), .int .i64 (ws 2), .int .i64 (ws 3), .int .i64 (ws 4), .int .i64 (ws 5)] 39)).alloc (.cells #[.int .i64 x.what, .int .i64 x.deal, .int .i64 x.c, .int .i64 x.d, .bool x.done] 72)) = W0 at hX hY hb0 ⊢
    have hxw : w.heap.size ≤ w.heap.size + 1 := Nat.le_succ _
    generalize w.heap.size + 1 = xb at hY hxw ⊢
    clear hz
    go_wp2_with fail
    refine (sbegun_any _).mono ?_
    rintro e w1 ⟨rfl, hb1⟩
    have hX1 := hX.next hb1
    have hY1 := hY.next hb1
    have hb2 : Below w.heap.size w w1 := after hb0 hb1 hb0.size
    have x0 := hX1.2 0 _ rfl
    have x1 := hX1.2 1 _ rfl
    have x2 := hX1.2 2 _ rfl
    have x3 := hX1.2 3 _ rfl
    have x4 := hX1.2 4 _ rfl
    have x5 := hX1.2 5 _ rfl
    have HT : Hid (StepsAt w1 la l) := hl.below hb2 (Nat.le_refl _)
    clear hb1 hX hX1 hY hl hb0
    go_wp2_with fail
    refine Calls.mono (bshops_any no ws la ll lc l w1 HT.out hll HB.out) ?_
    rintro e w2 ⟨hN, hb3⟩
    have hb4 : Below w.heap.size w w2 := after hb2 hb3 hb2.size
    have hY2 := hY1.next hb3
    have hyl := hY1.1
    have hw1 := hb2.size
    clear x0 x1 x2 x3 x4 x5 HT hY1
    unfold ShopsIs at hN
    by_cases hok : newOk no ws = true
    · rw [if_pos hok] at hN
      obtain ⟨p, q, A, rfl, hBo, hG, hlh, _⟩ := hN
      have HG : Hid (Good A) := hG
      have HLen : Hid (A.hs.length ≤ 150) := by have := HB.out; show _ ≤ _; omega
      have hL2 : Live w (fun b => b = xb) w2 p A := by
        obtain ⟨O, h1, h2⟩ := hBo.shop.inn
        exact ⟨⟨O, h1, fun k hk => ⟨Nat.le_trans hw1 (h2 k hk).1, fun e => by have := (h2 k hk).1; omega⟩⟩, hb4, fun k e => by rw [e]; exact hY2.1⟩
      have HOk : Hid _ := hok
      clear hok hG hlh hBo hb2 hb3 hyl hw1
      go_upto_region 6 with fail
      have hS := BoxAt.new w2 [.pointer (some ⟨p, 0, none⟩)] 55
      have hbn : Below w2.heap.size w2 (w2.alloc (.cells #[.pointer (some ⟨p, 0, none⟩)] 55)) := (Below.refl _ _).alloc (Nat.le_refl _) _
      have hL3 : Live w (fun b => b = xb ∨ b = w2.heap.size) (w2.alloc (.cells #[.pointer (some ⟨p, 0, none⟩)] 55)) p A := hL2.more hbn (fun b e => by
        rcases e with e | e
        · exact .inl e
        · exact .inr (by subst e; simp))
      have hY3 := hY2.next hbn
      change BoxAt (w2.alloc (.cells #[.pointer (some ⟨p, 0, none⟩)] 55)) _ _ at hS
      generalize (w2.alloc (.cells #[.pointer (some ⟨p, 0, none⟩)] 55)) = W3 at hS hL3 hY3 ⊢
      generalize w2.heap.size = sb at hS hL3 ⊢
      clear hL2 hY2 hbn hb4
      have s0 := hS.2 0 _ rfl
      have eg := enters_of Try.func50 (by kernel_rfl) rfl
      go_wp2_with fail
      refine Calls.mono (others_any x hL3 hS hY3 (by have := HLen.out; omega)) ?_
      rintro e w4 ⟨⟨gw, capw, rfl, hW4, hf4⟩, hb4⟩
      have hS4 := hS.next hb4
      have hY4 := hY3.next hb4
      have hL4 : Live w (fun b => b = xb ∨ b = sb ∨ ∃ a, gw = some a ∧ b = a.block) w4 p A := hL3.more hb4 (fun b hb => by
        rcases hb with rfl | rfl | ⟨a, e, rfl⟩
        · exact .inl (.inl rfl)
        · exact .inl (.inr rfl)
        · exact .inr (hf4 a e))
      clear hL3 hS hY3 s0 hf4 hb4
      go_upto_region 11 with fail
      have hO1 := (BAt.new w4 78).next ((Below.refl _ _).alloc (Nat.le_refl _) (.cells #[.bool false, .bool false, .bool false, .bool false, .bool false, .bool false, .bool false, .bool false] 78))
      have hD1 := BAt.new (w4.alloc (.cells #[.bool false, .bool false, .bool false, .bool false, .bool false, .bool false, .bool false, .bool false] 78)) 78
      have hbn : Below w4.heap.size w4 ((w4.alloc (.cells #[.bool false, .bool false, .bool false, .bool false, .bool false, .bool false, .bool false, .bool false] 78)).alloc (.cells #[.bool false, .bool false, .bool false, .bool false, .bool false, .bool false, .bool false, .bool false] 78)) := by go_grown
      have hz1 : (w4.alloc (.cells #[.bool false, .bool false, .bool false, .bool false, .bool false, .bool false, .bool false, .bool false] 78)).heap.size = w4.heap.size + 1 := by simp
      rw [hz1] at hD1
      have hS5 := hS4.next hbn
      have hY5 := hY4.next hbn
      have hW5 := hW4.below hbn (Nat.le_refl _)
      have hsl := hS4.1
      have hyl := hY4.1
      have hwl : w.heap.size ≤ w4.heap.size := hL4.below.size
      have HFar : Hid (∀ a, gw = some a → a.block < w4.heap.size) := fun a e => hL4.kept _ (.inr (.inr ⟨a, e, rfl⟩))
      generalize ((w4.alloc (.cells #[.bool false, .bool false, .bool false, .bool false, .bool false, .bool false, .bool false, .bool false] 78)).alloc (.cells #[.bool false, .bool false, .bool false, .bool false, .bool false, .bool false, .bool false, .bool false] 78)) = W5 at hO1 hD1 hbn hS5 hY5 hW5 ⊢
      have hL5 : Live w (fun b => b = xb ∨ b = sb ∨ b = w4.heap.size ∨ b = w4.heap.size + 1 ∨ ∃ a, gw = some a ∧ b = a.block) W5 p A := hL4.more hbn (fun b hb => by
        rcases hb with hb | hb | rfl | rfl | hb
        · exact .inl (.inl hb)
        · exact .inl (.inr (.inl hb))
        · exact .inr ⟨Nat.le_refl _, hO1.lt⟩
        · exact .inr ⟨Nat.le_succ _, hD1.lt⟩
        · exact .inl (.inr (.inr hb)))
      have hod : w4.heap.size ≠ w4.heap.size + 1 := by omega
      have hso : sb ≠ w4.heap.size := by omega
      have hsd : sb ≠ w4.heap.size + 1 := by omega
      have hyo : xb ≠ w4.heap.size := by omega
      have hyd : xb ≠ w4.heap.size + 1 := by omega
      have hwo : w.heap.size ≤ w4.heap.size + 1 := by omega
      have HFar2 : Hid (∀ a, gw = some a → a.block ≠ w4.heap.size ∧ a.block ≠ w4.heap.size + 1) := fun a e => by have := HFar.out a e; omega
      clear hL4 hS4 hY4 hW4 hbn hz1 hsl hyl HFar
      generalize w4.heap.size + 1 = db at *
      generalize w4.heap.size = ob at *
      go_upto_block 0 with fail
      go_cut [16] (fun _ wx => Live w (fun b => b = xb ∨ b = sb ∨ b = ob ∨ b = db ∨ ∃ a, gw = some a ∧ b = a.block) wx p A ∧ BoxAt wx sb [.pointer (some ⟨p, 0, none⟩)] ∧ BoxAt wx xb x.cells ∧ HoldsAt wx gw (kept x.deal A.hs A.hs.length) ∧ BAt wx ob (fun d => ovB A.es d) ∧ BAt wx db (fun d => dnB A.es d))
      case first =>
        go_wp2_with fail
        go_loopg [16] 8 (fun g s16 wr => ∃ k : Nat, k ≤ 8 ∧ g = 8 - k ∧ s16 = .int .i64 k ∧ Live w (fun b => b = xb ∨ b = sb ∨ b = ob ∨ b = db ∨ ∃ a, gw = some a ∧ b = a.block) wr p A ∧ BoxAt wr sb [.pointer (some ⟨p, 0, none⟩)] ∧ BoxAt wr xb x.cells ∧ HoldsAt wr gw (kept x.deal A.hs A.hs.length) ∧ BAt wr ob (upto k (fun d => ovB A.es d)) ∧ BAt wr db (upto k (fun d => dnB A.es d)))
        case atStart => exact ⟨0, Nat.zero_le _, rfl, rfl, hL5, hS5, hY5, hW5, hO1.congr (fun j _ => by simp [upto]), hD1.congr (fun j _ => by simp [upto])⟩
        case round =>
          obtain ⟨k, hk, rfl, rfl, hL6, hS6, hY6, hW6, hO6, hD6⟩ := hrel
          clear hL5 hS5 hY5 hW5 hO1 hD1
          by_cases hk8 : k < 8
          · have i0 : (0 : Int) ≤ (k : Int) := by omega
            have i1 : (k : Int) < 8 := by omega
            have s0 := hS6.2 0 _ rfl
            have HK8 : Hid (k < 8) := hk8
            clear hk hk8 eg
            go_wp2_with fail
            refine (over_live hL6 HG.out (k : Int)).mono ?_
            rintro e w7 ⟨rfl, hL7, hb7⟩
            have hS7 := hS6.next hb7
            have hY7 := hY6.next hb7
            have hW7 := hW6.below hb7 (Nat.le_refl _)
            have hO7 := hO6.next hb7
            have hD7 := hD6.next hb7
            clear hL6 hS6 hY6 hW6 hO6 hD6 hb7 s0
            have o1 := hO7.cell k HK8.out
            have d1 := hD7.cell k HK8.out
            have fo := hO7.loose
            have fd := hD7.loose
            have lo := hO7.lt
            have ld := hD7.lt
            have HNx : Hid (∀ u v : Bool, u = ovB A.es k → v = dnB A.es k → Live w (fun b => b = xb ∨ b = sb ∨ b = ob ∨ b = db ∨ ∃ a, gw = some a ∧ b = a.block) ((w7.setCell ⟨ob, k, none⟩ (.bool u)).setCell ⟨db, k, none⟩ (.bool v)) p A ∧ BoxAt ((w7.setCell ⟨ob, k, none⟩ (.bool u)).setCell ⟨db, k, none⟩ (.bool v)) sb [.pointer (some ⟨p, 0, none⟩)] ∧ BoxAt ((w7.setCell ⟨ob, k, none⟩ (.bool u)).setCell ⟨db, k, none⟩ (.bool v)) xb x.cells ∧ HoldsAt ((w7.setCell ⟨ob, k, none⟩ (.bool u)).setCell ⟨db, k, none⟩ (.bool v)) gw (kept x.deal A.hs A.hs.length) ∧ BAt ((w7.setCell ⟨ob, k, none⟩ (.bool u)).setCell ⟨db, k, none⟩ (.bool v)) ob (upto (k + 1) (fun d => ovB A.es d)) ∧ BAt ((w7.setCell ⟨ob, k, none⟩ (.bool u)).setCell ⟨db, k, none⟩ (.bool v)) db (upto (k + 1) (fun d => dnB A.es d))) := by
              intro u v hu hv
              have hS : Save (fun b => b = ob ∨ b = db) w7 ((w7.setCell ⟨ob, k, none⟩ (.bool u)).setCell ⟨db, k, none⟩ (.bool v)) := Save.setCell (O := fun b => b = ob ∨ b = db) (Save.setCell (O := fun b => b = ob ∨ b = db) (Save.refl _ _) (p := ⟨ob, k, none⟩) (fun _ => .inl rfl) _) (p := ⟨db, k, none⟩) (fun _ => .inr rfl) _
              refine ⟨hL7.keep hS (fun b e => ?_), hS7.save hS (fun e => e.elim hso hsd), hY7.save hS (fun e => e.elim hyo hyd), hW7.save hS (fun a e h => h.elim (HFar2.out a e).1 (HFar2.out a e).2), ?_, ?_⟩
              · rcases e with rfl | rfl
                · exact ⟨.inr (.inr (.inl rfl)), by omega⟩
                · exact ⟨.inr (.inr (.inr (.inl rfl))), by omega⟩
              · rw [hu]
                exact ((hO7.set k _).off hod _).congr (upto_next k (fun d => ovB A.es d))
              · rw [hv]
                exact ((hD7.off hod.symm _).set k _).congr (upto_next k (fun d => dnB A.es d))
            clear hL7 hS7 hY7 hW7 hO7 hD7
            go_wp2_with fail
            go_roundg (8 - (k + 1))
            case measure => have := HK8.out; omega
            case rel => exact ⟨k + 1, HK8.out, rfl, by simp, HNx.out _ _ rfl rfl⟩
          · have hkk : k = 8 := by omega
            subst hkk
            clear hk hk8
            go_wp2_with fail
            go_meet
            case rel => exact ⟨hL6, hS6, hY6, hW6, hO6.congr (upto_all _), hD6.congr (upto_all _)⟩
      case rest =>
        obtain ⟨hL6, hS6, hY6, hW6, hO6, hD6⟩ := hcut
        clear hL5 hS5 hY5 hW5 hO1 hD1
        have s0 := hS6.2 0 _ rfl
        have y0 : wc.cell? ⟨xb, 0, none⟩ = some (.int .i64 x.what) := hY6.2 0 _ rfl
        have y1 : wc.cell? ⟨xb, 1, none⟩ = some (.int .i64 x.deal) := hY6.2 1 _ rfl
        have y2 : wc.cell? ⟨xb, 2, none⟩ = some (.int .i64 x.c) := hY6.2 2 _ rfl
        have y3 : wc.cell? ⟨xb, 3, none⟩ = some (.int .i64 x.d) := hY6.2 3 _ rfl
        have y4 : wc.cell? ⟨xb, 4, none⟩ = some (.bool x.done) := hY6.2 4 _ rfl
        go_upto_block 2 with fail
        go_cut [54] (fun _ wx => Live w (fun b => b = xb ∨ b = sb ∨ b = ob ∨ b = db ∨ ∃ a, gw = some a ∧ b = a.block) wx p (stepR A x).2 ∧ Save (fun k => ¬ (k = xb ∨ k = sb ∨ k = ob ∨ k = db ∨ ∃ a, gw = some a ∧ k = a.block)) wc wx)
        case first =>
          obtain ⟨what, deal, c, d, done⟩ := x
          dsimp only at *
          by_cases e0 : what = 0
          · subst e0
            have HE : Hid (stepR A ⟨0, deal, c, d, done⟩ = holdR A deal c d) := stepR_hold rfl
            obtain ⟨r, hr⟩ : ∃ r, r = stepR A ⟨0, deal, c, d, done⟩ := ⟨_, rfl⟩
            have HR : Hid _ := hr
            have HE2 : Hid (holdR A deal c d = (r.1, r.2)) := by show _ = _; rw [HR.out, HE.out]
            clear hr eg
            go_wp2_with fail
            refine (hold_live hL6 HG.out.no0 HG.out.no3 (by have := HLen.out; omega) HE2.out).mono ?_
            rintro e w7 ⟨rfl, hL7, hS7⟩
            go_wp2_with fail
            go_meet
            case rel => exact ⟨by rw [← HR.out]; exact hL7, hS7⟩
          · by_cases e1 : what = 1
            · subst e1
              clear e0
              have HE : Hid (stepR A ⟨1, deal, c, d, done⟩ = endR A deal done) := stepR_end rfl
              obtain ⟨r, hr⟩ : ∃ r, r = stepR A ⟨1, deal, c, d, done⟩ := ⟨_, rfl⟩
              have HR : Hid _ := hr
              have HE2 : Hid (endR A deal done = (r.1, r.2)) := by show _ = _; rw [HR.out, HE.out]
              clear hr eg
              go_wp2_with fail
              refine (end_live hL6 HG.out (by have := HLen.out; omega) HE2.out).mono ?_
              rintro e w7 ⟨rfl, hL7, hS7⟩
              go_wp2_with fail
              go_meet
              case rel => exact ⟨by rw [← HR.out]; exact hL7, hS7⟩
            · have e0' : (what == 0) = false := by simpa using e0
              have e1' : (what == 1) = false := by simpa using e1
              have HE : Hid (stepR A ⟨what, deal, c, d, done⟩ = (0, A)) := stepR_none e0 e1
              clear e0 e1 eg
              go_wp2_with fail
              go_meet
              case rel => exact ⟨by rw [HE.out]; exact hL6, Save.refl _ _⟩
        case rest =>
          obtain ⟨hL7, hSv⟩ := hcut
          have hS7 := hS6.save hSv (fun q => q (.inr (.inl rfl)))
          have hY7 := hY6.save hSv (fun q => q (.inl rfl))
          have hW7 := hW6.save hSv (fun a e q => q (.inr (.inr (.inr (.inr ⟨a, e, rfl⟩)))))
          have hO7 := hO6.save hSv (fun q => q (.inr (.inr (.inl rfl))))
          have hD7 := hD6.save hSv (fun q => q (.inr (.inr (.inr (.inl rfl)))))
          have HGs : Hid (Good (stepR A x).2) := good_step HG.out x
          have HLs : Hid ((stepR A x).2.hs.length ≤ 151) := by have := (step_len A x).1; have := HLen.out; show _ ≤ _; omega
          have HOv : Hid (∀ y : Int, y ≠ x.deal → ovB (stepR A x).2.es y = ovB A.es y ∧ dnB (stepR A x).2.es y = dnB A.es y) := fun y hy => step_ov A x hy
          have HFl : Hid (kept x.deal (stepR A x).2.hs (stepR A x).2.hs.length = kept x.deal A.hs A.hs.length) := by show _ = _; rw [kept_all, kept_all]; exact step_others A x
          generalize (stepR A x).2 = A9 at *
          clear hL6 hS6 hY6 hW6 hO6 hD6 hSv s0 y0 y1 y2 y3 y4
          go_wp2_with fail
          go_loopg [17, 18, 19] 8 (fun g s17 _ _ wr => ∃ k : Nat, k ≤ 8 ∧ g = 8 - k ∧ s17 = .int .i64 k ∧ Below wc.heap.size wc wr)
          case atStart => exact ⟨0, Nat.zero_le _, rfl, rfl, Below.refl _ _⟩
          case round =>
            obtain ⟨k, hk, rfl, rfl, hb8⟩ := hrel
            have s0 : wr.cell? ⟨sb, 0, none⟩ = some (.pointer (some ⟨p, 0, none⟩)) := (hS7.next hb8).2 0 _ rfl
            by_cases hk8 : k < 8
            · have i0 : (0 : Int) ≤ (k : Int) := by omega
              have i1 : (k : Int) < 8 := by omega
              have HK8 : Hid (k < 8) := hk8
              clear hk hk8 eg
              go_wp2_with fail
              refine (over_live (hL7.next hb8) HGs.out (k : Int)).mono ?_
              rintro e w9 ⟨rfl, _, hb9⟩
              have hb10 : Below wc.heap.size wc w9 := after hb8 hb9 hb8.size
              have y1 : w9.cell? ⟨xb, 1, none⟩ = some (.int .i64 x.deal) := (hY7.next hb10).2 1 _ rfl
              have o1 := (hO7.next hb10).cell k HK8.out
              have d1 := (hD7.next hb10).cell k HK8.out
              clear s0 hb9
              obtain ⟨dl, hdl⟩ : ∃ dl, dl = x.deal := ⟨_, rfl⟩
              rw [← hdl] at y1
              by_cases hkd : (k : Int) = dl
              · subst hkd
                clear o1 d1 hdl
                go_wp2_with fail
                go_roundg (8 - (k + 1))
                case measure => have := HK8.out; omega
                case rel => exact ⟨k + 1, HK8.out, rfl, by simp, hb10⟩
              · have hkd' : (k : Int) ≠ dl := hkd
                have hkd2 : ((k : Int) != dl) = true := by simpa using hkd
                obtain ⟨q1, q2⟩ := HOv.out k (by rw [← hdl]; exact hkd)
                rw [q1, q2]
                clear hkd q1 q2 hdl
                generalize ovB A.es (k : Int) = bo at *
                generalize dnB A.es (k : Int) = bd at *
                go_wp2_with fail
                go_roundg (8 - (k + 1))
                case measure => have := HK8.out; omega
                case rel => exact ⟨k + 1, HK8.out, rfl, by simp, hb10⟩
            · have hkk : k = 8 := by omega
              subst hkk
              clear hk hk8
              go_wp2_with fail
              refine Calls.mono (others_any x (hL7.next hb8) (hS7.next hb8) (hY7.next hb8) (by have := HLs.out; omega)) ?_
              rw [HFl.out]
              rintro e w9 ⟨⟨g2, cap2, rfl, hA2, _⟩, hb9⟩
              have hb10 : Below wc.heap.size wc w9 := after hb8 hb9 hb8.size
              have HW9 : Hid (HoldsAt w9 gw (kept x.deal A.hs A.hs.length)) := hW7.below hb10 (Nat.le_refl _)
              have HA9 : Hid (HoldsAt w9 g2 (kept x.deal A.hs A.hs.length)) := hA2
              have HBl : Hid (Below w.heap.size w w9) := after hL7.below hb10 hL7.below.size
              have HKl : Hid ((kept x.deal A.hs A.hs.length).length ≤ 150) := by have := kept_le x.deal A.hs A.hs.length; have := HLen.out; show _ ≤ _; omega
              clear hA2 hb9 hb10 s0
              go_wp2_with fail
              refine Calls.mono (sameHolds_any gw g2 _ _ capw cap2 _ _ w9 HW9.out HA9.out rfl rfl (by have := HKl.out; omega)) ?_
              rintro e w10 ⟨rfl, hb10⟩
              go_wp2_with fail
              go_ret
              exact ⟨by simp, after HBl.out hb10 HBl.out.size⟩
    · rw [if_neg hok] at hN
      subst hN
      go_wp2_with fail
      go_ret
      exact ⟨rfl, hb4.alloc hb4.size _⟩

end Go.Proofs.Ytbgnajcmhmpjlaa
