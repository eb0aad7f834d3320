/- The walk of ShopSums: it answers true, whatever shop, world and steps it is given. -/
import Derived.Test.YtbgnajcmhmpjlaaSSums
namespace Go.Proofs.Ytbgnajcmhmpjlaa
open Go.RowKit

set_option maxHeartbeats 8000000 in
set_option maxRecDepth 100000 in
theorem sums_walk (no : Int) (ws : Nat → Int) (la : Option Addr) (ll lc : Nat) (l : List Stp) (w : World) (hl : StepsAt w la l) (hll : l.length = ll) :
    Calls Try.prog 12 #[.int .i64 no, .agg #[.int .i64 (ws 0), .int .i64 (ws 1), .int .i64 (ws 2), .int .i64 (ws 3), .int .i64 (ws 4), .int .i64 (ws 5)], .slice la ll lc] w fun e w' => e = .returned (.bool true) ∧ Below w.heap.size w w' := by
  by_cases hbig : 150 < ll
  · have hbig' : (150 : Int) < (ll : Int) := by omega
    clear hl hll hbig
    go_enter Try.func12, Try.ntmps12
    go_wp2_with fail
    refine (sbegun_any _).mono ?_
    rintro e w1 ⟨rfl, hb1⟩
    go_wp2_with fail
    go_ret
    exact ⟨rfl, after (by go_grown) hb1 (by simp)⟩
  · have hbig' : ¬ (150 : Int) < (ll : Int) := by omega
    have HB : Hid (ll ≤ 150) := by show _ ≤ _; omega
    clear hbig
    go_enter Try.func12, Try.ntmps12
    go_wp2_with fail
    refine (sbegun_any _).mono ?_
    rintro e w1 ⟨rfl, hb1⟩
    have hX := (box_new6 w ws 39).next hb1
    have hb2 : Below w.heap.size w w1 := after (by go_grown) hb1 (by simp)
    have x0 := hX.2 0 _ rfl
    have x1 := hX.2 1 _ rfl
    have x2 := hX.2 2 _ rfl
    have x3 := hX.2 3 _ rfl
    have x4 := hX.2 4 _ rfl
    have x5 := hX.2 5 _ rfl
    clear hb1
    go_wp2_with fail
    refine (snew_any no ws _).mono ?_
    rintro e w2 ⟨hN, hb3⟩
    have hb4 : Below w.heap.size w w2 := after hb2 hb3 hb2.size
    have hX2 := hX.next hb3
    clear x0 x1 x2 x3 x4 x5 hX
    unfold NewIs at hN
    by_cases hok : newOk no ws = true
    · rw [if_pos hok] at hN
      obtain ⟨p, O, rfl, hI, hO⟩ := hN
      have hG0 := good_new hok
      have n0 : 0 ≤ no := hG0.no0
      have n3 : no < 3 := hG0.no3
      have hL : Live w (fun _ => False) w2 p (book0 no ws) := ⟨⟨O, hI, fun k hk => ⟨Nat.le_trans hb2.size (hO k hk), fun q => q⟩⟩, hb4, fun _ q => q.elim⟩
      have HG0 : Hid (Good (book0 no ws)) := hG0
      clear hI hO hb2 hb3 hok hG0
      go_upto_region 11 with fail
      have hV := VAt.new w2 66
      have hb5 : Below w2.heap.size w2 (w2.alloc (.cells #[.int .i64 0, .int .i64 0] 66)) := (Below.refl _ _).alloc (Nat.le_refl _) _
      have hL5 : Live w (fun b => b = w2.heap.size) (w2.alloc (.cells #[.int .i64 0, .int .i64 0] 66)) p (book0 no ws) := hL.more hb5 (fun b e => .inr (by subst e; simp))
      have hX5 := hX2.next hb5
      have hne : w.heap.size ≠ w2.heap.size := by have := hX2.1; omega
      have hle : w.heap.size ≤ w2.heap.size := hb4.size
      generalize (w2.alloc (.cells #[.int .i64 0, .int .i64 0] 66)) = W5 at hV hL5 hX5 ⊢
      generalize w2.heap.size = vb at hV hL5 hne hle ⊢
      clear hL hb4 hb5 hX2
      go_upto_block 0 with fail
      go_cut [9] (fun _ wx => VAt wx vb (book0 no ws).val ∧ Live w (fun b => b = vb) wx p (book0 no ws))
      case first =>
        go_wp2_with fail
        go_loopg [9] 2 (fun g s9 wr => ∃ k : Nat, k ≤ 2 ∧ g = 2 - k ∧ s9 = .int .i64 k ∧ VAt wr vb (fun j => if j < k then (book0 no ws).val j else 0) ∧ BoxAt wr w.heap.size [.int .i64 (ws 0), .int .i64 (ws 1), .int .i64 (ws 2), .int .i64 (ws 3), .int .i64 (ws 4), .int .i64 (ws 5)] ∧ Live w (fun b => b = vb) wr p (book0 no ws))
        case atStart => exact ⟨0, by omega, rfl, rfl, hV, hX5, hL5⟩
        case round =>
          obtain ⟨k, hk, rfl, rfl, hV6, hX6, hL6⟩ := hrel
          clear hV hX5 hL5
          by_cases hk2 : k < 2
          · have hno : no = 0 ∨ no = 1 ∨ no = 2 := by omega
            have hkk : k = 0 ∨ k = 1 := by omega
            have fz := hV6.loose
            have hlv := hV6.lt
            have hlx := hX6.1
            have HN : Hid (∀ v, v = (book0 no ws).val k → VAt (wr.setCell ⟨vb, k, none⟩ (.int .i64 v)) vb (fun j => if j < k + 1 then (book0 no ws).val j else 0)) := by
              intro v hv
              refine (hV6.set k v).congr (fun j _ => ?_)
              unfold upd
              dsimp only
              by_cases e : j = k
              · subst e; rw [if_pos rfl, if_pos (by omega), hv]
              · rw [if_neg e]
                by_cases e2 : j < k
                · rw [if_pos e2, if_pos (by omega)]
                · rw [if_neg e2, if_neg (by omega)]
            have HX : Hid (∀ v, BoxAt (wr.setCell ⟨vb, k, none⟩ (.int .i64 v)) w.heap.size [.int .i64 (ws 0), .int .i64 (ws 1), .int .i64 (ws 2), .int .i64 (ws 3), .int .i64 (ws 4), .int .i64 (ws 5)]) := fun v => ⟨by simpa using hlx, fun j u hj => by rw [cell_set_block hne]; exact hX6.2 j u hj⟩
            have HL : Hid (∀ v, Live w (fun b => b = vb) (wr.setCell ⟨vb, k, none⟩ (.int .i64 v)) p (book0 no ws)) := fun v => hL6.keep (O := fun b => b = vb) (Save.setCell (O := fun b => b = vb) (Save.refl _ _) (p := ⟨vb, k, none⟩) (fun _ => rfl) _) (fun b e => ⟨e, by subst e; exact hle⟩)
            have v0 := hV6.cell 0 (by omega)
            have v1 := hV6.cell 1 (by omega)
            have x0 := hX6.2 0 _ rfl
            have x1 := hX6.2 1 _ rfl
            have x2 := hX6.2 2 _ rfl
            have x3 := hX6.2 3 _ rfl
            have x4 := hX6.2 4 _ rfl
            have x5 := hX6.2 5 _ rfl
            clear hV6 hX6 hL6
            rcases hkk with rfl | rfl
            · rcases hno with rfl | rfl | rfl
              all_goals
                go_wp2_with fail
                go_roundg (2 - (0 + 1))
                case measure => omega
                case rel => exact ⟨0 + 1, by omega, rfl, by simp, HN.out _ rfl, HX.out _, HL.out _⟩
            · rcases hno with rfl | rfl | rfl
              all_goals
                go_wp2_with fail
                go_roundg (2 - (1 + 1))
                case measure => omega
                case rel => exact ⟨1 + 1, by omega, rfl, by simp, HN.out _ rfl, HX.out _, HL.out _⟩
          · have hV7 := hV6.congr (g := (book0 no ws).val) (fun j hj => if_pos (by omega))
            clear hV6 hX6
            have hkk : k = 2 := by omega
            subst hkk
            clear hk hk2
            go_wp2_with fail
            go_meet
            case rel => exact ⟨hV7, hL6⟩
      case rest =>
        obtain ⟨hV7, hL6⟩ := hcut
        clear hV hX5 hL5
        go_wp2_with fail
        go_loopg [10] ll (fun g s10 wr => ∃ (k : Nat) (A : Bk), k ≤ ll ∧ g = ll - k ∧ s10 = .int .i64 k ∧ Live w (fun b => b = vb) wr p A ∧ VAt wr vb A.val ∧ Hid (Good A) ∧ Hid (A.hs.length ≤ k) ∧ Hid (A.no = no))
        case atStart => exact ⟨0, _, Nat.zero_le _, rfl, rfl, hL6, hV7, HG0, Nat.le_refl _, rfl⟩
        case round =>
          clear hL6 hV7
          obtain ⟨k, A, hk, rfl, rfl, hL1, hV1, HG, HL, HN⟩ := hrel
          by_cases hlt : k < ll
          · obtain ⟨x, hkx⟩ : ∃ x, l[k]? = some x := ⟨_, List.getElem?_eq_getElem (by omega)⟩
            obtain ⟨bl, ol, rfl, hbl, hcell⟩ := hl k x hkx
            have hcell' : ∀ j v, x.cells[j]? = some v → wr.cell? ⟨bl, ol + k * 5 + j, none⟩ = some v := fun j v hj => (hL1.below.cell (p := ⟨bl, _, none⟩) hbl).trans (hcell j v hj)
            have p0 : wr.cell? ⟨bl, ol + k * 5, none⟩ = some (.int .i64 x.what) := hcell' 0 _ rfl
            have p1 : wr.cell? ⟨bl, ol + k * 5 + 1, none⟩ = some (.int .i64 x.deal) := hcell' 1 _ rfl
            have p2 : wr.cell? ⟨bl, ol + k * 5 + 2, none⟩ = some (.int .i64 x.c) := hcell' 2 _ rfl
            have p3 : wr.cell? ⟨bl, ol + k * 5 + 3, none⟩ = some (.int .i64 x.d) := hcell' 3 _ rfl
            have p4 : wr.cell? ⟨bl, ol + k * 5 + 4, none⟩ = some (.bool x.done) := hcell' 4 _ rfl
            have j0 : (0 : Int) ≤ (k : Int) := by omega
            have j1 : (k : Int) < (ll : Int) := by omega
            have HBL : Hid (bl < w.heap.size) := hbl
            have HT : Hid (StepsAt w (some ⟨bl, ol, none⟩) l) := hl
            have hl40 : A.hs.length < 2 ^ 40 := by have := HL.out; have := HB.out; omega
            clear hcell hcell' hl
            go_upto_region 19 with fail
            have hX := BoxAt.new wr x.cells 72
            have hbn : Below wr.heap.size wr (wr.alloc (.cells x.cells.toArray 72)) := (Below.refl _ _).alloc (Nat.le_refl _) _
            have hL2 : Live w (fun b => b = vb ∨ b = wr.heap.size) (wr.alloc (.cells x.cells.toArray 72)) p A := hL1.more hbn (fun b e => by
              rcases e with e | e
              · exact .inl e
              · exact .inr (by subst e; simp))
            have hV2 := hV1.next hbn
            have hvx : vb ≠ wr.heap.size := by have := hV1.lt; omega
            change Live w _ (wr.alloc (.cells #[.int .i64 x.what, .int .i64 x.deal, .int .i64 x.c, .int .i64 x.d, .bool x.done] _)) p A at hL2
            change BoxAt (wr.alloc (.cells #[.int .i64 x.what, .int .i64 x.deal, .int .i64 x.c, .int .i64 x.d, .bool x.done] _)) _ _ at hX
            change VAt (wr.alloc (.cells #[.int .i64 x.what, .int .i64 x.deal, .int .i64 x.c, .int .i64 x.d, .bool x.done] _)) _ _ at hV2
            generalize (wr.alloc (.cells #[.int .i64 x.what, .int .i64 x.deal, .int .i64 x.c, .int .i64 x.d, .bool x.done] 72)) = W1 at hX hL2 hV2 ⊢
            generalize wr.heap.size = bx at hX hL2 hvx ⊢
            clear hL1 p0 p1 p2 p3 p4 hV1 hbn
            go_wp2_with fail
            refine (holds_live hL2 hl40).mono ?_
            rintro e w3 ⟨⟨ga, cap, rfl, hA3, hf3⟩, hLx, hb3⟩
            clear hLx
            have hX3 := hX.next hb3
            have hV3 := hV2.next hb3
            have hL3 := hL2.more (K' := fun b => b = vb ∨ b = bx ∨ ∃ a, ga = some a ∧ b = a.block) hb3 (fun b hb => by
              rcases hb with rfl | rfl | ⟨a, e, rfl⟩
              · exact .inl (.inl rfl)
              · exact .inl (.inr rfl)
              · exact .inr (hf3 a e))
            have HGV : Hid (∀ a, ga = some a → a.block ≠ vb) := fun a e => by have := (hf3 a e).1; have := hV2.lt; omega
            clear hL2 hX hV2 hf3 hb3
            have y0 : w3.cell? ⟨bx, 0, none⟩ = some (.int .i64 x.what) := hX3.2 0 _ rfl
            have y1 : w3.cell? ⟨bx, 1, none⟩ = some (.int .i64 x.deal) := hX3.2 1 _ rfl
            have y2 : w3.cell? ⟨bx, 2, none⟩ = some (.int .i64 x.c) := hX3.2 2 _ rfl
            have y3 : w3.cell? ⟨bx, 3, none⟩ = some (.int .i64 x.d) := hX3.2 3 _ rfl
            have y4 : w3.cell? ⟨bx, 4, none⟩ = some (.bool x.done) := hX3.2 4 _ rfl
            go_upto_block 4 with fail
            go_cut [13] (fun _ wx => Live w (fun b => b = vb) wx p (stepR A x).2 ∧ VAt wx vb (stepR A x).2.val)
            case first =>
              obtain ⟨what, deal, c, d, done⟩ := x
              dsimp only at *
              by_cases e0 : what = 0
              · subst e0
                have HE : Hid (stepR A ⟨0, deal, c, d, done⟩ = holdR A deal c d) := stepR_hold rfl
                obtain ⟨r, hr⟩ : ∃ r, r = stepR A ⟨0, deal, c, d, done⟩ := ⟨_, rfl⟩
                have HR : Hid _ := hr
                have HE2 : Hid (holdR A deal c d = (r.1, r.2)) := by show _ = _; rw [HR.out, HE.out]
                have HV : Hid (∀ j, A.val j = r.2.val j) := by intro j; rw [HR.out, HE.out]; exact hold_val A deal c d j
                clear hr
                go_wp2_with fail
                refine (hold_live hL3 HG.out.no0 HG.out.no3 hl40 HE2.out).mono ?_
                rintro e w7 ⟨rfl, hL7, hS7⟩
                go_wp2_with fail
                go_meet
                case rel => exact ⟨by rw [← HR.out]; exact hL7.less (fun b e => .inl e), by rw [← HR.out]; exact (hV3.save hS7 (fun q => q (.inl rfl))).congr (fun j _ => HV.out j)⟩
              · by_cases e1 : what = 1
                · subst e1
                  clear e0
                  have HE : Hid (stepR A ⟨1, deal, c, d, done⟩ = endR A deal done) := stepR_end rfl
                  rcases endR_cases A deal done with ⟨_, er⟩ | ⟨_, _, ⟨b, hov, er⟩ | ⟨hov, er⟩⟩
                  · have HR : Hid (endR A deal done = (1, A)) := er
                    clear er
                    go_wp2_with fail
                    refine (over_live hL3 HG.out deal).mono ?_
                    rintro e w4 ⟨rfl, hL4, hb4⟩
                    have z1 : w4.cell? ⟨bx, 1, none⟩ = some (.int .i64 deal) := ((bcell hb4).1 _ _ hX3.1).trans y1
                    have z4 : w4.cell? ⟨bx, 4, none⟩ = some (.bool done) := ((bcell hb4).1 _ _ hX3.1).trans y4
                    go_wp2_with fail
                    refine (end_live hL4 HG.out hl40 HR.out).mono ?_
                    rintro e w5 ⟨rfl, hL5, hS5⟩
                    go_wp2_with fail
                    go_meet
                    case rel => exact ⟨by rw [HE.out, HR.out]; exact hL5.less (fun b e => .inl e), by rw [HE.out, HR.out]; exact (hV3.next hb4).save hS5 (fun q => q (.inl rfl))⟩
                  · have o1 : ovB A.es deal = true := by unfold ovB; rw [hov]; rfl
                    obtain ⟨r, hr, hr2⟩ : ∃ r : Int, endR A deal done = (r, A) ∧ (r = 0 ∨ r = 9) := by
                      by_cases q : b = done
                      · exact ⟨0, by rw [er, if_pos q], .inl rfl⟩
                      · exact ⟨9, by rw [er, if_neg q], .inr rfl⟩
                    have HR : Hid (endR A deal done = (r, A)) := hr
                    clear er hr hov
                    rcases hr2 with rfl | rfl
                    all_goals
                      go_wp2_with fail
                      refine (over_live hL3 HG.out deal).mono ?_
                      rw [o1]
                      rintro e w4 ⟨rfl, hL4, hb4⟩
                      have z1 : w4.cell? ⟨bx, 1, none⟩ = some (.int .i64 deal) := ((bcell hb4).1 _ _ hX3.1).trans y1
                      have z4 : w4.cell? ⟨bx, 4, none⟩ = some (.bool done) := ((bcell hb4).1 _ _ hX3.1).trans y4
                      go_wp2_with fail
                      refine (end_live hL4 HG.out hl40 HR.out).mono ?_
                      rintro e w5 ⟨rfl, hL5, hS5⟩
                      go_wp2_with fail
                      go_meet
                      case rel => exact ⟨by rw [HE.out, HR.out]; exact hL5.less (fun b e => .inl e), by rw [HE.out, HR.out]; exact (hV3.next hb4).save hS5 (fun q => q (.inl rfl))⟩
                  · have o1 : ovB A.es deal = false := by unfold ovB; rw [hov]; rfl
                    have HR : Hid (endR A deal done = (0, endA A deal done)) := er
                    clear er hov
                    cases done
                    · go_wp2_with fail
                      refine (over_live hL3 HG.out deal).mono ?_
                      rw [o1]
                      rintro e w4 ⟨rfl, hL4, hb4⟩
                      have z1 : w4.cell? ⟨bx, 1, none⟩ = some (.int .i64 deal) := ((bcell hb4).1 _ _ hX3.1).trans y1
                      have z4 : w4.cell? ⟨bx, 4, none⟩ = some (.bool false) := ((bcell hb4).1 _ _ hX3.1).trans y4
                      go_wp2_with fail
                      refine (end_live hL4 HG.out hl40 HR.out).mono ?_
                      rintro e w5 ⟨rfl, hL5, hS5⟩
                      have u4 : w5.cell? ⟨bx, 4, none⟩ = some (.bool false) := (hS5.cell (p := ⟨bx, 4, none⟩) (Nat.lt_of_lt_of_le hX3.1 hb4.size) (fun q => q (.inr (.inl rfl)))).trans z4
                      go_wp2_with fail
                      go_meet
                      case rel => exact ⟨by rw [HE.out, HR.out]; exact hL5.less (fun b e => .inl e), by rw [HE.out, HR.out]; exact ((hV3.next hb4).save hS5 (fun q => q (.inl rfl))).congr (val_no A deal)⟩
                    · go_wp2_with fail
                      refine (over_live hL3 HG.out deal).mono ?_
                      rw [o1]
                      rintro e w4 ⟨rfl, hL4, hb4⟩
                      have z1 : w4.cell? ⟨bx, 1, none⟩ = some (.int .i64 deal) := ((bcell hb4).1 _ _ hX3.1).trans y1
                      have z4 : w4.cell? ⟨bx, 4, none⟩ = some (.bool true) := ((bcell hb4).1 _ _ hX3.1).trans y4
                      go_wp2_with fail
                      refine (end_live hL4 HG.out hl40 HR.out).mono ?_
                      rintro e w5 ⟨rfl, hL5, hS5⟩
                      have u4 : w5.cell? ⟨bx, 4, none⟩ = some (.bool true) := (hS5.cell (p := ⟨bx, 4, none⟩) (Nat.lt_of_lt_of_le hX3.1 hb4.size) (fun q => q (.inr (.inl rfl)))).trans z4
                      have u1 : w5.cell? ⟨bx, 1, none⟩ = some (.int .i64 deal) := (hS5.cell (p := ⟨bx, 1, none⟩) (Nat.lt_of_lt_of_le hX3.1 hb4.size) (fun q => q (.inr (.inl rfl)))).trans z1
                      have ulx : bx < w5.heap.size := Nat.lt_of_lt_of_le (Nat.lt_of_lt_of_le hX3.1 hb4.size) hS5.size
                      have hA5 := (hA3.below hb4 (Nat.le_refl _)).save hS5 (fun a e q => q (.inr (.inr ⟨a, e, rfl⟩)))
                      have hV5 := ((hV3.next hb4).save hS5 (fun q => q (.inl rfl))).congr (valK_zero A deal)
                      clear hL3 hL4 hX3 hV3 hA3 y0 y1 y2 y3 y4 z1 z4 hS5 hb4
                      have hn9 : (A.hs.length : Int) < 2 ^ 40 := by omega
                      go_wp2_with fail
                      go_loopg [15] A.hs.length (fun g s15 wy => ∃ j : Nat, j ≤ A.hs.length ∧ g = A.hs.length - j ∧ s15 = .int .i64 j ∧ VAt wy vb (valK A deal j) ∧ Save (fun b => b = vb) w5 wy)
                      case atStart => exact ⟨0, Nat.zero_le _, rfl, rfl, hV5, Save.refl _ _⟩
                      case round =>
                        obtain ⟨j, hj, rfl, rfl, hV6, hS6⟩ := hrel
                        clear hV5
                        by_cases hjl : j < A.hs.length
                        · obtain ⟨⟨a, c2, d2⟩, hjx⟩ : ∃ x, A.hs[j]? = some x := ⟨_, List.getElem?_eq_getElem hjl⟩
                          obtain ⟨bl2, ol2, rfl, hbl2, q0, q1, q2⟩ := hA5 j a c2 d2 hjx
                          have hnv : bl2 ≠ vb := HGV.out _ rfl
                          have q0' : wr.cell? ⟨bl2, ol2 + j * 3, none⟩ = some (.int .i64 a) := (hS6.cell (p := ⟨bl2, _, none⟩) hbl2 hnv).trans q0
                          have q1' : wr.cell? ⟨bl2, ol2 + j * 3 + 1, none⟩ = some (.int .i64 c2) := (hS6.cell (p := ⟨bl2, _, none⟩) hbl2 hnv).trans q1
                          have q2' : wr.cell? ⟨bl2, ol2 + j * 3 + 2, none⟩ = some (.int .i64 d2) := (hS6.cell (p := ⟨bl2, _, none⟩) hbl2 hnv).trans q2
                          have u1' : wr.cell? ⟨bx, 1, none⟩ = some (.int .i64 deal) := (hS6.cell (p := ⟨bx, 1, none⟩) ulx (fun e => hvx e.symm)).trans u1
                          have s0 : (0 : Int) ≤ (j : Int) := by omega
                          have s1 : (j : Int) < (A.hs.length : Int) := by omega
                          obtain ⟨v8, v9, hs0, hw0, v7⟩ := HG.out.each _ (List.mem_of_getElem? hjx)
                          obtain ⟨g1, g2, g6⟩ := wnt_ok hw0
                          obtain ⟨g3, g4, g5⟩ := shp_place g1 g2 hs0
                          obtain ⟨m, hm⟩ := Int.eq_ofNat_of_zero_le g4
                          have hm2 : m < 2 := by omega
                          have HNo := HN.out
                          have hcq : c2 = A.no * 2 + (m : Int) := by simp only at g3 hm; omega
                          have hsh : shp c2 = no := hs0.trans HNo
                          obtain ⟨v6, d3, d4⟩ := dlt_ok g6
                          simp only at d3 d4
                          clear v6 v7 v8 v9
                          by_cases he : a = deal
                          · have he' : (a == deal) = true := by simpa using he
                            have HX : Hid (∀ i, i < 2 → upd (valK A deal j) m (valK A deal j m + d2) i = valK A deal (j + 1) i) := valK_next (by rw [hjx, he]) hcq
                            have hcm : c2 - no * 2 = (m : Int) := by rw [← HNo]; omega
                            have m0 : (0 : Int) ≤ (m : Int) := by omega
                            have m1 : (m : Int) < 2 := by omega
                            have c20 : 0 ≤ c2 := g1
                            have c26 : c2 < 6 := g2
                            have vm := hV6.cell m hm2
                            have fz := hV6.loose
                            have hvl := hV6.lt
                            obtain ⟨b0, b1⟩ := valK_ok HG.out deal hj hm2
                            have HV6 : Hid (VAt wr vb (valK A deal j)) := hV6
                            have HS6 : Hid (Save (fun b => b = vb) w5 wr) := hS6
                            generalize valK A deal j m = vv at vm b0 b1 HX
                            clear he hs0 hw0 g1 g2 g3 g4 g5 g6 hm hjx q0 q1 q2 u1 u4 hV6 hS6 HNo hcq
                            go_wp2_with fail
                            go_quiet ((go_at_call 32; exact Calls.quiet_of_same (shopOf_any _ _)))
                            rw [hsh]
                            go_wp2_with fail
                            go_region
                            all_goals
                              go_wp2_with fail
                              go_roundg (A.hs.length - (j + 1))
                              case measure => omega
                              case rel => exact ⟨j + 1, by omega, rfl, by simp, ((HV6.out.next (bdrewN (Below.refl _ _) _)).set m (vv + d2)).congr HX.out, Save.setCell (O := fun b => b = vb) (p := ⟨vb, m, none⟩) (HS6.out.next (bdrewN (Below.refl _ _) _)) (fun _ => rfl) _⟩
                          · have he' : (a == deal) = false := by simpa using he
                            have HX : Hid (∀ i, i < 2 → valK A deal j i = valK A deal (j + 1) i) := valK_skip hjx he
                            clear he hs0 hw0 g1 g2 g3 g4 g5 g6 hm hjx q0 q1 q2 u1 u4 HNo hcq hsh
                            go_wp2_with fail
                            go_quiet ((go_at_call 32; exact Calls.quiet_of_same (shopOf_any _ _)))
                            go_wp2_with fail
                            go_roundg (A.hs.length - (j + 1))
                            case measure => omega
                            case rel => exact ⟨j + 1, by omega, rfl, by simp, (hV6.next (bdrewN (Below.refl _ _) _)).congr HX.out, hS6.next (bdrewN (Below.refl _ _) _)⟩
                        · have hjj : j = A.hs.length := by omega
                          subst hjj
                          go_wp2_with fail
                          go_meet
                          case rel => exact ⟨by rw [HE.out, HR.out]; exact (hL5.less (fun b e => .inl e)).keep hS6 (fun b e => ⟨e, by subst e; exact hle⟩), by rw [HE.out, HR.out]; exact hV6.congr (valK_all A deal)⟩
                · have e0' : (what == 0) = false := by simpa using e0
                  have e1' : (what == 1) = false := by simpa using e1
                  have HE : Hid (stepR A ⟨what, deal, c, d, done⟩ = (0, A)) := stepR_none e0 e1
                  clear e0 e1
                  go_wp2_with fail
                  go_meet
                  case rel => exact ⟨by rw [HE.out]; exact hL3.less (fun b e => .inl e), by rw [HE.out]; exact hV3⟩
            case rest =>
              obtain ⟨hL9, hV9⟩ := hcut
              clear hL3 hV3 hX3 hA3 y0 y1 y2 y3 y4
              have HG9 : Hid (Good (stepR A x).2) := good_step HG.out x
              have HL9 : Hid ((stepR A x).2.hs.length ≤ k + 1) := by have := (step_len A x).1; have := HL.out; show _ ≤ _; omega
              have hl9 : (stepR A x).2.hs.length < 2 ^ 40 := by have := HL9.out; have := HB.out; omega
              have HN9 : Hid ((stepR A x).2.no = no) := (step_len A x).2.2.trans HN.out
              generalize (stepR A x).2 = A9 at *
              go_wp2_with fail
              refine (counts_live hL9).mono ?_
              rintro e w4 ⟨rfl, hL4, hb4⟩
              have hV4 := hV9.next hb4
              clear hL9 hV9 hb4
              go_wp2_with fail
              refine (holds_live hL4 hl9).mono ?_
              rintro e w5 ⟨⟨gb, capb, rfl, hA5, hfx⟩, hL5, hb5⟩
              clear hfx
              have hV5 := hV4.next hb5
              clear hL4 hV4 hb5
              unfold cntV
              go_upto_region 32 with fail
              have hC6 := box_new6 w5 (cnt6 A9) 61
              have hb6 : Below w5.heap.size w5 (w5.alloc (.cells #[.int .i64 (cnt6 A9 0), .int .i64 (cnt6 A9 1), .int .i64 (cnt6 A9 2), .int .i64 (cnt6 A9 3), .int .i64 (cnt6 A9 4), .int .i64 (cnt6 A9 5)] 61)) := (Below.refl _ _).alloc (Nat.le_refl _) _
              have hL6 := hL5.next hb6
              have hV6 := hV5.next hb6
              have hA6 := hA5.below hb6 (Nat.le_refl _)
              generalize (w5.alloc (.cells #[.int .i64 (cnt6 A9 0), .int .i64 (cnt6 A9 1), .int .i64 (cnt6 A9 2), .int .i64 (cnt6 A9 3), .int .i64 (cnt6 A9 4), .int .i64 (cnt6 A9 5)] 61)) = W6 at hC6 hb6 hL6 hV6 hA6 ⊢
              generalize w5.heap.size = bc at hC6 ⊢
              have HZ : Hid (∀ m, m < 2 → W6.cell? ⟨bc, m * 3, none⟩ = some (.int .i64 (A9.val m)) ∧ W6.cell? ⟨bc, m * 3 + 1, none⟩ = some (.int .i64 (A9.out m)) ∧ W6.cell? ⟨bc, m * 3 + 2, none⟩ = some (.int .i64 (A9.inn m))) := by
                intro m hm
                obtain ⟨e0, e1, e2⟩ := cnt6_at A9 m hm
                rw [← e0, ← e1, ← e2]
                have : m = 0 ∨ m = 1 := by omega
                rcases this with rfl | rfl
                · exact ⟨hC6.2 0 _ rfl, hC6.2 1 _ rfl, hC6.2 2 _ rfl⟩
                · exact ⟨hC6.2 3 _ rfl, hC6.2 4 _ rfl, hC6.2 5 _ rfl⟩
              have hcl := hC6.1
              clear hL5 hV5 hA5 hb6 hC6
              have hn9 : (A9.hs.length : Int) < 200 := by have := HL9.out; have := HB.out; omega
              clear hl9 hl40
              go_wp2_with fail
              go_loopg [18] 2 (fun g s18 wy => ∃ m : Nat, m ≤ 2 ∧ g = 2 - m ∧ s18 = .int .i64 m ∧ Below W6.heap.size W6 wy)
              case atStart => exact ⟨0, Nat.zero_le _, rfl, rfl, Below.refl _ _⟩
              case round =>
                obtain ⟨m, hm, rfl, rfl, hb7⟩ := hrel
                by_cases hm2 : m < 2
                · have m0 : (0 : Int) ≤ (m : Int) := by omega
                  have m1 : (m : Int) < 2 := by omega
                  go_upto_block 9 with fail
                  go_cut [19, 20, 21] (fun s19 s20 _ wz => s19 = .int .i64 (A9.out m) ∧ s20 = .int .i64 (A9.inn m) ∧ Below W6.heap.size W6 wz)
                  case first =>
                    go_wp2_with fail
                    go_loopg [19, 20, 21] A9.hs.length (fun g s19 s20 s21 wz => ∃ j : Nat, j ≤ A9.hs.length ∧ g = A9.hs.length - j ∧ s19 = .int .i64 (outs (A9.hs.take j) (no * 2 + m)) ∧ s20 = .int .i64 (inns (A9.hs.take j) (no * 2 + m)) ∧ s21 = .int .i64 j ∧ Below W6.heap.size W6 wz)
                    case atStart => exact ⟨0, Nat.zero_le _, rfl, rfl, rfl, rfl, hb7⟩
                    case round =>
                      obtain ⟨j, hj, rfl, rfl, rfl, rfl, hb8⟩ := hrel
                      clear hb7
                      have t2 := (chk_ok (HG9.out.cnt m hm2))
                      have HNo := HN9.out
                      by_cases hjl : j < A9.hs.length
                      · obtain ⟨⟨a, c2, d2⟩, hjx⟩ : ∃ x, A9.hs[j]? = some x := ⟨_, List.getElem?_eq_getElem hjl⟩
                        obtain ⟨bl2, ol2, rfl, hbl2, q0, q1, q2⟩ := hA6 j a c2 d2 hjx
                        have q1' : wr.cell? ⟨bl2, ol2 + j * 3 + 1, none⟩ = some (.int .i64 c2) := (hb8.cell (p := ⟨bl2, _, none⟩) hbl2).trans q1
                        have q2' : wr.cell? ⟨bl2, ol2 + j * 3 + 2, none⟩ = some (.int .i64 d2) := (hb8.cell (p := ⟨bl2, _, none⟩) hbl2).trans q2
                        have s0 : (0 : Int) ≤ (j : Int) := by omega
                        have s1 : (j : Int) < (A9.hs.length : Int) := by omega
                        have hw0 := (HG9.out.each _ (List.mem_of_getElem? hjx)).2.2.2.1
                        obtain ⟨g1, g2, g6⟩ := wnt_ok hw0
                        obtain ⟨d9, d3, d4⟩ := dlt_ok g6
                        simp only at d3 d4
                        have t5 := outs_take_le A9.hs j (no * 2 + m)
                        have t6 := inns_take_le A9.hs j (no * 2 + m)
                        have t7 := outs_nonneg (A9.hs.take j) (no * 2 + m)
                        have t8 := inns_nonneg (A9.hs.take j) (no * 2 + m)
                        unfold Bk.out Bk.inn at t2
                        rw [HNo] at t2
                        have t9 : outs (A9.hs.take j) (no * 2 + m) ≤ 100 := by omega
                        have t10 : inns (A9.hs.take j) (no * 2 + m) ≤ 100 := by omega
                        have e1 := outs_snoc hjx (no * 2 + m)
                        have e2 := inns_snoc hjx (no * 2 + m)
                        clear t2 t5 t6 hw0 g1 g2 g6 q0 q1 q2 d9 HNo hm hm2 hA6
                        have HJ : Hid (j < A9.hs.length) := hjl
                        clear hlt hk hj hjl
                        by_cases he : c2 = no * 2 + (m : Int)
                        · have he' : (c2 == no * 2 + (m : Int)) = true := by simpa using he
                          by_cases hd : d2 < 0
                          · have E1 : Hid (outs (A9.hs.take (j + 1)) (no * 2 + m) = outs (A9.hs.take j) (no * 2 + m) - d2) := by show _ = _; rw [e1]; simp only [outOf, if_pos he, if_pos hd]; omega
                            have E2 : Hid (inns (A9.hs.take (j + 1)) (no * 2 + m) = inns (A9.hs.take j) (no * 2 + m)) := by show _ = _; rw [e2]; simp only [innOf, if_pos he, if_pos hd]; omega
                            clear he e1 e2 hjx
                            generalize outs (A9.hs.take j) (no * 2 + m) = oo at *
                            generalize inns (A9.hs.take j) (no * 2 + m) = ii at *
                            go_wp2_with fail
                            go_roundg (A9.hs.length - (j + 1))
                            case measure => have := HJ.out; omega
                            case rel => exact ⟨j + 1, HJ.out, rfl, by rw [E1.out], by rw [E2.out], by simp, hb8⟩
                          · have E1 : Hid (outs (A9.hs.take (j + 1)) (no * 2 + m) = outs (A9.hs.take j) (no * 2 + m)) := by show _ = _; rw [e1]; simp only [outOf, if_pos he, if_neg hd]; omega
                            have E2 : Hid (inns (A9.hs.take (j + 1)) (no * 2 + m) = inns (A9.hs.take j) (no * 2 + m) + d2) := by show _ = _; rw [e2]; simp only [innOf, if_pos he, if_neg hd]
                            have hd' : decide (d2 < 0) = false := decide_eq_false hd
                            clear he e1 e2 hjx hd
                            generalize outs (A9.hs.take j) (no * 2 + m) = oo at *
                            generalize inns (A9.hs.take j) (no * 2 + m) = ii at *
                            go_wp2_with fail
                            go_roundg (A9.hs.length - (j + 1))
                            case measure => have := HJ.out; omega
                            case rel => exact ⟨j + 1, HJ.out, rfl, by rw [E1.out], by rw [E2.out], by simp, hb8⟩
                        · have he' : (c2 == no * 2 + (m : Int)) = false := by simpa using he
                          have E1 : Hid (outs (A9.hs.take (j + 1)) (no * 2 + m) = outs (A9.hs.take j) (no * 2 + m)) := by show _ = _; rw [e1]; simp only [outOf, if_neg he]; omega
                          have E2 : Hid (inns (A9.hs.take (j + 1)) (no * 2 + m) = inns (A9.hs.take j) (no * 2 + m)) := by show _ = _; rw [e2]; simp only [innOf, if_neg he]; omega
                          clear he e1 e2 hjx
                          generalize outs (A9.hs.take j) (no * 2 + m) = oo at *
                          generalize inns (A9.hs.take j) (no * 2 + m) = ii at *
                          clear t7 t8 t9 t10 d3 d4
                          go_wp2_with fail
                          go_roundg (A9.hs.length - (j + 1))
                          case measure => have := HJ.out; omega
                          case rel => exact ⟨j + 1, HJ.out, rfl, by rw [E1.out], by rw [E2.out], by simp, hb8⟩
                      · have hjj : j = A9.hs.length := by omega
                        subst hjj
                        have E1 : Hid (outs (A9.hs.take A9.hs.length) (no * 2 + m) = A9.out m) := by show _ = _; rw [List.take_of_length_le (Nat.le_refl _)]; unfold Bk.out; rw [HNo]
                        have E2 : Hid (inns (A9.hs.take A9.hs.length) (no * 2 + m) = A9.inn m) := by show _ = _; rw [List.take_of_length_le (Nat.le_refl _)]; unfold Bk.inn; rw [HNo]
                        clear hjl hj t2 HNo
                        go_wp2_with fail
                        go_meet
                        case rel => exact ⟨by rw [E1.out], by rw [E2.out], hb8⟩
                  case rest =>
                    obtain ⟨rfl, rfl, hb8⟩ := hcut
                    obtain ⟨z0, z1, z2⟩ := HZ.out m hm2
                    have hvl := hV6.lt
                    have v0 := hV6.cell m hm2
                    have HCh : Hid (chk (A9.val m) (A9.out m) (A9.inn m) = 0) := HG9.out.cnt m hm2
                    have HK : Hid (∀ w', Below W6.heap.size W6 w' → w'.cell? ⟨bc, m * 3, none⟩ = some (.int .i64 (A9.val m)) ∧ w'.cell? ⟨bc, m * 3 + 1, none⟩ = some (.int .i64 (A9.out m)) ∧ w'.cell? ⟨bc, m * 3 + 2, none⟩ = some (.int .i64 (A9.inn m)) ∧ w'.cell? ⟨vb, m, none⟩ = some (.int .i64 (A9.val m)) ∧ Below W6.heap.size W6 w') := fun w' hb => ⟨((bcell hb).1 _ _ hcl).trans z0, ((bcell hb).1 _ _ hcl).trans z1, ((bcell hb).1 _ _ hcl).trans z2, ((bcell hb).1 _ _ hvl).trans v0, hb⟩
                    have HM2 : Hid (m < 2) := hm2
                    have HKL : Hid (k < ll) := hlt
                    clear z0 z1 z2 v0 hm hb7 hn9 hlt hk hm2
                    generalize A9.val m = vv at *
                    generalize A9.out m = oo at *
                    generalize A9.inn m = ii at *
                    go_upto_region 43 with fail
                    refine region_class (C := (fun w' => w'.cell? ⟨bc, m * 3, none⟩ = some (.int .i64 vv) ∧ w'.cell? ⟨bc, m * 3 + 1, none⟩ = some (.int .i64 oo) ∧ w'.cell? ⟨bc, m * 3 + 2, none⟩ = some (.int .i64 ii) ∧ w'.cell? ⟨vb, m, none⟩ = some (.int .i64 vv) ∧ Below W6.heap.size W6 w')) (by kernel_rfl) (by kernel_rfl) (HK.out _ (hb8.drew)) ?_
                    repeat (first
                      | go_big_quiet_skip
                      | (go_big_quiet_want
                         refine q_val (v := ?_) (fun w' hS => ?_) ?_
                         rotate_left
                         focus
                           go_simp
                           all_goals (with_reducible rfl)
                         go_big_quiet_on
                         (try simp only [Act.put, List.setIfInBounds_toArray, List.set_cons_zero, List.set_cons_succ]))
                      | (go_big_quiet_want
                         refine q_call (v := ?_) (f := ?_) (args := ?_) (fun w' hS => ?_) (fun w' hS => ?_) ?_
                         rotate_left 3
                         focus
                           go_simp
                           constructor <;> with_reducible rfl
                         focus
                           go_at_call 20
                           refine Calls.mono (check_any _ _ _ _) ?_
                           rw [HCh.out]
                           rintro e w7 ⟨rfl, hb7⟩
                           refine ⟨?_, HK.out _ (after hS.2.2.2.2 hb7 hS.2.2.2.2.size)⟩
                           with_reducible rfl
                         go_big_quiet_on
                         (try simp only [Act.put, List.setIfInBounds_toArray, List.set_cons_zero, List.set_cons_succ])))
                    refine wpQuiet_nil ?_
                    intro w8 hC8
                    have hb9 := hC8.2.2.2.2
                    clear hC8
                    go_wp2_with fail
                    go_roundg (2 - (m + 1))
                    case measure => have := HM2.out; omega
                    case rel => exact ⟨m + 1, HM2.out, rfl, by simp, hb9⟩
                · have hmm : m = 2 := by omega
                  subst hmm
                  clear hm hm2
                  go_wp2_with fail
                  go_roundg (ll - (k + 1))
                  case measure => omega
                  case rel => exact ⟨k + 1, A9, by omega, rfl, by simp, hL6.next hb7, hV6.next hb7, HG9, HL9, HN9⟩
          · go_wp2_with fail
            go_ret
            exact ⟨rfl, hL1.below⟩
    · rw [if_neg hok] at hN
      subst hN
      go_wp2_with fail
      go_ret
      exact ⟨rfl, hb4⟩

end Go.Proofs.Ytbgnajcmhmpjlaa
