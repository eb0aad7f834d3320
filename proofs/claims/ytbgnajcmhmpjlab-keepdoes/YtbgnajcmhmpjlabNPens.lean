/- The contracts of the booth's Do, of Replayed, of NewPen and of a pen's Do; how a pen lies in memory. -/
import Derived.Test.YtbgnajcmhmpjlabBEnd
import Derived.Test.YtbgnajcmhmpjlabBNew
import Derived.Test.YtbgnajcmhmpjlabKAsk
namespace Go.Proofs.Ytbgnajcmhmpjlab
open Go.RowKit


set_option maxHeartbeats 1000000 in
theorem brf_any (r : Stp) (w : World) : Calls Try.prog 86 #[.agg #[.int .i64 r.what, .int .i64 r.deal, .int .i64 r.c, .int .i64 r.d, .bool r.done]] w fun e w' => e = .returned (.int .i64 (rchk r)) ∧ Below w.heap.size w w' := by
  obtain ⟨what, deal, c, d, done⟩ := r
  unfold rchk
  dsimp only
  by_cases h1 : what = 1
  · subst h1
    rw [if_pos rfl]
    cases done
    · go_enter Try.func86, Try.ntmps86
      go_wp2_with fail
      go_ret
      exact ⟨rfl, by go_grown⟩
    · go_enter Try.func86, Try.ntmps86
      go_wp2_with fail
      go_ret
      exact ⟨rfl, by go_grown⟩
  · rw [if_neg h1]
    have h1' : (what == 1) = false := by simpa using h1
    by_cases h2 : what = 2
    · subst h2
      clear h1 h1'
      rw [if_pos rfl]
      by_cases hc : c = 0
      · by_cases hd : d = 0
        · rw [if_pos ⟨hc, hd⟩]
          subst hc
          subst hd
          go_enter Try.func86, Try.ntmps86
          go_wp2_with fail
          go_ret
          exact ⟨rfl, by go_grown⟩
        · rw [if_neg (fun q => hd q.2)]
          subst hc
          have hd' : (d != 0) = true := by simpa using hd
          clear hd
          go_enter Try.func86, Try.ntmps86
          go_wp2_with fail
          go_ret
          exact ⟨rfl, by go_grown⟩
      · rw [if_neg (fun q => hc q.1)]
        have hc' : (c != 0) = true := by simpa using hc
        clear hc
        go_enter Try.func86, Try.ntmps86
        go_wp2_with fail
        go_ret
        exact ⟨rfl, by go_grown⟩
    · rw [if_neg h2]
      have h2' : (what == 2) = false := by simpa using h2
      clear h1 h2
      go_enter Try.func86, Try.ntmps86
      go_wp2_with fail
      go_ret
      exact ⟨rfl, by go_grown⟩

set_option maxHeartbeats 2000000 in
theorem bdo_any (O : Nat → Prop) (A : Bk) (q : Nat) (r : Stp) (w : World) (h : BoothIn O w q A) (hG : Good A) (hl : A.hs.length < 1000000) (he : A.es.length < 1000000) :
    Calls Try.prog 64 #[.pointer (some ⟨q, 0, none⟩), .agg #[.int .i64 r.what, .int .i64 r.deal, .int .i64 r.c, .int .i64 r.d, .bool r.done]] w fun e w' => e = .returned (.int .i64 (tellR A r).1) ∧ ∃ O', BoothIn O' w' q (tellR A r).2 ∧ Save O w w' ∧ Moved O O' w := by
  have HI : Hid (BoothIn O w q A) := h
  have HG : Hid (Good A) := hG
  have HL : Hid (A.hs.length < 1000000 ∧ A.es.length < 1000000) := ⟨hl, he⟩
  clear h hG hl he
  by_cases hc : rchk r = 0
  · have HZ : Hid (rchk r = 0) := hc
    by_cases h1 : r.what = 1
    · have HH : Hid (∀ W : World, Below w.heap.size w W → Calls Try.prog 87 #[.pointer (some ⟨q, 0, none⟩), .int .i64 r.deal, .agg #[.int .i64 r.c, .int .i64 r.d]] W fun e w' => e = .returned (.int .i64 (tellR A r).1) ∧ ∃ O', BoothIn O' w' q (tellR A r).2 ∧ Save O w w' ∧ Moved O O' w) := by
        intro W hW
        rw [tellR_hold hc h1]
        refine (bhold_any O A q r.deal r.c r.d W (HI.out.next hW) HG.out (by have := HL.out; omega) (by have := HL.out; omega)).mono ?_
        rintro e w' ⟨a1, O', a2, a3, a4⟩
        exact ⟨a1, O', a2, (Save.of_below hW).trans a3 (fun _ _ h => h), fun k hk => (a4 k hk).imp id (fun q => Nat.le_trans hW.size q)⟩
      have h1' : (r.what == 1) = true := by simpa using h1
      clear hc h1
      go_enter Try.func64, Try.ntmps64
      go_wp2_with fail
      refine Calls.mono (brf_any r _) ?_
      rw [HZ.out]
      rintro e w1 ⟨rfl, hb1⟩
      have hX := (BoxAt.new w [.int .i64 r.what, .int .i64 r.deal, .int .i64 r.c, .int .i64 r.d, .bool r.done] 51).next hb1
      have hW1 : Below w.heap.size w w1 := after (by go_grown) hb1 (by simp)
      have y0 := hX.2 0 _ rfl
      have y1 := hX.2 1 _ rfl
      have y2 := hX.2 2 _ rfl
      have y3 := hX.2 3 _ rfl
      clear hX hb1
      go_wp2_with fail
      refine Calls.mono (HH.out _ hW1) ?_
      rintro e w2 ⟨rfl, hE⟩
      go_wp2_with fail
      go_ret
      exact ⟨rfl, hE⟩
    · have HH : Hid (∀ W : World, Below w.heap.size w W → Calls Try.prog 88 #[.pointer (some ⟨q, 0, none⟩), .int .i64 r.deal, .bool r.done] W fun e w' => e = .returned (.int .i64 (tellR A r).1) ∧ ∃ O', BoothIn O' w' q (tellR A r).2 ∧ Save O w w' ∧ Moved O O' w) := by
        intro W hW
        rw [tellR_end hc h1]
        refine (bend_any O A q r.deal r.done W (HI.out.next hW) HG.out HL.out.1 HL.out.2).mono ?_
        rintro e w' ⟨a1, O', a2, a3, a4⟩
        exact ⟨a1, O', a2, (Save.of_below hW).trans a3 (fun _ _ h => h), fun k hk => (a4 k hk).imp id (fun q => Nat.le_trans hW.size q)⟩
      have h1' : (r.what == 1) = false := by simpa using h1
      clear hc h1
      go_enter Try.func64, Try.ntmps64
      go_wp2_with fail
      refine Calls.mono (brf_any r _) ?_
      rw [HZ.out]
      rintro e w1 ⟨rfl, hb1⟩
      have hX := (BoxAt.new w [.int .i64 r.what, .int .i64 r.deal, .int .i64 r.c, .int .i64 r.d, .bool r.done] 51).next hb1
      have hW1 : Below w.heap.size w w1 := after (by go_grown) hb1 (by simp)
      have y0 := hX.2 0 _ rfl
      have y1 := hX.2 1 _ rfl
      have y4 := hX.2 4 _ rfl
      clear hX hb1
      go_wp2_with fail
      refine Calls.mono (HH.out _ hW1) ?_
      rintro e w2 ⟨rfl, hE⟩
      go_wp2_with fail
      go_ret
      exact ⟨rfl, hE⟩
  · have hc' : (rchk r != 0) = true := by simpa using hc
    have HE : Hid (tellR A r = (rchk r, A)) := tellR_bad hc
    clear hc
    go_enter Try.func64, Try.ntmps64
    go_wp2_with fail
    refine Calls.mono (brf_any r _) ?_
    rintro e w1 ⟨rfl, hb1⟩
    have hW1 : Below w.heap.size w w1 := after (by go_grown) hb1 (by simp)
    go_wp2_with fail
    go_ret
    rw [HE.out]
    exact ⟨rfl, O, HI.out.next hW1, .of_below hW1, .refl _ _⟩

set_option maxHeartbeats 1000000 in
theorem fcode_any (a b : Int) (w : World) : Calls Try.prog 63 #[.int .i64 a, .int .i64 b] w fun e w' => e = .returned (.agg #[.int .i64 a, .int .i64 b]) ∧ Below w.heap.size w w' := by
  go_enter Try.func63, Try.ntmps63
  go_wp2_with fail
  exact bodyPost_ret (v := .agg #[.int .i64 a, .int .i64 b]) (by simp [results, Try.results63, go_sem]) rfl ⟨rfl, by go_grown⟩

/-- A booth of one's own. -/
structure BLive (w0 : World) (Z : Nat → Prop) (w : World) (q : Nat) (A : Bk) : Prop where
  inn : ∃ O, BoothIn O w q A ∧ ∀ k, O k → w0.heap.size ≤ k ∧ ¬ Z k
  below : Below w0.heap.size w0 w
  kept : ∀ k, Z k → k < w.heap.size
theorem BLive.next {w0 w w1 : World} {Z : Nat → Prop} {q : Nat} {A : Bk} (h : BLive w0 Z w q A) (hb : Below w.heap.size w w1) : BLive w0 Z w1 q A := by
  obtain ⟨O, h1, h2⟩ := h.inn
  exact ⟨⟨O, h1.next hb, h2⟩, after h.below hb h.below.size, fun k hk => Nat.lt_of_lt_of_le (h.kept k hk) hb.size⟩
theorem bdo_live {w0 w : World} {Z : Nat → Prop} {q : Nat} {A : Bk} (r : Stp) (h : BLive w0 Z w q A) (hG : Good A) (hl : A.hs.length < 1000000) (he : A.es.length < 1000000) : Calls Try.prog 64 #[.pointer (some ⟨q, 0, none⟩), .agg #[.int .i64 r.what, .int .i64 r.deal, .int .i64 r.c, .int .i64 r.d, .bool r.done]] w fun e w' => e = .returned (.int .i64 (tellR A r).1) ∧ BLive w0 Z w' q (tellR A r).2 ∧ Save (fun k => ¬ Z k) w w' := by
  obtain ⟨O, h1, h2⟩ := h.inn
  refine (bdo_any O A q r w h1 hG hl he).mono ?_
  rintro e w' ⟨a0, O', a1, a2, a3⟩
  exact ⟨a0, ⟨⟨O', a1, fun k hk => (a3 k hk).elim (h2 k) (fun q => ⟨Nat.le_trans h.below.size q, fun hk' => by have := h.kept k hk'; omega⟩)⟩, h.below.trans (a2.below (fun k hk hO => by have := (h2 k hO).1; omega) h.below.size), fun k hk => Nat.lt_of_lt_of_le (h.kept k hk) a2.size⟩, a2.mono (fun k _ hk => (h2 k hk).2)⟩

/-- What Replayed answers. -/
def BRepIs (no : Int) (ws : Nat → Int) (l : List Stp) (w : World) (e : Ending) (w' : World) : Prop :=
  if newOk no ws = true then (if (faultR (book0 no ws) l 0).1 = 0 then ∃ p O, e = .returned (.tuple #[.pointer (some ⟨p, 0, none⟩), .agg #[.int .i64 0, .int .i64 0]]) ∧ BoothIn O w' p (runR (book0 no ws) l) ∧ ∀ k, O k → w.heap.size ≤ k
    else e = .returned (.tuple #[.pointer none, .agg #[.int .i64 (faultR (book0 no ws) l 0).1, .int .i64 (faultR (book0 no ws) l 0).2]])) else e = .returned (.tuple #[.pointer none, .agg #[.int .i64 1, .int .i64 (-1)]])
theorem brepIs_nil {no : Int} {ws : Nat → Int} {l : List Stp} {w w' : World} {e : Ending} (h : newOk no ws = false) (he : e = .returned (.tuple #[.pointer none, .agg #[.int .i64 1, .int .i64 (-1)]])) : BRepIs no ws l w e w' := by
  unfold BRepIs; rw [if_neg (by rw [h]; simp)]; exact he
theorem brepIs_code {no : Int} {ws : Nat → Int} {l : List Stp} {w w' : World} {e : Ending} {c i : Int} (h : newOk no ws = true) (hf : faultR (book0 no ws) l 0 = (c, i)) (hc : c ≠ 0) (he : e = .returned (.tuple #[.pointer none, .agg #[.int .i64 c, .int .i64 i]])) : BRepIs no ws l w e w' := by
  unfold BRepIs; rw [if_pos h, hf, if_neg hc]; exact he
theorem brepIs_all {no : Int} {ws : Nat → Int} {l : List Stp} {w w' : World} {e : Ending} {i : Int} (h : newOk no ws = true) (hf : faultR (book0 no ws) l 0 = (0, i)) (he : ∃ p O, e = .returned (.tuple #[.pointer (some ⟨p, 0, none⟩), .agg #[.int .i64 0, .int .i64 0]]) ∧ BoothIn O w' p (runR (book0 no ws) l) ∧ ∀ k, O k → w.heap.size ≤ k) : BRepIs no ws l w e w' := by
  unfold BRepIs; rw [if_pos h, hf, if_pos rfl]; exact he

set_option maxHeartbeats 4000000 in
set_option maxRecDepth 100000 in
theorem brep_any (no : Int) (ws : Nat → Int) (la : Option Addr) (n ca : Nat) (l : List Stp) (w : World) (hl : StepsAt w la l) (hn : l.length = n) (hs : n ≤ 150) :
    Calls Try.prog 17 #[.int .i64 no, .agg #[.int .i64 (ws 0), .int .i64 (ws 1), .int .i64 (ws 2), .int .i64 (ws 3), .int .i64 (ws 4), .int .i64 (ws 5)], .slice la n ca] w fun e w' => BRepIs no ws l w e w' ∧ Below w.heap.size w w' := by
  go_enter Try.func17, Try.ntmps17
  go_upto_region 1 with fail
  have hX := (box_new6 w ws 23).next ((Below.refl _ _).alloc (Nat.le_refl _) (.cells #[.int .i64 0, .int .i64 0] 28))
  have hB := Box2.new (w.alloc (.cells #[.int .i64 (ws 0), .int .i64 (ws 1), .int .i64 (ws 2), .int .i64 (ws 3), .int .i64 (ws 4), .int .i64 (ws 5)] 23)) 28 0 0
  have hb : Below w.heap.size w ((w.alloc (.cells #[.int .i64 (ws 0), .int .i64 (ws 1), .int .i64 (ws 2), .int .i64 (ws 3), .int .i64 (ws 4), .int .i64 (ws 5)] 23)).alloc (.cells #[.int .i64 0, .int .i64 0] 28)) := by go_grown
  have hz : (w.alloc (.cells #[.int .i64 (ws 0), .int .i64 (ws 1), .int .i64 (ws 2), .int .i64 (ws 3), .int .i64 (ws 4), .int .i64 (ws 5)] 23)).heap.size = w.heap.size + 1 := by simp
  rw [hz] at hB
  generalize ((w.alloc (.cells #[.int .i64 (ws 0), .int .i64 (ws 1), .int .i64 (ws 2), .int .i64 (ws 3), .int .i64 (ws 4), .int .i64 (ws 5)] 23)).alloc (.cells #[.int .i64 0, .int .i64 0] 28)) = W at hX hB hb ⊢
  clear hz
  have hfb : w.heap.size ≤ w.heap.size + 1 := Nat.le_succ _
  have x0 := hX.2 0 _ rfl
  have x1 := hX.2 1 _ rfl
  have x2 := hX.2 2 _ rfl
  have x3 := hX.2 3 _ rfl
  have x4 := hX.2 4 _ rfl
  have x5 := hX.2 5 _ rfl
  generalize w.heap.size + 1 = fb at hB hfb ⊢
  clear hX
  go_wp2_with fail
  refine (bnew_any no ws _).mono ?_
  rintro e w1 ⟨hN, hb1⟩
  have hB1 := hB.next hb1
  have hw1 : Below w.heap.size w w1 := after hb hb1 hb.size
  have hWs := hb.size
  clear x0 x1 x2 x3 x4 x5
  unfold NewBIs at hN
  by_cases hok : newOk no ws = true
  · rw [if_pos hok] at hN
    obtain ⟨q, O, rfl, hI, hO⟩ := hN
    have hL1 : BLive w (fun b => b = fb) w1 q (book0 no ws) := ⟨⟨O, hI, fun k hk => ⟨Nat.le_trans hWs (hO k hk), fun e => by have := hO k hk; have := hB.lt; omega⟩⟩, hw1, fun k e => by rw [e]; exact hB1.lt⟩
    have HG1 : Hid (Good (book0 no ws)) := good_new hok
    have HOk : Hid (newOk no ws = true) := hok
    have HT : Hid (StepsAt w la l) := hl
    clear hI hO hB hb hb1 hw1 hWs hok hl
    go_wp2_with fail
    go_loopg [9, 10] n (fun g s9 _ wr => ∃ (k : Nat) (A : Bk), k ≤ n ∧ g = n - k ∧ s9 = .int .i64 k ∧ BLive w (fun b => b = fb) wr q A ∧ Box2 wr fb 0 0 ∧ Hid (Good A) ∧ Hid (A.hs.length ≤ k ∧ A.es.length ≤ k) ∧ Hid (faultR (book0 no ws) l 0 = faultR A (l.drop k) k ∧ runR (book0 no ws) l = runR A (l.drop k)))
    case atStart => exact ⟨0, _, Nat.zero_le _, rfl, rfl, hL1, hB1, HG1, ⟨Nat.le_refl _, Nat.le_refl _⟩, ⟨rfl, rfl⟩⟩
    case round =>
      obtain ⟨k, A, hk, rfl, rfl, hL, hB2, HG, HLn, HF⟩ := hrel
      clear hL1 hB1
      by_cases hlt : k < n
      · obtain ⟨x, hkx⟩ : ∃ x, l[k]? = some x := ⟨_, List.getElem?_eq_getElem (by omega)⟩
        obtain ⟨bl, ol, rfl, hbl, hcell⟩ := HT.out k x hkx
        have hcell' : ∀ j v, x.cells[j]? = some v → wr.cell? ⟨bl, ol + k * 5 + j, none⟩ = some v := fun j v hj => (hL.below.cell (p := ⟨bl, _, none⟩) hbl).trans (hcell j v hj)
        have p0 : wr.cell? ⟨bl, ol + k * 5, none⟩ = some (.int .i64 x.what) := hcell' 0 _ rfl
        have p1 : wr.cell? ⟨bl, ol + k * 5 + 1, none⟩ = some (.int .i64 x.deal) := hcell' 1 _ rfl
        have p2 : wr.cell? ⟨bl, ol + k * 5 + 2, none⟩ = some (.int .i64 x.c) := hcell' 2 _ rfl
        have p3 : wr.cell? ⟨bl, ol + k * 5 + 3, none⟩ = some (.int .i64 x.d) := hcell' 3 _ rfl
        have p4 : wr.cell? ⟨bl, ol + k * 5 + 4, none⟩ = some (.bool x.done) := hcell' 4 _ rfl
        have j0 : (0 : Int) ≤ (k : Int) := by omega
        have j1 : (k : Int) < (n : Int) := by omega
        have j2 : (n : Int) ≤ 150 := by omega
        have HD : Hid (l.drop k = x :: l.drop (k + 1)) := drop_cons hkx
        have HS : Hid (n ≤ 150) := hs
        have HKN : Hid (k < n) := hlt
        clear hcell hcell' hbl hkx hs hlt hk
        have HL40 : Hid (A.hs.length < 1000000 ∧ A.es.length < 1000000) := by
          have := HLn.out
          have := HS.out
          have := HKN.out
          exact ⟨by omega, by omega⟩
        go_wp2_with fail
        refine Calls.mono (bdo_live x hL HG.out HL40.out.1 HL40.out.2) ?_
        rintro e w3 ⟨rfl, hL3, hS3⟩
        have hB4 := hB2.save hS3 (fun q => q rfl)
        clear hL hB2 p0 p1 p2 p3 p4 hS3
        by_cases hz : (tellR A x).1 = 0
        · have hz' : ((tellR A x).1 != 0) = false := by simp [hz]
          have HG2 : Hid (Good (tellR A x).2) := good_tell HG.out x
          have HL2 : Hid ((tellR A x).2.hs.length ≤ k + 1 ∧ (tellR A x).2.es.length ≤ k + 1) := by have := tell_len A x; have := HLn.out; exact ⟨by omega, by omega⟩
          have HF2 : Hid (faultR (book0 no ws) l 0 = faultR (tellR A x).2 (l.drop (k + 1)) (k + 1) ∧ runR (book0 no ws) l = runR (tellR A x).2 (l.drop (k + 1))) := by
            obtain ⟨a1, a2⟩ := HF.out
            rw [HD.out] at a1 a2
            refine ⟨a1.trans ?_, a2⟩
            show (if (tellR A x).1 = 0 then _ else _) = _
            rw [if_pos hz]
          clear hz
          generalize tellR A x = r at *
          go_wp2_with fail
          go_roundg (n - (k + 1))
          case measure => have := HKN.out; omega
          case rel => exact ⟨k + 1, r.2, HKN.out, rfl, by simp, hL3, hB4, HG2, HL2, HF2⟩
        · have hz' : ((tellR A x).1 != 0) = true := by simpa using hz
          have HF2 : Hid (faultR (book0 no ws) l 0 = ((tellR A x).1, (k : Int)) ∧ (tellR A x).1 ≠ 0) := by
            obtain ⟨a1, a2⟩ := HF.out
            rw [HD.out] at a1
            refine ⟨a1.trans ?_, hz⟩
            show (if (tellR A x).1 = 0 then _ else _) = _
            rw [if_neg hz]
          clear hz
          generalize tellR A x = r at *
          have hb9 := hL3.below
          clear hL3
          go_wp2_with fail
          refine Calls.mono (fcode_any r.1 (k : Int) _) ?_
          rintro e w5 ⟨rfl, hb5⟩
          have hB5 := hB4.next hb5
          have hb10 : Below w.heap.size w w5 := after hb9 hb5 hb9.size
          have f0 := hB5.c0
          have f1 := hB5.c1
          have fl := hB5.loose
          have fz := hB5.lt
          clear hB4 hB5 hb9 hb5
          go_wp2_with fail
          exact bodyPost_ret (v := .tuple #[.pointer none, .agg #[.int .i64 r.1, .int .i64 (k : Int)]]) (by simp [results, Try.results17, go_sem, f0, f1]) rfl ⟨brepIs_code HOk.out HF2.out.1 HF2.out.2 rfl, (hb10.setCell (p := ⟨fb, 0, none⟩) hfb _).setCell (p := ⟨fb, 1, none⟩) hfb _⟩
      · have hkk : k = n := by omega
        subst hkk
        have HF2 : Hid (faultR (book0 no ws) l 0 = (0, 0) ∧ runR (book0 no ws) l = A) := by
          obtain ⟨a1, a2⟩ := HF.out
          rw [List.drop_of_length_le (by omega)] at a1 a2
          exact ⟨a1, a2⟩
        have f0 := hB2.c0
        have f1 := hB2.c1
        have fl := hB2.loose
        have fz := hB2.lt
        have HSh : Hid (∀ u v : Value, ∃ O, BoothIn O ((wr.setCell ⟨fb, 0, none⟩ u).setCell ⟨fb, 1, none⟩ v) q A ∧ ∀ k, O k → w.heap.size ≤ k) := by
          intro u v
          obtain ⟨O, h1, h2⟩ := hL.inn
          exact ⟨O, h1.save (O' := fun b => b = fb) (Save.setCell (O := fun b => b = fb) (Save.setCell (O := fun b => b = fb) (Save.refl _ _) (p := ⟨fb, 0, none⟩) (fun _ => rfl) _) (p := ⟨fb, 1, none⟩) (fun _ => rfl) _) (fun k hk e => (h2 k hk).2 e), fun k hk => (h2 k hk).1⟩
        have hb9 := hL.below
        clear hL hB2
        go_wp2_with fail
        refine bodyPost_ret (v := .tuple #[.pointer (some ⟨q, 0, none⟩), .agg #[.int .i64 0, .int .i64 0]]) (by simp [results, Try.results17, go_sem, f0, f1]) rfl ⟨brepIs_all HOk.out HF2.out.1 ?_, (hb9.setCell (p := ⟨fb, 0, none⟩) hfb _).setCell (p := ⟨fb, 1, none⟩) hfb _⟩
        obtain ⟨O, h1, h2⟩ := HSh.out (.int .i64 0) (.int .i64 0)
        exact ⟨q, O, rfl, by rw [HF2.out.2]; exact h1, h2⟩
  · rw [if_neg hok] at hN
    subst hN
    have HOk : Hid (newOk no ws = false) := by show _ = _; simpa using hok
    clear hok hB
    go_wp2_with fail
    refine Calls.mono (fcode_any 1 (-1) _) ?_
    rintro e w5 ⟨rfl, hb5⟩
    have hB5 := hB1.next hb5
    have hb10 : Below w.heap.size w w5 := after hw1 hb5 hw1.size
    have f0 := hB5.c0
    have f1 := hB5.c1
    have fl := hB5.loose
    have fz := hB5.lt
    clear hB1 hB5 hb5
    go_wp2_with fail
    exact bodyPost_ret (v := .tuple #[.pointer none, .agg #[.int .i64 1, .int .i64 (-1)]]) (by simp [results, Try.results17, go_sem, f0, f1]) rfl ⟨brepIs_nil HOk.out rfl, (hb10.setCell (p := ⟨fb, 0, none⟩) hfb _).setCell (p := ⟨fb, 1, none⟩) hfb _⟩


/-- A pen's own block: where its booth is, the head of its records. -/
structure PenRaw (w : World) (s q : Nat) (rv : Value) : Prop where
  lt : s < w.heap.size
  c0 : w.cell? ⟨s, 0, none⟩ = some (.pointer (some ⟨q, 0, none⟩))
  c1 : w.cell? ⟨s, 1, none⟩ = some rv
  loose : ∀ k, w.frozen? ⟨s, k, none⟩ = false
theorem PenRaw.save {O : Nat → Prop} {w w1 : World} {s q : Nat} {rv : Value} (h : PenRaw w s q rv) (hb : Save O w w1) (hn : ¬ O s) : PenRaw w1 s q rv := by
  have hl := h.lt
  have e : ∀ o, w1.cell? ⟨s, o, none⟩ = w.cell? ⟨s, o, none⟩ := fun o => hb.cell (p := ⟨s, o, none⟩) hl hn
  exact ⟨Nat.lt_of_lt_of_le hl hb.size, (e _).trans h.c0, (e _).trans h.c1, fun k => (hb.frozen (p := ⟨s, k, none⟩) hl hn).trans (h.loose k)⟩
theorem PenRaw.set1 {w : World} {s q : Nat} {rv : Value} (h : PenRaw w s q rv) (u : Value) : PenRaw (w.setCell ⟨s, 1, none⟩ u) s q u :=
  ⟨by simpa using h.lt, (cell_set_off (by omega)).trans h.c0, cell_set_same h.c1, by simpa [go_sem] using h.loose⟩
/-- A pen whose book is K, in blocks of O. -/
structure PenIn (O : Nat → Prop) (w : World) (s : Nat) (K : Kb) : Prop where
  own : ∀ k, O k → k < w.heap.size
  mine : O s
  raw : ∃ (Os : Nat → Prop) (q : Nat) (rv : Value), PenRaw w s q rv ∧ BoothIn Os w q K.A ∧ (∀ k, Os k → O k) ∧ ¬ Os s ∧ w.ownsRow (s + 1) 51 5 rv K.rs.length (flat5 K.rs) ∧ ∀ k, rv.ownBlock = some k → O k ∧ ¬ Os k
theorem PenIn.save {O O' : Nat → Prop} {w w1 : World} {s : Nat} {K : Kb} (h : PenIn O w s K) (hb : Save O' w w1) (hn : ∀ k, O k → ¬ O' k) : PenIn O w1 s K := by
  obtain ⟨Os, q, rv, h1, h2, h3, h4, h5, h6⟩ := h.raw
  exact ⟨fun k hk => Nat.lt_of_lt_of_le (h.own k hk) hb.size, h.mine, Os, q, rv, h1.save hb (hn s h.mine), h2.save hb (fun k hk => hn k (h3 k hk)), h3, h4, own_save h5 hb (fun k hk => hn k (h6 k hk).1), h6⟩
theorem PenIn.next {O : Nat → Prop} {w w1 : World} {s : Nat} {K : Kb} (h : PenIn O w s K) (hb : Below w.heap.size w w1) : PenIn O w1 s K :=
  h.save (O' := fun _ => False) (.of_below hb) (fun _ _ q => q)
theorem pen_moved {O Os Os' : Nat → Prop} {w w1 : World} {s q : Nat} {rv : Value} {rs : List Stp} {A' : Bk} (hI : ∀ k, O k → k < w.heap.size) (hm : O s) (hR : PenRaw w s q rv) (hsub : ∀ k, Os k → O k) (hq : ¬ Os s)
    (hrow : w.ownsRow (s + 1) 51 5 rv rs.length (flat5 rs)) (hrb : ∀ k, rv.ownBlock = some k → O k ∧ ¬ Os k) (h3 : BoothIn Os' w1 q A') (h4 : Save Os w w1) (h5 : Moved Os Os' w) :
    PenIn (fun k => O k ∨ Os' k) w1 s ⟨A', rs⟩ ∧ Save O w w1 ∧ Moved O (fun k => O k ∨ Os' k) w := by
  have hout : ∀ k, k < w.heap.size → ¬ Os k → ¬ Os' k := fun k hk hn hk' => (h5 k hk').elim hn (fun h => by omega)
  refine ⟨⟨fun k hk => ?_, .inl hm, Os', q, rv, hR.save h4 hq, h3, fun k hk => .inr hk, hout s hR.lt hq, own_save hrow h4 (fun k hk => (hrb k hk).2), fun k hk => ⟨.inl (hrb k hk).1, hout k (hI k (hrb k hk).1) (hrb k hk).2⟩⟩, h4.mono (fun k _ hk => hsub k hk), fun k hk => ?_⟩
  · rcases hk with hk | hk
    · exact Nat.lt_of_lt_of_le (hI k hk) h4.size
    · exact h3.own k hk
  · rcases hk with hk | hk
    · exact .inl hk
    · exact (h5 k hk).imp (hsub k) id

theorem eqS_no {a b : Stp} (h : eqS a b = false) : eqS b a = false := by
  rw [← Bool.not_eq_true, eqS_iff]
  intro e
  rw [eqS_iff.2 e.symm] at h
  cases h
/-- What NewPen answers. -/
def NewPIs (no : Int) (ws : Nat → Int) (w w' : World) (e : Ending) : Prop :=
  if newOk no ws = true then ∃ s O, e = .returned (.pointer (some ⟨s, 0, none⟩)) ∧ PenIn O w' s ⟨book0 no ws, []⟩ ∧ ∀ k, O k → w.heap.size ≤ k else e = .returned (.pointer none)
theorem newPIs_nil {no : Int} {ws : Nat → Int} {w w' : World} {e : Ending} (h : newOk no ws = false) (he : e = .returned (.pointer none)) : NewPIs no ws w w' e := by
  unfold NewPIs; rw [if_neg (by rw [h]; simp)]; exact he
theorem praw_new (w : World) (q : Nat) (t : TypeId) : PenRaw (w.alloc (.cells #[.pointer (some ⟨q, 0, none⟩), .slice none 0 0] t)) w.heap.size q (.slice none 0 0) :=
  ⟨by simp, by simp [go_sem], by simp [go_sem], by simp [go_sem]⟩
set_option maxHeartbeats 2000000 in
theorem npen_any (no : Int) (ws : Nat → Int) (w : World) :
    Calls Try.prog 23 #[.int .i64 no, .agg #[.int .i64 (ws 0), .int .i64 (ws 1), .int .i64 (ws 2), .int .i64 (ws 3), .int .i64 (ws 4), .int .i64 (ws 5)]] w fun e w' => NewPIs no ws w w' e ∧ Below w.heap.size w w' := by
  go_enter Try.func23, Try.ntmps23
  go_wp2_with fail
  refine (bnew_any no ws _).mono ?_
  rintro e w1 ⟨hN, hb1⟩
  have hw1 : Below w.heap.size w w1 := after (by go_grown) hb1 (by simp)
  unfold NewBIs at hN
  by_cases hok : newOk no ws = true
  · rw [if_pos hok] at hN
    obtain ⟨q, O, rfl, hI, hO⟩ := hN
    have HOk : Hid _ := hok
    have HI : Hid (BoothIn O w1 q (book0 no ws)) := hI
    have HO : Hid (∀ k, O k → w.heap.size ≤ k) := fun k hk => Nat.le_trans (by simp) (hO k hk)
    clear hok hI hO hb1
    go_wp2_with fail
    have hR := praw_new w1 q 55
    have hn : Below w1.heap.size w1 (w1.alloc (.cells #[.pointer (some ⟨q, 0, none⟩), .slice none 0 0] 55)) := (Below.refl _ _).alloc (Nat.le_refl _) _
    have hI2 := HI.out.next hn
    have hw2 := after hw1 hn hw1.size
    go_ret
    refine ⟨?_, hw2⟩
    unfold NewPIs
    rw [if_pos HOk.out]
    have nn : ∀ k, ¬ (Value.slice none 0 0).ownBlock = some k := fun k e => by simp [Value.ownBlock] at e
    have nq : ¬ O w1.heap.size := fun hk => by have := HI.out.own _ hk; omega
    refine ⟨w1.heap.size, fun k => O k ∨ k = w1.heap.size, rfl, ⟨fun k hk => ?_, .inr rfl, O, q, .slice none 0 0, hR, hI2, fun k hk => .inl hk, nq, World.ownsRow_nil _ _ _ _, fun k e => absurd e (nn k)⟩, fun k hk => ?_⟩
    · rcases hk with hk | rfl
      · exact hI2.own k hk
      · exact hR.lt
    · rcases hk with hk | rfl
      · exact HO.out k hk
      · exact hw1.size
  · rw [if_neg hok] at hN
    subst hN
    have HOk : Hid (newOk no ws = false) := by show _ = _; simpa using hok
    clear hok
    go_wp2_with fail
    go_ret
    exact ⟨newPIs_nil HOk.out rfl, hw1⟩

set_option maxHeartbeats 4000000 in
set_option maxRecDepth 100000 in
theorem pdo_any (O : Nat → Prop) (K : Kb) (s : Nat) (r : Stp) (w : World) (h : PenIn O w s K) (hG : Good K.A) (hl : K.A.hs.length < 1000000) (he : K.A.es.length < 1000000) (hr : K.rs.length ≤ 150) :
    Calls Try.prog 25 #[.pointer (some ⟨s, 0, none⟩), .agg #[.int .i64 r.what, .int .i64 r.deal, .int .i64 r.c, .int .i64 r.d, .bool r.done]] w fun e w' => e = .returned (.int .i64 (doR K r).1) ∧ ∃ O', PenIn O' w' s (doR K r).2 ∧ Save O w w' ∧ Moved O O' w := by
  obtain ⟨i0, hi, hz0, hz1, hz2⟩ := info_parts infoRec
  obtain ⟨Os, q, rv, hR, hS, hsub, hqs, hrow, hrb⟩ := h.raw
  have HM : Hid (∀ (W w1 : World) (Os' : Nat → Prop) (A' : Bk), Below w.heap.size w W → BoothIn Os' w1 q A' → Save Os W w1 → Moved Os Os' W → ∃ O', PenIn O' w1 s ⟨A', K.rs⟩ ∧ Save O w w1 ∧ ∀ k, O' k → O k ∨ W.heap.size ≤ k) := by
    intro W w1 Os' A' hW h3 h4 h5
    obtain ⟨k1, k2, k3⟩ := pen_moved (rs := K.rs) (O := O) (fun k hk => Nat.lt_of_lt_of_le (h.own k hk) hW.size) h.mine (hR.save (O := fun _ => False) (.of_below hW) (fun q => q)) hsub hqs (own_next hrow hW) hrb h3 h4 h5
    exact ⟨_, k1, (Save.of_below hW).trans k2 (fun j _ hj => hj), k3⟩
  have HH : Hid (∀ W : World, Below w.heap.size w W → Calls Try.prog 64 #[.pointer (some ⟨q, 0, none⟩), .agg #[.int .i64 r.what, .int .i64 r.deal, .int .i64 r.c, .int .i64 r.d, .bool r.done]] W fun e w' => e = .returned (.int .i64 (tellR K.A r).1) ∧ ∃ O', BoothIn O' w' q (tellR K.A r).2 ∧ Save Os W w' ∧ Moved Os O' W) := fun W hW => bdo_any Os K.A q r W (hS.next hW) hG hl he
  have hql := hR.lt
  have c0 := hR.c0
  have HOwn : Hid (∀ k, O k → k < w.heap.size) := h.own
  have HOs : Hid (∀ k, Os k → k < w.heap.size) := hS.own
  have HRl : Hid (K.rs.length ≤ 150) := hr
  clear h hG hl he hr hR hS hsub hrow hrb
  go_enter Try.func25, Try.ntmps25
  go_upto_region 1 with fail
  have hX := BoxAt.new w [.int .i64 r.what, .int .i64 r.deal, .int .i64 r.c, .int .i64 r.d, .bool r.done] 51
  have hbW : Below w.heap.size w (w.alloc (.cells #[.int .i64 r.what, .int .i64 r.deal, .int .i64 r.c, .int .i64 r.d, .bool r.done] 51)) := (Below.refl _ _).alloc (Nat.le_refl _) _
  change BoxAt (w.alloc (.cells #[.int .i64 r.what, .int .i64 r.deal, .int .i64 r.c, .int .i64 r.d, .bool r.done] 51)) _ _ at hX
  generalize (w.alloc (.cells #[.int .i64 r.what, .int .i64 r.deal, .int .i64 r.c, .int .i64 r.d, .bool r.done] 51)) = W at hX hbW ⊢
  have hnx : ¬ Os w.heap.size := fun hh => by have := HOs.out _ hh; omega
  have hnO : ¬ O w.heap.size := fun hh => by have := HOwn.out _ hh; omega
  have HXW : Hid (BoxAt W w.heap.size [.int .i64 r.what, .int .i64 r.deal, .int .i64 r.c, .int .i64 r.d, .bool r.done]) := hX
  have HBW : Hid (Below w.heap.size w W) := hbW
  have HC0 : Hid (∀ w', Below W.heap.size W w' → w'.cell? ⟨s, 0, none⟩ = some (.pointer (some ⟨q, 0, none⟩))) := fun w' hb => ((after hbW hb hbW.size).cell (p := ⟨s, 0, none⟩) hql).trans c0
  have hsW : s < W.heap.size := Nat.lt_of_lt_of_le hql hbW.size
  clear hX hbW c0
  go_cut [5] (fun s5 wx => s5 = .int .i64 (tellR K.A r).1 ∧ BoxAt wx w.heap.size [.int .i64 r.what, .int .i64 r.deal, .int .i64 r.c, .int .i64 r.d, .bool r.done] ∧ ∃ O', PenIn O' wx s ⟨(tellR K.A r).2, K.rs⟩ ∧ Save O w wx ∧ Moved O O' w ∧ ¬ O' w.heap.size)
  case first =>
    have HK : Hid (∀ w', w'.cell? ⟨s, 0, none⟩ = some (.pointer (some ⟨q, 0, none⟩)) → BoxAt w' w.heap.size [.int .i64 r.what, .int .i64 r.deal, .int .i64 r.c, .int .i64 r.d, .bool r.done] → w'.cell? ⟨s, 0, none⟩ = some (.pointer (some ⟨q, 0, none⟩)) ∧ w'.cell? ⟨w.heap.size, 0, none⟩ = some (.int .i64 r.what) ∧ w'.cell? ⟨w.heap.size, 1, none⟩ = some (.int .i64 r.deal) ∧ w'.cell? ⟨w.heap.size, 2, none⟩ = some (.int .i64 r.c) ∧ w'.cell? ⟨w.heap.size, 3, none⟩ = some (.int .i64 r.d) ∧ w'.cell? ⟨w.heap.size, 4, none⟩ = some (.bool r.done)) := fun w' h0 h => ⟨h0, h.2 0 _ rfl, h.2 1 _ rfl, h.2 2 _ rfl, h.2 3 _ rfl, h.2 4 _ rfl⟩
    have HA : Hid (∀ W' : World, Below W.heap.size W W' → Calls Try.prog 64 #[.pointer (some ⟨q, 0, none⟩), .agg #[.int .i64 r.what, .int .i64 r.deal, .int .i64 r.c, .int .i64 r.d, .bool r.done]] W' fun e w' => e = .returned (.int .i64 (tellR K.A r).1) ∧ w'.cell? ⟨s, 0, none⟩ = some (.pointer (some ⟨q, 0, none⟩)) ∧ BoxAt w' w.heap.size [.int .i64 r.what, .int .i64 r.deal, .int .i64 r.c, .int .i64 r.d, .bool r.done] ∧ ∃ O', PenIn O' w' s ⟨(tellR K.A r).2, K.rs⟩ ∧ Save O w w' ∧ Moved O O' w ∧ ¬ O' w.heap.size) := by
      intro W' hW'
      have hW2 : Below w.heap.size w W' := after HBW.out hW' HBW.out.size
      refine (HH.out W' hW2).mono ?_
      rintro e w' ⟨a0, O2, a1, a2, a3⟩
      have hz := hW'.size
      obtain ⟨O', b1, b2, b3⟩ := HM.out W' w' O2 _ hW2 a1 a2 a3
      refine ⟨a0, (a2.cell (p := ⟨s, 0, none⟩) (Nat.lt_of_lt_of_le hsW hz) hqs).trans (HC0.out W' hW'), (HXW.out.next hW').save a2 hnx, ?_⟩
      exact ⟨O', b1, b2, fun k hk => (b3 k hk).imp id (fun q => Nat.le_trans hW2.size q), fun hh => (b3 _ hh).elim hnO (fun q => by have := HXW.out.1; omega)⟩
    clear HH HM
    go_region_held3 (fun w' => w'.cell? ⟨s, 0, none⟩ = some (.pointer (some ⟨q, 0, none⟩)) ∧ w'.cell? ⟨w.heap.size, 0, none⟩ = some (.int .i64 r.what) ∧ w'.cell? ⟨w.heap.size, 1, none⟩ = some (.int .i64 r.deal) ∧ w'.cell? ⟨w.heap.size, 2, none⟩ = some (.int .i64 r.c) ∧ w'.cell? ⟨w.heap.size, 3, none⟩ = some (.int .i64 r.d) ∧ w'.cell? ⟨w.heap.size, 4, none⟩ = some (.bool r.done))
      (first | exact HK9 | exact HK.out _ (HC0.out _ (by go_grown)) (HXW.out.next (by go_grown)))
      (first | (go_at_call 64; refine Calls.mono (HA.out _ (by go_grown)) ?_; rintro e w9 ⟨rfl, h91, h92, h93⟩; have HK9 := HK.out _ h91 h92; have HX9 : Hid (BoxAt w9 w.heap.size [.int .i64 r.what, .int .i64 r.deal, .int .i64 r.c, .int .i64 r.d, .bool r.done]) := h92; have HE9 : Hid (∃ O', PenIn O' w9 s ⟨(tellR K.A r).2, K.rs⟩ ∧ Save O w w9 ∧ Moved O O' w ∧ ¬ O' w.heap.size) := h93; clear h91 h92 h93))
    all_goals
      go_wp2_with fail
      go_meet
      case rel => exact ⟨rfl, HX9.out, HE9.out⟩
  case rest =>
    obtain ⟨rfl, hX1, O1, hI1, hSw, hMw, hnO1⟩ := hcut
    clear HH HM HXW HBW HC0 hsW hnx hnO
    by_cases hz : (tellR K.A r).1 = 0
    · have HD : Hid (doR K r = (0, ⟨(tellR K.A r).2, noteR K.rs r⟩)) := doR_done hz
      have hz' : ((tellR K.A r).1 != 0) = false := by simp [hz]
      clear hz
      generalize hA' : (tellR K.A r).2 = A' at hI1 HD
      clear hA'
      obtain ⟨Os2, q2, rv2, hR2, hP2, hsub2, hqs2, hrow2, hrb2⟩ := hI1.raw
      obtain ⟨ga, cap, hrv, hA1, hrn⟩ := steps_of_own hrow2
      have HI1 : Hid (PenIn O1 wc s ⟨A', K.rs⟩) := hI1
      have HA1 : Hid (StepsAt wc ga K.rs) := hA1
      have HX1 : Hid (BoxAt wc w.heap.size [.int .i64 r.what, .int .i64 r.deal, .int .i64 r.c, .int .i64 r.d, .bool r.done]) := hX1
      have hsl := hR2.lt
      have HCc : Hid (∀ w', Below wc.heap.size wc w' → w'.cell? ⟨s, 1, none⟩ = some (.slice ga K.rs.length cap)) := fun w' hb => ((bcell hb).1 _ _ hsl).trans (by rw [← hrv]; exact hR2.c1)
      clear hI1 hA1 hX1 hR2 hP2 hsub2 hqs2 hrow2 hrb2
      go_wp2_with fail
      go_loopg [6] K.rs.length (fun g s6 wr => ∃ j : Nat, j ≤ K.rs.length ∧ g = K.rs.length - j ∧ s6 = .int .i64 j ∧ Hid (∀ y ∈ K.rs.take j, eqS r y = false) ∧ Below wc.heap.size wc wr)
      case atStart => exact ⟨0, Nat.zero_le _, rfl, rfl, by intro y hy; simp at hy, Below.refl _ _⟩
      case round =>
        obtain ⟨j, hj, rfl, rfl, HE, hb2⟩ := hrel
        have c1 := HCc.out wr hb2
        have hsr : s < wr.heap.size := Nat.lt_of_lt_of_le hsl hb2.size
        by_cases hjl : j < K.rs.length
        · obtain ⟨x, hjx⟩ : ∃ x, K.rs[j]? = some x := ⟨_, List.getElem?_eq_getElem hjl⟩
          obtain ⟨bl, ol, rfl, hbl, hcell⟩ := HA1.out j x hjx
          have hcell' : ∀ i v, x.cells[i]? = some v → wr.cell? ⟨bl, ol + j * 5 + i, none⟩ = some v := fun i v hi => (hb2.cell (p := ⟨bl, _, none⟩) hbl).trans (hcell i v hi)
          have p0 : wr.cell? ⟨bl, ol + j * 5, none⟩ = some (.int .i64 x.what) := hcell' 0 _ rfl
          have p1 : wr.cell? ⟨bl, ol + j * 5 + 1, none⟩ = some (.int .i64 x.deal) := hcell' 1 _ rfl
          have p2 : wr.cell? ⟨bl, ol + j * 5 + 2, none⟩ = some (.int .i64 x.c) := hcell' 2 _ rfl
          have p3 : wr.cell? ⟨bl, ol + j * 5 + 3, none⟩ = some (.int .i64 x.d) := hcell' 3 _ rfl
          have p4 : wr.cell? ⟨bl, ol + j * 5 + 4, none⟩ = some (.bool x.done) := hcell' 4 _ rfl
          have hX2 := HX1.out.next hb2
          have y0 := hX2.2 0 _ rfl
          have y1 := hX2.2 1 _ rfl
          have y2 := hX2.2 2 _ rfl
          have y3 := hX2.2 3 _ rfl
          have y4 := hX2.2 4 _ rfl
          have j0 : (0 : Int) ≤ (j : Int) := by omega
          have j1 : (j : Int) < (K.rs.length : Int) := by omega
          have j2 : (K.rs.length : Int) ≤ 150 := by have := HRl.out; omega
          have HJ : Hid (j < K.rs.length) := hjl
          clear hcell hcell' hX2 hbl hj hjl
          cases hq : eqS r x with
          | true =>
            have hq1 : ∀ W : World, (Op.equalIn 10000 51 (.agg #[.int .i64 x.what, .int .i64 x.deal, .int .i64 x.c, .int .i64 x.d, .bool x.done]) (.agg #[.int .i64 r.what, .int .i64 r.deal, .int .i64 r.c, .int .i64 r.d, .bool r.done])).run Try.prog W = .ok true W := fun W => by rw [eqR, eqS_iff.2 (eqS_iff.1 hq).symm]
            have HN : Hid (noteR K.rs r = K.rs) := by show _ = _; unfold noteR; rw [if_pos (has_in hjx hq)]
            clear hq hjx
            go_wp2_with fail
            go_quiet (fail)
            go_wp2_with fail
            go_ret
            rw [HD.out, HN.out]
            have hb3 := bdrewN hb2 nq
            exact ⟨rfl, O1, HI1.out.next hb3, hSw.next hb3, hMw⟩
          | false =>
            have hq1 : ∀ W : World, (Op.equalIn 10000 51 (.agg #[.int .i64 x.what, .int .i64 x.deal, .int .i64 x.c, .int .i64 x.d, .bool x.done]) (.agg #[.int .i64 r.what, .int .i64 r.deal, .int .i64 r.c, .int .i64 r.d, .bool r.done])).run Try.prog W = .ok false W := fun W => by rw [eqR, eqS_no hq]
            have HE2 : Hid _ := none_snoc hjx HE.out hq
            clear hq hjx
            go_wp2_with fail
            go_quiet (fail)
            go_wp2_with fail
            go_roundg (K.rs.length - (j + 1))
            case measure => have := HJ.out; omega
            case rel => exact ⟨j + 1, HJ.out, rfl, by simp, HE2, bdrewN hb2 _⟩
        · have hjj : j = K.rs.length := by omega
          subst hjj
          have HN : Hid (noteR K.rs r = K.rs ++ [r]) := by
            have h1 := HE.out
            rw [List.take_of_length_le (Nat.le_refl _)] at h1
            show _ = _
            unfold noteR
            rw [if_neg (by rw [has_out h1]; simp)]
          have hI2 := HI1.out.next hb2
          have hX2 := HX1.out.next hb2
          have hS2 := hSw.next hb2
          obtain ⟨Os3, q3, rv, hR2, hP2, hsub2, hqs2, hrow2, hrb2⟩ := hI2.raw
          have HOwn2 : Hid (∀ k, O1 k → k < wr.heap.size) := hI2.own
          have HMine2 : Hid (O1 s) := hI2.mine
          have g0 := hR2.c1
          have x0 := hX2.2 0 _ rfl
          have x1 := hX2.2 1 _ rfl
          have x2 := hX2.2 2 _ rfl
          have x3 := hX2.2 3 _ rfl
          have x4 := hX2.2 4 _ rfl
          have hp3 := hR2.lt
          have hl3 := hX2.1
          have hf3 := hR2.loose
          have HR2 : Hid (PenRaw wr s q3 rv) := hR2
          have HP2 : Hid (BoothIn Os3 wr q3 A') := hP2
          have HSub : Hid (∀ k, Os3 k → O1 k) := hsub2
          have HQs : Hid (¬ Os3 s) := hqs2
          have HRow : Hid (wr.ownsRow (s + 1) 51 5 rv K.rs.length (flat5 K.rs)) := hrow2
          have HRb : Hid (∀ k, rv.ownBlock = some k → O1 k ∧ ¬ Os3 k) := hrb2
          have HS2 : Hid (Save O w wr) := hS2
          have HM : Hid (Moved O O1 w) := hMw
          have HE1 : Hid (some s ≠ rv.ownBlock) := fun e => by have := (HRow.out.lt s e.symm).1; omega
          have HE2 : Hid (some w.heap.size ≠ rv.ownBlock) := fun e => hnO1 (HRb.out _ e.symm).1
          have hg0 : some rv = some (.slice ga K.rs.length cap) := g0.symm.trans c1
          have hrv3 : rv = .slice ga K.rs.length cap := Option.some.inj hg0
          subst hrv3
          clear hI2 hX2 hR2 hP2 hsub2 hqs2 hrow2 hrb2 hS2 hMw hnO1 hb2 hrn hg0 c1 HCc HI1 HA1 HX1 hSw hj hjl HE hrv
          go_upto_region 9 with fail
          go_region_law
            (first | (refine step_append_two (by rfl) (.tmp 38) (.tmp 40) 24 (by rfl) (s + 1) 51 i0 (.agg #[.int .i64 0, .int .i64 0, .int .i64 0, .int .i64 0, .bool false]) 5 40 Try.underlying24 hi hz0 hz1 hz2 rfl (by decide) (.slice ga K.rs.length cap) _ _ (by simp [Act.eval]) (own_next HRow.out (by go_grown)) ⟨wr.heap.size, 0, none⟩ 1 1 [.int .i64 r.what, .int .i64 r.deal, .int .i64 r.c, .int .i64 r.d, .bool r.done] (by simp [Act.eval]) rfl (rec_lies (by simp [go_sem]) (by simp [go_sem]) (by simp [go_sem]) (by simp [go_sem]) (by simp [go_sem])) rec_cell (by have := HRl.out; unfold maxLen; omega) (by have := HRl.out; omega) (by simp; omega) (by decide) ?_; intro v8 w8 hown8 hgrow8 hwh8; obtain ⟨ga8, cap8, rfl⟩ := own_slice hown8; have HO8 : Hid (w8.ownsRow (s + 1) 51 5 (.slice ga8 (K.rs.length + 1) cap8) (K.rs.length + 1) (flat5 K.rs ++ [.int .i64 r.what, .int .i64 r.deal, .int .i64 r.c, .int .i64 r.d, .bool r.done])) := hown8; clear hown8; have HW8 : Hid _ := hwh8; clear hwh8; have hk8 : w8.cell? ⟨s, 1, none⟩ = some (.slice ga K.rs.length cap) ∧ w8.cell? ⟨w.heap.size, 0, none⟩ = some (.int .i64 r.what) ∧ w8.cell? ⟨w.heap.size, 1, none⟩ = some (.int .i64 r.deal) ∧ w8.cell? ⟨w.heap.size, 2, none⟩ = some (.int .i64 r.c) ∧ w8.cell? ⟨w.heap.size, 3, none⟩ = some (.int .i64 r.d) ∧ w8.cell? ⟨w.heap.size, 4, none⟩ = some (.bool r.done) := ⟨hgrow8.cell (by simp [go_sem, g0, hp3]) HE1.out, hgrow8.cell (by simp [go_sem, x0, hl3]) HE2.out, hgrow8.cell (by simp [go_sem, x1, hl3]) HE2.out, hgrow8.cell (by simp [go_sem, x2, hl3]) HE2.out, hgrow8.cell (by simp [go_sem, x3, hl3]) HE2.out, hgrow8.cell (by simp [go_sem, x4, hl3]) HE2.out⟩; have q78 := hk8.1; have hf8 : ∀ k, w8.frozen? ⟨s, k, none⟩ = false := fun k => (World.frozen?_of_block (hgrow8.block s (by simp; omega) HE1.out)).trans (by simp [go_sem, hf3, hp3])))
          all_goals
            have hR8 : PenRaw w8 s q3 (.slice ga K.rs.length cap) := (HR2.out.save (O := fun _ => False) (.of_below (by go_grown)) (fun e => e)).save (O := fun k => (Value.slice ga K.rs.length cap).ownBlock = some k) ((Save.refl _ _).grown hgrow8 (fun k e _ => e)) (fun e => HE1.out e.symm)
            have hP8 : BoothIn Os3 w8 q3 A' := (HP2.out.next (by go_grown)).save (O' := fun k => (Value.slice ga K.rs.length cap).ownBlock = some k) ((Save.refl _ _).grown hgrow8 (fun k e _ => e)) (fun k hk e => (HRb.out k e).2 hk)
            have hS8 : Save (fun k => O k ∨ O1 k) w w8 := ((HS2.out.mono (fun k _ hk => .inl hk)).next (by go_grown)).grown hgrow8 (fun k e _ => .inr (HRb.out k e).1)
            have hsz8 : wr.heap.size ≤ w8.heap.size := Nat.le_trans (by simp) hgrow8.size
            clear hk8 hf8 q78 g0 x0 x1 x2 x3 x4
            go_wp2_with fail
            go_ret
            rw [HD.out, HN.out]
            have hSO : Save O w w8 := hS8.mono (fun k hk hh => hh.elim id (fun h1 => (HM.out k h1).elim id (fun h2 => absurd h2 (by omega))))
            refine ⟨rfl, fun k => O1 k ∨ (.slice ga8 (K.rs.length + 1) cap8 : Value).ownBlock = some k, ?_, hSO.setCell (p := ⟨s, 1, none⟩) (fun hk => (HM.out s HMine2.out).elim id (fun h2 => absurd hk (by simp only; omega))) _, fun k hk => ?_⟩
            · refine ⟨fun k hk => ?_, .inl HMine2.out, Os3, q3, .slice ga8 (K.rs.length + 1) cap8, hR8.set1 _, ?_, fun k hk => .inl (HSub.out k hk), HQs.out, ?_, fun k hk => ⟨.inr hk, fun hk2 => ?_⟩⟩
              · show k < (w8.setCell _ _).heap.size
                rw [show (w8.setCell (⟨s, 1, none⟩ : Addr) (.slice ga8 (K.rs.length + 1) cap8)).heap.size = w8.heap.size by simp]
                rcases hk with hk | hk
                · have := HOwn2.out k hk
                  omega
                · exact (HO8.out.lt k hk).2
              · exact hP8.save (O' := fun k => k = s) (Save.setCell (O := fun k => k = s) (Save.refl _ _) (p := ⟨s, 1, none⟩) (fun _ => rfl) _) (fun k hk e => HQs.out (e ▸ hk))
              · have e1 : (K.rs ++ [r]).length = K.rs.length + 1 := by simp
                have e2 : flat5 (K.rs ++ [r]) = flat5 K.rs ++ [.int .i64 r.what, .int .i64 r.deal, .int .i64 r.c, .int .i64 r.d, .bool r.done] := flat5_snoc _ _
                show World.ownsRow _ _ _ _ _ (K.rs ++ [r]).length (flat5 (K.rs ++ [r]))
                rw [e1, e2]
                exact ownsRow_setCell_below HO8.out (Nat.lt_succ_self s) _
              · rcases HW8.out k hk with h1 | h1
                · exact (HRb.out k h1).2 hk2
                · have h2 := HP2.out.own k hk2
                  simp at h1
                  omega
            · rcases hk with hk | hk
              · exact HM.out k hk
              · rcases HW8.out k hk with h1 | h1
                · exact HM.out k (HRb.out k h1).1
                · right
                  have := HS2.out.size
                  simp at h1
                  omega
    · have HD : Hid (doR K r = ((tellR K.A r).1, K)) := doR_code hz
      have HA : Hid ((tellR K.A r).2 = K.A) := tell_code hz
      have hz' : ((tellR K.A r).1 != 0) = true := by simpa using hz
      clear hz
      go_wp2_with fail
      go_ret
      rw [HD.out]
      exact ⟨rfl, O1, by have h9 := hI1; rw [HA.out] at h9; exact h9, hSw, hMw⟩

end Go.Proofs.Ytbgnajcmhmpjlab
