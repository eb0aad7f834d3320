/- A keeper of one's own, made since a world: its steps, and its shop. -/
import Derived.Test.YtbgnajcmhmpjlabKNew
namespace Go.Proofs.Ytbgnajcmhmpjlab
open Go.RowKit

/-- A keeper of one's own, made since w0, in blocks outside Z. -/
structure KLive (w0 : World) (Z : Nat → Prop) (w : World) (q : Nat) (no : Int) (ws : Nat → Int) (K : Kb) : Prop where
  inn : ∃ O, KeepIn O w q no ws K ∧ ∀ k, O k → w0.heap.size ≤ k ∧ ¬ Z k
  below : Below w0.heap.size w0 w
  kept : ∀ k, Z k → k < w.heap.size
theorem KLive.next {w0 w w1 : World} {Z : Nat → Prop} {q : Nat} {no : Int} {ws : Nat → Int} {K : Kb} (h : KLive w0 Z w q no ws K) (hb : Below w.heap.size w w1) : KLive w0 Z w1 q no ws K := by
  obtain ⟨O, h1, h2⟩ := h.inn
  exact ⟨⟨O, h1.next hb, h2⟩, after h.below hb h.below.size, fun k hk => Nat.lt_of_lt_of_le (h.kept k hk) hb.size⟩
theorem KLive.more {w0 w w1 : World} {Z Z' : Nat → Prop} {q : Nat} {no : Int} {ws : Nat → Int} {K : Kb} (h : KLive w0 Z w q no ws K) (hb : Below w.heap.size w w1) (hZ : ∀ k, Z' k → Z k ∨ (w.heap.size ≤ k ∧ k < w1.heap.size)) : KLive w0 Z' w1 q no ws K := by
  obtain ⟨O, h1, h2⟩ := h.inn
  refine ⟨⟨O, h1.next hb, fun k hk => ⟨(h2 k hk).1, fun hk' => ?_⟩⟩, after h.below hb h.below.size, fun k hk => ?_⟩
  · rcases hZ k hk' with q | q
    · exact (h2 k hk).2 q
    · have := h1.own k hk
      omega
  · rcases hZ k hk with q | q
    · exact Nat.lt_of_lt_of_le (h.kept k q) hb.size
    · exact q.2
theorem KLive.less {w0 w : World} {Z Z' : Nat → Prop} {q : Nat} {no : Int} {ws : Nat → Int} {K : Kb} (h : KLive w0 Z w q no ws K) (hZ : ∀ k, Z' k → Z k) : KLive w0 Z' w q no ws K :=
  h.more (Below.refl _ _) (fun k hk => .inl (hZ k hk))
theorem KLive.step {O O' : Nat → Prop} {w0 w w1 : World} {Z : Nat → Prop} {q : Nat} {no : Int} {ws : Nat → Int} {K K' : Kb} (h : KLive w0 Z w q no ws K) (h2 : ∀ k, O k → w0.heap.size ≤ k ∧ ¬ Z k) (h3 : KeepIn O' w1 q no ws K') (h4 : Save O w w1) (h5 : Moved O O' w) : KLive w0 Z w1 q no ws K' ∧ Save (fun k => ¬ Z k) w w1 :=
  ⟨⟨⟨O', h3, fun k hk => (h5 k hk).elim (h2 k) (fun q => ⟨Nat.le_trans h.below.size q, fun hk' => by have := h.kept k hk'; omega⟩)⟩, h.below.trans (h4.below (fun k hk hO => by have := (h2 k hO).1; omega) h.below.size), fun k hk => Nat.lt_of_lt_of_le (h.kept k hk) h4.size⟩, h4.mono (fun k _ hk => (h2 k hk).2)⟩
theorem do_live {w0 w : World} {Z : Nat → Prop} {q : Nat} {no : Int} {ws : Nat → Int} {K : Kb} (r : Stp) (h : KLive w0 Z w q no ws K) (hG : Good K.A) (hl : K.A.hs.length < 2 ^ 40) (hr : K.rs.length < 2 ^ 40) : Calls Try.prog 24 #[.pointer (some ⟨q, 0, none⟩), .agg #[.int .i64 r.what, .int .i64 r.deal, .int .i64 r.c, .int .i64 r.d, .bool r.done]] w fun e w' => e = .returned (.int .i64 (doR K r).1) ∧ KLive w0 Z w' q no ws (doR K r).2 ∧ Save (fun k => ¬ Z k) w w' := by
  obtain ⟨O, h1, h2⟩ := h.inn
  refine (kdo_any O no ws K q r w h1 hG hl hr).mono ?_
  rintro e w' ⟨he, O', h3, h4, h5⟩
  exact ⟨he, KLive.step h h2 h3 h4 h5⟩
theorem recs_live {w0 w : World} {Z : Nat → Prop} {q : Nat} {no : Int} {ws : Nat → Int} {K : Kb} (h : KLive w0 Z w q no ws K) (hr : K.rs.length < 2 ^ 40) : Calls Try.prog 28 #[.pointer (some ⟨q, 0, none⟩)] w fun e w' => (∃ ga cap, e = .returned (.slice ga K.rs.length cap) ∧ StepsAt w' ga K.rs ∧ (∀ a, ga = some a → w.heap.size ≤ a.block ∧ a.block < w'.heap.size) ∧ K.rs.length ≤ cap) ∧ KLive w0 Z w' q no ws K ∧ Below w.heap.size w w' := by
  obtain ⟨O, h1, _⟩ := h.inn
  refine (krecs_any O no ws K q w h1 hr).mono ?_
  rintro e w' ⟨h2, hb⟩
  exact ⟨h2, h.next hb, hb⟩
/-- The keeper's shop. -/
theorem KLive.shop {w0 w : World} {Z : Nat → Prop} {q : Nat} {no : Int} {ws : Nat → Int} {K : Kb} (h : KLive w0 Z w q no ws K) : ∃ p, w.cell? ⟨q, 0, none⟩ = some (.pointer (some ⟨p, 0, none⟩)) ∧ q < w.heap.size ∧ Live w0 Z w p K.A := by
  obtain ⟨O, h1, h2⟩ := h.inn
  obtain ⟨Os, p, rv, hR, hS, hsub, _⟩ := h1.raw
  exact ⟨p, hR.c0, hR.lt, ⟨Os, hS, fun k hk => h2 k (hsub k hk)⟩, h.below, h.kept⟩

/-- Two numbers in a block of one's own. -/
structure Box2 (w : World) (b : Nat) (x y : Int) : Prop where
  lt : b < w.heap.size
  c0 : w.cell? ⟨b, 0, none⟩ = some (.int .i64 x)
  c1 : w.cell? ⟨b, 1, none⟩ = some (.int .i64 y)
  loose : ∀ k, w.frozen? ⟨b, k, none⟩ = false
theorem Box2.save {O : Nat → Prop} {w w1 : World} {b : Nat} {x y : Int} (h : Box2 w b x y) (hb : Save O w w1) (hn : ¬ O b) : Box2 w1 b x y :=
  ⟨Nat.lt_of_lt_of_le h.lt hb.size, (hb.cell (p := ⟨b, 0, none⟩) h.lt hn).trans h.c0, (hb.cell (p := ⟨b, 1, none⟩) h.lt hn).trans h.c1, fun k => (hb.frozen (p := ⟨b, k, none⟩) h.lt hn).trans (h.loose k)⟩
theorem Box2.next {w w1 : World} {b : Nat} {x y : Int} (h : Box2 w b x y) (hb : Below w.heap.size w w1) : Box2 w1 b x y := h.save (O := fun _ => False) (.of_below hb) (fun q => q)
theorem Box2.new (w : World) (t : TypeId) (x y : Int) : Box2 (w.alloc (.cells #[.int .i64 x, .int .i64 y] t)) w.heap.size x y := ⟨by simp, by simp [go_sem], by simp [go_sem], by simp [go_sem]⟩

/-- What keep.Replay answers. -/
def RepIs (no : Int) (ws : Nat → Int) (l : List Stp) (w : World) (e : Ending) (w' : World) : Prop :=
  if newOk no ws = true then (if (faultR (book0 no ws) l 0).1 = 0 then ∃ p O, e = .returned (.tuple #[.pointer (some ⟨p, 0, none⟩), .agg #[.int .i64 0, .int .i64 0]]) ∧ ShopIn O w' p (runR (book0 no ws) l) ∧ ∀ k, O k → w.heap.size ≤ k
    else e = .returned (.tuple #[.pointer none, .agg #[.int .i64 (faultR (book0 no ws) l 0).1, .int .i64 (faultR (book0 no ws) l 0).2]])) else e = .returned (.tuple #[.pointer none, .agg #[.int .i64 1, .int .i64 (-1)]])
theorem repIs_nil {no : Int} {ws : Nat → Int} {l : List Stp} {w w' : World} {e : Ending} (h : newOk no ws = false) (he : e = .returned (.tuple #[.pointer none, .agg #[.int .i64 1, .int .i64 (-1)]])) : RepIs no ws l w e w' := by
  unfold RepIs; rw [if_neg (by rw [h]; simp)]; exact he
theorem repIs_code {no : Int} {ws : Nat → Int} {l : List Stp} {w w' : World} {e : Ending} {c i : Int} (h : newOk no ws = true) (hf : faultR (book0 no ws) l 0 = (c, i)) (hc : c ≠ 0) (he : e = .returned (.tuple #[.pointer none, .agg #[.int .i64 c, .int .i64 i]])) : RepIs no ws l w e w' := by
  unfold RepIs; rw [if_pos h, hf, if_neg hc]; exact he
theorem repIs_all {no : Int} {ws : Nat → Int} {l : List Stp} {w w' : World} {e : Ending} {i : Int} (h : newOk no ws = true) (hf : faultR (book0 no ws) l 0 = (0, i)) (he : ∃ p O, e = .returned (.tuple #[.pointer (some ⟨p, 0, none⟩), .agg #[.int .i64 0, .int .i64 0]]) ∧ ShopIn O w' p (runR (book0 no ws) l) ∧ ∀ k, O k → w.heap.size ≤ k) : RepIs no ws l w e w' := by
  unfold RepIs; rw [if_pos h, hf, if_pos rfl]; exact he

set_option maxHeartbeats 4000000 in
set_option maxRecDepth 100000 in
theorem krep_any (no : Int) (ws : Nat → Int) (la : Option Addr) (n ca : Nat) (l : List Stp) (w : World) (hl : StepsAt w la l) (hn : l.length = n) (hs : n < 1000000) :
    Calls Try.prog 16 #[.int .i64 no, .agg #[.int .i64 (ws 0), .int .i64 (ws 1), .int .i64 (ws 2), .int .i64 (ws 3), .int .i64 (ws 4), .int .i64 (ws 5)], .slice la n ca] w fun e w' => RepIs no ws l w e w' ∧ Below w.heap.size w w' := by
  go_enter Try.func16, Try.ntmps16
  go_upto_region 1 with fail
  have hX := (box_new6 w ws 23).next ((Below.refl _ _).alloc (Nat.le_refl _) (.cells #[.int .i64 0, .int .i64 0] 28))
  have hB := Box2.new (w.alloc (.cells #[.int .i64 (ws 0), .int .i64 (ws 1), .int .i64 (ws 2), .int .i64 (ws 3), .int .i64 (ws 4), .int .i64 (ws 5)] 23)) 28 0 0
  have hb : Below w.heap.size w ((w.alloc (.cells #[.int .i64 (ws 0), .int .i64 (ws 1), .int .i64 (ws 2), .int .i64 (ws 3), .int .i64 (ws 4), .int .i64 (ws 5)] 23)).alloc (.cells #[.int .i64 0, .int .i64 0] 28)) := by go_grown
  have hz : (w.alloc (.cells #[.int .i64 (ws 0), .int .i64 (ws 1), .int .i64 (ws 2), .int .i64 (ws 3), .int .i64 (ws 4), .int .i64 (ws 5)] 23)).heap.size = w.heap.size + 1 := by simp
  rw [hz] at hB
  generalize ((w.alloc (.cells #[.int .i64 (ws 0), .int .i64 (ws 1), .int .i64 (ws 2), .int .i64 (ws 3), .int .i64 (ws 4), .int .i64 (ws 5)] 23)).alloc (.cells #[.int .i64 0, .int .i64 0] 28)) = W at hX hB hb ⊢
  clear hz
  have hfb : w.heap.size ≤ w.heap.size + 1 := Nat.le_succ _
  have x0 := hX.2 0 _ rfl
  have x1 := hX.2 1 _ rfl
  have x2 := hX.2 2 _ rfl
  have x3 := hX.2 3 _ rfl
  have x4 := hX.2 4 _ rfl
  have x5 := hX.2 5 _ rfl
  generalize w.heap.size + 1 = fb at hB hfb ⊢
  clear hX
  go_wp2_with fail
  refine (knew_any no ws _).mono ?_
  rintro e w1 ⟨hN, hb1⟩
  have hB1 := hB.next hb1
  have hw1 : Below w.heap.size w w1 := after hb hb1 hb.size
  have hWs := hb.size
  clear x0 x1 x2 x3 x4 x5
  unfold NewKIs at hN
  by_cases hok : newOk no ws = true
  · rw [if_pos hok] at hN
    obtain ⟨q, O, rfl, hI, hO⟩ := hN
    have hL1 : KLive w (fun b => b = fb) w1 q no ws ⟨book0 no ws, []⟩ := ⟨⟨O, hI, fun k hk => ⟨Nat.le_trans hWs (hO k hk), fun e => by have := hO k hk; have := hB.lt; omega⟩⟩, hw1, fun k e => by rw [e]; exact hB1.lt⟩
    have HG1 : Hid (GoodK (book0 no ws) ⟨book0 no ws, []⟩) := goodK_new (good_new hok) rfl rfl
    have HOk : Hid (newOk no ws = true) := hok
    have HT : Hid (StepsAt w la l) := hl
    clear hI hO hB hb hb1 hw1 hWs hok hl
    go_wp2_with fail
    go_loopg [9, 10, 11, 20] n (fun g _ _ _ s20 wr => ∃ (k : Nat) (K : Kb), k ≤ n ∧ g = n - k ∧ s20 = .int .i64 k ∧ KLive w (fun b => b = fb) wr q no ws K ∧ Box2 wr fb 0 0 ∧ Hid (GoodK (book0 no ws) K) ∧ Hid (K.rs.length ≤ k) ∧ Hid (faultR (book0 no ws) l 0 = faultR K.A (l.drop k) k ∧ runR (book0 no ws) l = runR K.A (l.drop k)))
    case atStart => exact ⟨0, _, Nat.zero_le _, rfl, rfl, hL1, hB1, HG1, Nat.le_refl _, ⟨rfl, rfl⟩⟩
    case round =>
      obtain ⟨k, K, hk, rfl, rfl, hL, hB2, HG, HLn, HF⟩ := hrel
      clear hL1 hB1
      by_cases hlt : k < n
      · obtain ⟨x, hkx⟩ : ∃ x, l[k]? = some x := ⟨_, List.getElem?_eq_getElem (by omega)⟩
        obtain ⟨bl, ol, rfl, hbl, hcell⟩ := HT.out k x hkx
        have hcell' : ∀ j v, x.cells[j]? = some v → wr.cell? ⟨bl, ol + k * 5 + j, none⟩ = some v := fun j v hj => (hL.below.cell (p := ⟨bl, _, none⟩) hbl).trans (hcell j v hj)
        have p0 : wr.cell? ⟨bl, ol + k * 5, none⟩ = some (.int .i64 x.what) := hcell' 0 _ rfl
        have p1 : wr.cell? ⟨bl, ol + k * 5 + 1, none⟩ = some (.int .i64 x.deal) := hcell' 1 _ rfl
        have p2 : wr.cell? ⟨bl, ol + k * 5 + 2, none⟩ = some (.int .i64 x.c) := hcell' 2 _ rfl
        have p3 : wr.cell? ⟨bl, ol + k * 5 + 3, none⟩ = some (.int .i64 x.d) := hcell' 3 _ rfl
        have p4 : wr.cell? ⟨bl, ol + k * 5 + 4, none⟩ = some (.bool x.done) := hcell' 4 _ rfl
        have j0 : (0 : Int) ≤ (k : Int) := by omega
        have j1 : (k : Int) < (n : Int) := by omega
        have j2 : (n : Int) < 1000000 := by omega
        have HD : Hid (l.drop k = x :: l.drop (k + 1)) := drop_cons hkx
        have HS : Hid (n < 1000000) := hs
        have HKN : Hid (k < n) := hlt
        clear hcell hcell' hbl hkx hs hlt hk
        go_upto_region 7 with fail
        have hX := BoxAt.new wr x.cells 51
        have hbn : Below wr.heap.size wr (wr.alloc (.cells x.cells.toArray 51)) := (Below.refl _ _).alloc (Nat.le_refl _) _
        have hL2 := hL.next hbn
        have hB3 := hB2.next hbn
        change KLive w _ (wr.alloc (.cells #[.int .i64 x.what, .int .i64 x.deal, .int .i64 x.c, .int .i64 x.d, .bool x.done] _)) q no ws K at hL2
        change BoxAt (wr.alloc (.cells #[.int .i64 x.what, .int .i64 x.deal, .int .i64 x.c, .int .i64 x.d, .bool x.done] _)) _ _ at hX
        change Box2 (wr.alloc (.cells #[.int .i64 x.what, .int .i64 x.deal, .int .i64 x.c, .int .i64 x.d, .bool x.done] _)) _ _ _ at hB3
        generalize (wr.alloc (.cells #[.int .i64 x.what, .int .i64 x.deal, .int .i64 x.c, .int .i64 x.d, .bool x.done] 51)) = W1 at hX hL2 hB3 ⊢
        generalize wr.heap.size = bx at hX ⊢
        clear hL p0 p1 p2 p3 p4 hB2 hbn
        have y0 : W1.cell? ⟨bx, 0, none⟩ = some (.int .i64 x.what) := hX.2 0 _ rfl
        have y1 : W1.cell? ⟨bx, 1, none⟩ = some (.int .i64 x.deal) := hX.2 1 _ rfl
        have y2 : W1.cell? ⟨bx, 2, none⟩ = some (.int .i64 x.c) := hX.2 2 _ rfl
        have y3 : W1.cell? ⟨bx, 3, none⟩ = some (.int .i64 x.d) := hX.2 3 _ rfl
        have y4 : W1.cell? ⟨bx, 4, none⟩ = some (.bool x.done) := hX.2 4 _ rfl
        have HL40 : Hid (K.A.hs.length < 2 ^ 40 ∧ K.rs.length < 2 ^ 40) := by
          have := HLn.out
          have := HG.out.hl
          have := HS.out
          have := HKN.out
          exact ⟨by omega, by omega⟩
        go_wp2_with fail
        refine Calls.mono (do_live x hL2 HG.out.good HL40.out.1 HL40.out.2) ?_
        rintro e w3 ⟨rfl, hL3, hS3⟩
        have hB4 := hB3.save hS3 (fun q => q rfl)
        have f0 := hB4.c0
        have f1 := hB4.c1
        have fl := hB4.loose
        have fz := hB4.lt
        clear hL2 hX hB3 y0 y1 y2 y3 y4 hS3
        by_cases hz : (doR K x).1 = 0
        · have hz' : ((doR K x).1 != 0) = false := by simp [hz]
          have HG2 : Hid (GoodK (book0 no ws) (doR K x).2) := goodK_do HG.out x
          have HL2 : Hid ((doR K x).2.rs.length ≤ k + 1) := by have := do_len K x; have := HLn.out; show _ ≤ _; omega
          have HF2 : Hid (faultR (book0 no ws) l 0 = faultR (doR K x).2.A (l.drop (k + 1)) (k + 1) ∧ runR (book0 no ws) l = runR (doR K x).2.A (l.drop (k + 1))) := by
            obtain ⟨a1, a2⟩ := HF.out
            rw [HD.out] at a1 a2
            rw [doR_book]
            refine ⟨a1.trans ?_, a2⟩
            rw [doR_fst] at hz
            show (if (tellR K.A x).1 = 0 then _ else _) = _
            rw [if_pos hz]
          clear hz
          generalize doR K x = r at *
          go_wp2_with fail
          go_roundg (n - (k + 1))
          case measure => have := HKN.out; omega
          case rel => exact ⟨k + 1, r.2, HKN.out, rfl, by simp, hL3, hB4, HG2, HL2, HF2⟩
        · have hz' : ((doR K x).1 != 0) = true := by simpa using hz
          have HF2 : Hid (faultR (book0 no ws) l 0 = ((doR K x).1, (k : Int)) ∧ (doR K x).1 ≠ 0) := by
            obtain ⟨a1, a2⟩ := HF.out
            rw [HD.out] at a1
            refine ⟨a1.trans ?_, hz⟩
            rw [doR_fst] at hz ⊢
            show (if (tellR K.A x).1 = 0 then _ else _) = _
            rw [if_neg hz]
          clear hz
          generalize doR K x = r at *
          have hb9 := hL3.below
          clear hL3 hB4
          go_wp2_with fail
          exact bodyPost_ret (v := .tuple #[.pointer none, .agg #[.int .i64 r.1, .int .i64 (k : Int)]]) (by simp [results, Try.results16, go_sem, f0, f1]) rfl ⟨repIs_code HOk.out HF2.out.1 HF2.out.2 rfl, (hb9.setCell (p := ⟨fb, 0, none⟩) hfb _).setCell (p := ⟨fb, 1, none⟩) hfb _⟩
      · have hkk : k = n := by omega
        subst hkk
        have HF2 : Hid (faultR (book0 no ws) l 0 = (0, 0) ∧ runR (book0 no ws) l = K.A) := by
          obtain ⟨a1, a2⟩ := HF.out
          rw [List.drop_of_length_le (by omega)] at a1 a2
          exact ⟨a1, a2⟩
        obtain ⟨p, c0, hql, hLs⟩ := hL.shop
        have f0 := hB2.c0
        have f1 := hB2.c1
        have fl := hB2.loose
        have fz := hB2.lt
        have HSh : Hid (∀ u v : Value, ∃ O, ShopIn O ((wr.setCell ⟨fb, 0, none⟩ u).setCell ⟨fb, 1, none⟩ v) p K.A ∧ ∀ k, O k → w.heap.size ≤ k) := by
          intro u v
          obtain ⟨O, h1, h2⟩ := hLs.inn
          exact ⟨O, h1.save (O' := fun b => b = fb) (Save.setCell (O := fun b => b = fb) (Save.setCell (O := fun b => b = fb) (Save.refl _ _) (p := ⟨fb, 0, none⟩) (fun _ => rfl) _) (p := ⟨fb, 1, none⟩) (fun _ => rfl) _) (fun k hk e => (h2 k hk).2 e), fun k hk => (h2 k hk).1⟩
        have hb9 := hL.below
        clear hL hLs hB2
        go_wp2_with fail
        refine bodyPost_ret (v := .tuple #[.pointer (some ⟨p, 0, none⟩), .agg #[.int .i64 0, .int .i64 0]]) (by simp [results, Try.results16, go_sem, f0, f1]) rfl ⟨repIs_all HOk.out HF2.out.1 ?_, (hb9.setCell (p := ⟨fb, 0, none⟩) hfb _).setCell (p := ⟨fb, 1, none⟩) hfb _⟩
        obtain ⟨O, h1, h2⟩ := HSh.out (.int .i64 0) (.int .i64 0)
        exact ⟨p, O, rfl, by rw [HF2.out.2]; exact h1, h2⟩
  · rw [if_neg hok] at hN
    subst hN
    have HOk : Hid (newOk no ws = false) := by show _ = _; simpa using hok
    have f0 := hB1.c0
    have f1 := hB1.c1
    have fl := hB1.loose
    have fz := hB1.lt
    clear hok hB hB1
    go_wp2_with fail
    exact bodyPost_ret (v := .tuple #[.pointer none, .agg #[.int .i64 1, .int .i64 (-1)]]) (by simp [results, Try.results16, go_sem, f0, f1]) rfl ⟨repIs_nil HOk.out rfl, (hw1.setCell (p := ⟨fb, 0, none⟩) hfb _).setCell (p := ⟨fb, 1, none⟩) hfb _⟩

end Go.Proofs.Ytbgnajcmhmpjlab
