/- The contract of a shop's End. -/
import Derived.Test.YtbgnajcmhmpjlabSHold
namespace Go.Proofs.Ytbgnajcmhmpjlab
open Go.RowKit

/-- The book when k holds were looked at. -/
def bookK (A : Bk) (deal : Int) (done : Bool) (k : Nat) : Bk := { A with v0 := A.v0 + gain deal done (A.hs.take k) (A.no * 2), v1 := A.v1 + gain deal done (A.hs.take k) (A.no * 2 + 1), hs := left deal A.hs k }
theorem bookK_zero (A : Bk) (deal : Int) (done : Bool) : bookK A deal done 0 = A := by
  unfold bookK
  rw [left_zero]
  simp [gain]
theorem bookK_val (A : Bk) (deal : Int) (done : Bool) (k m : Nat) (hm : m < 2) : (bookK A deal done k).val m = A.val m + gain deal done (A.hs.take k) (A.no * 2 + m) := by
  have : m = 0 ∨ m = 1 := by omega
  rcases this with rfl | rfl
  · show A.v0 + _ = A.v0 + _; congr 2; omega
  · rfl
theorem bookK_skip {A : Bk} {deal : Int} {done : Bool} {k : Nat} {x : H3} (h : A.hs[k]? = some x) (hx : x.1 ≠ deal) : bookK A deal done (k + 1) = bookK A deal done k := by
  unfold bookK
  rw [gain_snoc h, gain_snoc h, left_other h hx]
  have e : ∀ c, gainOf deal done x c = 0 := fun c => by unfold gainOf; rw [if_neg (fun q => hx q.1)]
  rw [e, e, Int.add_zero, Int.add_zero]
/-- All counters of a book may be. -/
def AllOk (A : Bk) : Prop := ∀ m : Nat, m < 2 → chk (A.val m) (A.out m) (A.inn m) = 0
theorem bookK_own {A : Bk} {deal : Int} {done : Bool} {k m : Nat} {d : Int} (hm : m < 2) (h : A.hs[k]? = some (deal, A.no * 2 + m, d)) (hc : AllOk (bookK A deal done k)) (hd : dlt d = 0) :
    EndIs ((bookK A deal done k).val m) ((bookK A deal done k).out m) ((bookK A deal done k).inn m) d done ((bookK A deal done (k + 1)).val m) ((bookK A deal done (k + 1)).out m) ((bookK A deal done (k + 1)).inn m) 0 ∧ AllOk (bookK A deal done (k + 1))
    ∧ ∀ j, j < 6 → upd3 (cnt6 (bookK A deal done k)) m ((bookK A deal done (k + 1)).val m) ((bookK A deal done (k + 1)).out m) ((bookK A deal done (k + 1)).inn m) j = cnt6 (bookK A deal done (k + 1)) j := by
  have lo : ∀ c, _ := fun c => left_own (deal := deal) h rfl c
  have eo : ∀ m' : Nat, (bookK A deal done k).out m' = (bookK A deal done (k + 1)).out m' + outOf (deal, A.no * 2 + (m : Int), d) (A.no * 2 + m') := fun m' => (lo _).1
  have ei : ∀ m' : Nat, (bookK A deal done k).inn m' = (bookK A deal done (k + 1)).inn m' + innOf (deal, A.no * 2 + (m : Int), d) (A.no * 2 + m') := fun m' => (lo _).2
  have ev : ∀ m' : Nat, m' < 2 → (bookK A deal done (k + 1)).val m' = (bookK A deal done k).val m' + gainOf deal done (deal, A.no * 2 + (m : Int), d) (A.no * 2 + m') := fun m' hm' => by
    rw [bookK_val _ _ _ _ _ hm', bookK_val _ _ _ _ _ hm', gain_snoc h]; omega
  have g1 : gainOf deal done (deal, A.no * 2 + (m : Int), d) (A.no * 2 + m) = if done = true then d else 0 := by unfold gainOf; cases done <;> simp
  have o1 : outOf (deal, A.no * 2 + (m : Int), d) (A.no * 2 + m) = if d < 0 then -d else 0 := by simp [outOf]
  have i1 : innOf (deal, A.no * 2 + (m : Int), d) (A.no * 2 + m) = if d < 0 then 0 else d := by simp [innOf]
  have oo : 0 ≤ (bookK A deal done (k + 1)).out m := outs_nonneg _ _
  have ii : 0 ≤ (bookK A deal done (k + 1)).inn m := inns_nonneg _ _
  obtain ⟨r1, r2⟩ := end_one (o' := (bookK A deal done (k + 1)).out m) (i' := (bookK A deal done (k + 1)).inn m) done (hc m hm) hd (by rw [eo m, o1]) (by rw [ei m, i1]) oo ii
  have ev' : (bookK A deal done (k + 1)).val m = (bookK A deal done k).val m + if done = true then d else 0 := by rw [ev m hm, g1]
  rw [← ev'] at r1 r2
  have other : ∀ m', m' < 2 → m' ≠ m → (bookK A deal done (k + 1)).val m' = (bookK A deal done k).val m' ∧ (bookK A deal done (k + 1)).out m' = (bookK A deal done k).out m' ∧ (bookK A deal done (k + 1)).inn m' = (bookK A deal done k).inn m' := by
    intro m' hm' hne
    have q : ¬ (A.no * 2 + (m : Int) = A.no * 2 + (m' : Int)) := by omega
    refine ⟨?_, ?_, ?_⟩
    · rw [ev m' hm']; unfold gainOf; rw [if_neg (fun h => q h.2.1)]; omega
    · rw [eo m']; unfold outOf; rw [if_neg q]; omega
    · rw [ei m']; unfold innOf; rw [if_neg q]; omega
  refine ⟨r1, ?_, cnt6_of _ _ m hm _ _ _ rfl rfl rfl other⟩
  intro m' hm'
  by_cases e : m' = m
  · subst e; exact r2
  · obtain ⟨a, b, c⟩ := other m' hm' e
    rw [a, b, c]; exact hc m' hm'
theorem bookK_all (A : Bk) (deal : Int) (done : Bool) : endA A deal done = { bookK A deal done A.hs.length with es := A.es ++ [(deal, done)] } := by
  unfold endA bookK
  rw [left_all _ _ _ (Nat.le_refl _), List.take_of_length_le (Nat.le_refl _)]
theorem endR_range {A : Bk} {deal : Int} {done : Bool} (h : deal < 0 ∨ 8 ≤ deal) : endR A deal done = (1, A) := by
  unfold endR
  by_cases h1 : deal < 0
  · rw [if_pos h1]
  · rw [if_neg h1, if_pos (by omega)]
theorem endR_over {A : Bk} {deal : Int} {done b : Bool} (h0 : 0 ≤ deal) (h8 : deal < 8) (h : over A.es deal = some b) : endR A deal done = (if b = done then 0 else 9, A) := by
  unfold endR
  rw [if_neg (by omega), if_neg (by omega), h]
  show (if b = done then _ else _) = _
  by_cases e : b = done
  · rw [if_pos e, if_pos e]
  · rw [if_neg e, if_neg e]
theorem endR_new {A : Bk} {deal : Int} {done : Bool} (h0 : 0 ≤ deal) (h8 : deal < 8) (h : over A.es deal = none) : endR A deal done = (0, endA A deal done) := by
  unfold endR
  rw [if_neg (by omega), if_neg (by omega), h]
theorem ovB_snoc (es : List (Int × Bool)) (n : Nat) (b : Bool) (h : over es n = none) : ∀ d : Nat, updB (fun d => ovB es d) n true d = ovB (es ++ [((n : Int), b)]) d ∧ updB (fun d => dnB es d) n b d = dnB (es ++ [((n : Int), b)]) d := by
  intro d
  unfold updB ovB dnB
  rw [over_append]
  by_cases e : d = n
  · subst e
    rw [if_pos rfl, if_pos rfl, h]
    simp [over]
  · rw [if_neg e, if_neg e]
    have q : ¬ ((n : Int) = (d : Int)) := by omega
    cases hh : over es (d : Int) with
    | none => simp [over, q, hh]
    | some b' => cases b' <;> simp [hh]

theorem box_pair {W : World} {H : Nat} {x y : Value} (hl : H < W.heap.size) (h0 : W.cell? ⟨H, 0, none⟩ = some x) (h1 : W.cell? ⟨H, 1, none⟩ = some y) : BoxAt W H [x, y] := by
  refine ⟨hl, fun j u hj => ?_⟩
  match j, hj with
  | 0, hj => simp at hj; subst hj; exact h0
  | 1, hj => simp at hj; subst hj; exact h1
  | j + 2, hj => simp at hj

set_option maxHeartbeats 4000000 in
set_option maxRecDepth 100000 in
theorem send_any (O : Nat → Prop) (A : Bk) (p : Nat) (deal : Int) (done : Bool) (w : World) (h : ShopIn O w p A) (hG : Good A) (hlen : A.hs.length < 2 ^ 40) :
    Calls Try.prog 92 #[.pointer (some ⟨p, 0, none⟩), .int .i64 deal, .bool done] w fun e w' => e = .returned (.int .i64 (endR A deal done).1) ∧ ∃ O', ShopIn O' w' p (endR A deal done).2 ∧ Save O w w' ∧ Moved O O' w := by
  have HI : Hid (ShopIn O w p A) := h
  by_cases hr : deal < 0 ∨ 8 ≤ deal
  · rw [endR_range hr]
    clear h
    go_enter Try.func92, Try.ntmps92
    go_wp2_with fail
    refine (isDeal_no _ _ hr).mono ?_
    rintro e w1 ⟨rfl, rfl⟩
    go_wp2_with fail
    go_ret
    have hb : Below w.heap.size w (w.alloc (.cells #[.int .i64 deal] 3)) := (Below.refl _ _).alloc (Nat.le_refl _) _
    exact ⟨rfl, O, HI.out.next hb, .of_below hb, .refl _ _⟩
  · have d0 : 0 ≤ deal := by omega
    have d8 : deal < 8 := by omega
    obtain ⟨n, rfl⟩ := Int.eq_ofNat_of_zero_le d0
    have hn : n < 8 := by omega
    obtain ⟨hv, hR, hrow, hsub⟩ := h.raw
    have HRow : Hid (w.ownsRow (p + 1) 92 3 hv A.hs.length (flat3 A.hs)) := hrow
    have HSub : Hid (∀ k, hv.ownBlock = some k → O k) := hsub
    have HMine : Hid (O p) := h.mine
    have hlt := hR.lt
    have hne : p ≠ w.heap.size := by omega
    clear hr h hrow hsub
    cases ho : over A.es (n : Int) with
    | some b =>
      have HO : Hid _ := ho
      have o1 := hR.ov n hn
      have o2 := hR.dn n hn
      simp only [ovB, dnB, ho, Option.isSome_some] at o1 o2
      have hbb : (some b == some true) = b := by cases b <;> rfl
      rw [hbb] at o2
      clear ho hR hbb
      go_enter Try.func92, Try.ntmps92
      go_wp2_with fail
      refine (isDeal_yes _ _ d0 d8).mono ?_
      rintro e w1 ⟨rfl, rfl⟩
      have hD := BoxAt.new w [.int .i64 (n : Int)] 3
      have hb1 : Below w.heap.size w (w.alloc (.cells #[.int .i64 (n : Int)] 3)) := (Below.refl _ _).alloc (Nat.le_refl _) _
      generalize (w.alloc (.cells #[.int .i64 (n : Int)] 3)) = W1 at hD hb1 ⊢
      have o3 := (hb1.cell (p := ⟨p, 8 + n * 2, none⟩) hlt).trans o1
      have o4 := (hb1.cell (p := ⟨p, 8 + n * 2 + 1, none⟩) hlt).trans o2
      have x0 := hD.2 0 _ rfl
      have hlt1 : p < W1.heap.size := Nat.lt_of_lt_of_le hlt hb1.size
      have hd1 := hD.1
      clear o1 o2
      go_upto_region 3 with fail
      go_cut [7] (fun s7 wx => ∃ nb, s7 = .pointer (some ⟨nb, 0, none⟩) ∧ BoxAt wx nb [.bool true, .bool b] ∧ Below W1.heap.size W1 wx)
      case first =>
        go_region
        all_goals
          go_wp2_with fail
          go_meet
          case rel =>
            refine ⟨_, rfl, box_pair ?_ ?_ ?_, by go_grown⟩
            all_goals simp [go_sem]
      case rest =>
        obtain ⟨nb, rfl, hX, hb2⟩ := hcut
        have x0 := hX.2 0 _ rfl
        have x1 := hX.2 1 _ rfl
        have hb3 : Below w.heap.size w wc := after hb1 hb2 hb1.size
        clear hX hb2 o3 o4
        by_cases e : b = done
        · subst e
          have e' : (b != b) = false := by simp
          go_wp2_with fail
          go_ret
          rw [endR_over d0 d8 HO.out]
          exact ⟨by simp, O, HI.out.next hb3, .of_below hb3, .refl _ _⟩
        · have e' : (b == done) = false := by simpa using e
          have HE : Hid _ := e
          clear e
          go_wp2_with fail
          go_ret
          rw [endR_over d0 d8 HO.out]
          exact ⟨by rw [if_neg HE.out]; rfl, O, HI.out.next hb3, .of_below hb3, .refl _ _⟩
    | none =>
      rw [endR_new d0 d8 ho]
      have o1 := hR.ov n hn
      have o2 := hR.dn n hn
      simp only [ovB, dnB, ho, Option.isSome_none] at o1 o2
      have hbb : ((none : Option Bool) == some true) = false := rfl
      rw [hbb] at o2
      have HO : Hid _ := ho
      clear ho hbb
      go_enter Try.func92, Try.ntmps92
      go_wp2_with fail
      refine (isDeal_yes _ _ d0 d8).mono ?_
      rintro e w1 ⟨rfl, rfl⟩
      have hD := BoxAt.new w [.int .i64 (n : Int)] 3
      have hb1 : Below w.heap.size w (w.alloc (.cells #[.int .i64 (n : Int)] 3)) := (Below.refl _ _).alloc (Nat.le_refl _) _
      generalize (w.alloc (.cells #[.int .i64 (n : Int)] 3)) = W1 at hD hb1 ⊢
      have o3 := (hb1.cell (p := ⟨p, 8 + n * 2, none⟩) hlt).trans o1
      have o4 := (hb1.cell (p := ⟨p, 8 + n * 2 + 1, none⟩) hlt).trans o2
      have x0 := hD.2 0 _ rfl
      have hlt1 : p < W1.heap.size := Nat.lt_of_lt_of_le hlt hb1.size
      have hd1 := hD.1
      clear o1 o2
      go_upto_region 3 with fail
      go_cut [7] (fun s7 wx => ∃ nb, s7 = .pointer (some ⟨nb, 0, none⟩) ∧ BoxAt wx nb [.bool false, .bool false] ∧ Below W1.heap.size W1 wx)
      case first =>
        go_region
        all_goals
          go_wp2_with fail
          go_meet
          case rel =>
            refine ⟨_, rfl, box_pair ?_ ?_ ?_, by go_grown⟩
            all_goals simp [go_sem]
      case rest =>
        obtain ⟨nb, rfl, hX, hb2⟩ := hcut
        have y0 := hX.2 0 _ rfl
        have y1 := hX.2 1 _ rfl
        have hb3 : Below w.heap.size w wc := after hb1 hb2 hb1.size
        have hD2 := hD.next hb2
        have hR2 := hR.next hb3
        obtain ⟨ga, cap, rfl, hA, _⟩ := holds_of_own HRow.out
        have g0 := hR2.hv
        clear hX hb2 o3 o4 hD hR x0 hb1 hd1 hlt1
        have HOwn : Hid (∀ k, O k → k < w.heap.size) := HI.out.own
        have HNB : Hid ((Value.slice ga A.hs.length cap).ownBlock ≠ some p) := fun e => by have := (HRow.out.lt p e).1; omega
        have hl40 : (A.hs.length : Int) < 2 ^ 40 := by omega
        go_wp2_with fail
        go_loopg [10, 11, 33] A.hs.length (fun g _ _ s33 wr => ∃ k : Nat, k ≤ A.hs.length ∧ g = A.hs.length - k ∧ s33 = .int .i64 k ∧ ShopRaw wr p A.no (cnt6 (bookK A n done k)) (.slice ga A.hs.length cap) (fun d => ovB A.es d) (fun d => dnB A.es d) ∧ Hid (AllOk (bookK A n done k)) ∧ BoxAt wr w.heap.size [.int .i64 (n : Int)] ∧ Hid (Save (fun j => j = p) w wr))
        case atStart =>
          refine ⟨0, Nat.zero_le _, rfl, rfl, ?_, ?_, hD2, .of_below hb3⟩
          · rw [bookK_zero]; exact hR2
          · show AllOk _
            rw [bookK_zero]; exact hG.cnt
        case round =>
          obtain ⟨k, hk, rfl, rfl, hR3, HOk, hD3, HS⟩ := hrel
          clear hR2 hD2 hb3 y0 y1 g0
          have hp3 := hR3.lt
          have hd3 := hD3.1
          have hz3 := HS.out.size
          by_cases hkl : k < A.hs.length
          · obtain ⟨⟨a, c, d⟩, hkx⟩ : ∃ x, A.hs[k]? = some x := ⟨_, List.getElem?_eq_getElem (by omega)⟩
            obtain ⟨bl, ol, rfl, hbl, h0, h1, h2⟩ := hA k a c d hkx
            have HNL : Hid (bl ≠ p) := fun e => HNB.out (by rw [← e]; rfl)
            have p0 : wr.cell? ⟨bl, ol + k * 3, none⟩ = some (.int .i64 a) := (HS.out.cell (p := ⟨bl, _, none⟩) hbl HNL.out).trans h0
            have p1 : wr.cell? ⟨bl, ol + k * 3 + 1, none⟩ = some (.int .i64 c) := (HS.out.cell (p := ⟨bl, _, none⟩) hbl HNL.out).trans h1
            have p2 : wr.cell? ⟨bl, ol + k * 3 + 2, none⟩ = some (.int .i64 d) := (HS.out.cell (p := ⟨bl, _, none⟩) hbl HNL.out).trans h2
            have j0 : (0 : Int) ≤ (k : Int) := by omega
            have j1 : (k : Int) < (A.hs.length : Int) := by omega
            have eg := (endPred (n : Int) w.heap.size).enters
            clear h0 h1 h2 hA
            have hnew : Below wr.heap.size wr (wr.alloc (.cells #[.int .i64 a, .int .i64 c, .int .i64 d] 92)) := (Below.refl _ _).alloc (Nat.le_refl _) _
            have hX4 := BoxAt.new wr [.int .i64 a, .int .i64 c, .int .i64 d] 92
            go_upto_region 12 with fail
            generalize (wr.alloc (.cells #[.int .i64 a, .int .i64 c, .int .i64 d] 92)) = W4 at hnew hX4 ⊢
            have hR4 := hR3.next hnew
            have hD4 := hD3.next hnew
            have HS4 : Hid (Save (fun j => j = p) w W4) := HS.out.next hnew
            generalize wr.heap.size = bx at hX4 ⊢
            clear hR3 hD3 HS hnew p0 p1 p2
            have x0 := hX4.2 0 _ rfl
            have x1 := hX4.2 1 _ rfl
            have x2 := hX4.2 2 _ rfl
            go_wp2_with fail
            refine Calls.mono ((endPred (n : Int) w.heap.size).says W4 a c d hD4) ?_
            rintro e w5 ⟨rfl, hb5⟩
            have hX5 := hX4.next hb5
            have hR5 := hR4.next hb5
            have hD5 := hD4.next hb5
            have HS5 : Hid (Save (fun j => j = p) w w5) := HS4.out.next hb5
            clear hX4 hR4 hD4 HS4 hb5 x0 x1 x2 hp3 hd3 hz3
            have x0 := hX5.2 0 _ rfl
            have x1 := hX5.2 1 _ rfl
            have x2 := hX5.2 2 _ rfl
            have hp5 := hR5.lt
            have hx5 := hX5.1
            by_cases he : a = (n : Int)
            · have he' : (a == (n : Int)) = true := by simpa using he
              obtain ⟨_, _, hs0, hw0, _⟩ := hG.each _ (List.mem_of_getElem? hkx)
              obtain ⟨q1, q2, q6⟩ := wnt_ok hw0
              obtain ⟨q3, q4, q5⟩ := shp_place q1 q2 hs0
              obtain ⟨m, hm⟩ := Int.eq_ofNat_of_zero_le q4
              have hm2 : m < 2 := by omega
              have hcq : c = A.no * 2 + (m : Int) := by simp only at q3 hm; omega
              have hcn : c = A.no * 2 ∨ c = A.no * 2 + 1 := by omega
              have hcm : c - A.no * 2 = (m : Int) := by omega
              have hkx' : A.hs[k]? = some ((n : Int), A.no * 2 + (m : Int), d) := by rw [hkx, he, hcq]
              obtain ⟨r1, r2, r3⟩ := bookK_own (done := done) hm2 hkx' HOk.out q6
              have HR1 : Hid _ := r1
              have HR2 : Hid _ := r2
              have HR3 : Hid _ := r3
              obtain ⟨e0, e1, e2⟩ := cnt6_at (bookK A n done k) m hm2
              obtain ⟨c0, c1, c2⟩ := hR5.c3 m hm2
              rw [e0] at c0
              rw [e1] at c1
              rw [e2] at c2
              have hfr := hR5.loose
              have m0 : (0 : Int) ≤ (m : Int) := by omega
              have m2 : (m : Int) < 2 := by omega
              have HNC : Hid _ := hcn
              have HCM : Hid _ := hcm
              generalize (bookK A n done k).val m = v at c0 HR1
              generalize (bookK A n done k).out m = o at c1 HR1
              generalize (bookK A n done k).inn m = i at c2 HR1
              generalize (bookK A n done (k + 1)).val m = v' at HR1 HR3
              generalize (bookK A n done (k + 1)).out m = o' at HR1 HR3
              generalize (bookK A n done (k + 1)).inn m = i' at HR1 HR3
              clear r1 r2 r3 e0 e1 e2 hkx' he q1 q2 q3 q4 q5 q6 hs0 hw0 hm hcq hcn hcm
              go_wp2_with fail
              refine (place_any A.no c _ hG.no0 hG.no3 HNC.out).mono ?_
              rw [HCM.out]
              rintro e w6 ⟨rfl, rfl⟩
              go_upto_region 14 with fail
              have HG : Hid (Good A) := hG
              have HKL : Hid (k < A.hs.length) := hkl
              have HLEN : Hid (A.hs.length < 2 ^ 40) := hlen
              clear hG hlen hl40 d0 d8 hn j0 j1 hkl hk hbl hne hlt x0 x1 he' hkx eg HCM HNC HO
              go_region_with (first | (go_at_call 107; refine (HR1.out _).mono ?_; rintro e w9 ⟨rfl, hb9⟩; have q0 : w9.cell? ⟨p, 1 + m * 3, none⟩ = some (.int .i64 v) := ((bcell hb9).1 _ _ (by simpa using hp5)).trans (by simpa [go_sem] using c0); have q1 : w9.cell? ⟨p, 1 + m * 3 + 1, none⟩ = some (.int .i64 o) := ((bcell hb9).1 _ _ (by simpa using hp5)).trans (by simpa [go_sem] using c1); have q2 : w9.cell? ⟨p, 1 + m * 3 + 2, none⟩ = some (.int .i64 i) := ((bcell hb9).1 _ _ (by simpa using hp5)).trans (by simpa [go_sem] using c2); have q3 : ∀ k, w9.frozen? ⟨p, k, none⟩ = false := fun k => ((bcell hb9).2 _ _ (by simpa using hp5)).trans (by simpa [go_sem] using hfr k)))
              all_goals
                have hR9 := ((hR5.next ((Below.refl _ _).drew)).next hb9).set3 m hm2 v' o' i'
                have hD9 := (hD5.next ((Below.refl _ _).drew)).next hb9
                have HS9 : Hid (Save (fun j => j = p) w (((w9.setCell ⟨p, 1 + m * 3, none⟩ (.int .i64 v')).setCell ⟨p, 1 + m * 3 + 1, none⟩ (.int .i64 o')).setCell ⟨p, 1 + m * 3 + 2, none⟩ (.int .i64 i'))) := ((HS5.out.next ((Below.refl _ _).drew)).next hb9).set3 p rfl _ _ _ _ _ _
                have HNE : Hid (w.heap.size ≠ p) := by have := HI.out.own p HI.out.mine; show _ ≠ _; omega
                have HD9 : Hid (BoxAt (((w9.setCell ⟨p, 1 + m * 3, none⟩ (.int .i64 v')).setCell ⟨p, 1 + m * 3 + 1, none⟩ (.int .i64 o')).setCell ⟨p, 1 + m * 3 + 2, none⟩ (.int .i64 i')) w.heap.size [.int .i64 (n : Int)]) :=
                  ⟨by simpa using hD9.1, fun j u hj => by rw [cell_set_block HNE.out, cell_set_block HNE.out, cell_set_block HNE.out]; exact hD9.2 j u hj⟩
                clear q0 q1 q2 q3 hb9 hD9
                have j0 : (0 : Int) ≤ (k : Int) := by omega
                have j1 : (k : Int) < 2 ^ 40 := by have := HKL.out; have := HLEN.out; omega
                go_wp2_with fail
                go_roundg (A.hs.length - (k + 1))
                case measure => have := HKL.out; omega
                case rel => exact ⟨k + 1, HKL.out, rfl, by simp, hR9.congr HR3.out (fun _ _ => rfl) (fun _ _ => rfl), HR2.out, HD9.out, HS9⟩
            · have he' : (a == (n : Int)) = false := by simpa using he
              have HK : Hid _ := bookK_skip (done := done) hkx he
              clear he
              go_wp2_with fail
              go_roundg (A.hs.length - (k + 1))
              case measure => omega
              case rel => exact ⟨k + 1, by omega, rfl, by simp, by rw [HK.out]; exact hR5, by rw [HK.out]; exact HOk, hD5, HS5⟩
          · have hkk : k = A.hs.length := by omega
            subst hkk
            have hown : Hid (wr.ownsRow (p + 1) 92 3 (.slice ga A.hs.length cap) A.hs.length (flat3 A.hs)) := own_save HRow.out HS.out (fun k e h => HNB.out (by rw [← h]; exact e))
            have HDel := del_any (endPred (n : Int) w.heap.size) (.slice ga A.hs.length cap) (p + 1) A.hs wr hown.out (by omega) hD3 (fun W k o u e hB => ⟨by simpa using hB.1, fun j u' hj => by
              have hne' : w.heap.size ≠ k := by have := HOwn.out k (HSub.out k e); omega
              rw [cell_set_block hne']; exact hB.2 j u' hj⟩)
            have HDel' : Hid _ := HDel
            have eg := (endPred (n : Int) w.heap.size).enters
            have g0 := hR3.hv
            clear HDel hA
            go_upto_region 16 with fail
            go_wp2_with fail
            refine Calls.mono HDel'.out ?_
            rintro e w7 ⟨⟨hv', rfl, hown7, hsub7⟩, hS7⟩
            obtain ⟨ga', cap', rfl⟩ := own_slice hown7
            have HO7 : Hid (w7.ownsRow (p + 1) 92 3 (.slice ga' (A.hs.filter (fun h => !(h.1 == (n : Int)))).length cap') (A.hs.filter (fun h => !(h.1 == (n : Int)))).length (flat3 (A.hs.filter (fun h => !(h.1 == (n : Int)))))) := hown7
            have HS7 : Hid (Save O w w7) := (HS.out.mono (O' := O) (fun j _ e => by subst e; exact HMine.out)).trans hS7 (fun j _ e => HSub.out j e)
            have HU7 : Hid (∀ k, (Value.slice ga' (A.hs.filter (fun h => !(h.1 == (n : Int)))).length cap').ownBlock = some k → O k) := fun k e => HSub.out k (hsub7 k e)
            have hR7 := hR3.save hS7 HNB.out
            have hD7 : BoxAt w7 w.heap.size [.int .i64 (n : Int)] := ⟨Nat.lt_of_lt_of_le hd3 hS7.size, fun j u hj => (hS7.cell (p := ⟨w.heap.size, j, none⟩) hd3 (fun e => absurd (HOwn.out w.heap.size (HSub.out _ e)) (Nat.lt_irrefl _))).trans (hD3.2 j u hj)⟩
            generalize (A.hs.filter (fun h => !(h.1 == (n : Int)))).length = n7 at HU7 HO7 ⊢
            clear HDel' hS7 hsub7 hown7 hR3 hD3 g0 hp3 hd3 hz3
            have g7 := hR7.hv
            have f7 := hR7.loose
            have x7 := hD7.2 0 _ rfl
            have l7 := hR7.lt
            have HOd : Hid (w.heap.size ≠ p) := by have := HOwn.out p HMine.out; show _ ≠ _; omega
            go_upto_region 17 with fail
            have hR8 := hR7.setH (.slice ga' n7 cap')
            have hD8 : BoxAt (w7.setCell ⟨p, 7, none⟩ (.slice ga' n7 cap')) w.heap.size [.int .i64 (n : Int)] := ⟨by simpa using hD7.1, fun j u hj => by rw [cell_set_block HOd.out]; exact hD7.2 j u hj⟩
            have HO8 : Hid ((w7.setCell ⟨p, 7, none⟩ (.slice ga' n7 cap')).ownsRow (p + 1) 92 3 (.slice ga' n7 cap') n7 (flat3 (A.hs.filter (fun h => !(h.1 == (n : Int)))))) := ownsRow_setCell_below HO7.out (Nat.lt_succ_self p) _
            have HS8 : Hid (Save O w (w7.setCell ⟨p, 7, none⟩ (.slice ga' n7 cap'))) := HS7.out.setCell (p := ⟨p, 7, none⟩) (fun _ => HMine.out) _
            generalize w7.setCell ⟨p, 7, none⟩ (.slice ga' n7 cap') = W8 at hR8 hD8 HO8 HS8 ⊢
            clear hR7 hD7 HO7 HS7 g7 f7 x7 l7
            have o8 := hR8.ov n hn
            have p8 := hR8.dn n hn
            have f8 := hR8.loose
            have x8 := hD8.2 0 _ rfl
            have l8 := hR8.lt
            have m8 := hD8.1
            have n0 : (0 : Int) ≤ (n : Int) := by omega
            have n8 : (n : Int) < 8 := by omega
            go_region
            have hR9 := (hR8.setE n hn true done).next ((Below.refl _ _).drew)
            have hO9 : ((W8.setCell ⟨p, 8 + n * 2, none⟩ (.bool true)).setCell ⟨p, 8 + n * 2 + 1, none⟩ (.bool done)).drew.ownsRow (p + 1) 92 3 (.slice ga' n7 cap') n7 (flat3 (A.hs.filter (fun h => !(h.1 == (n : Int))))) := own_next (ownsRow_setCell_below (ownsRow_setCell_below HO8.out (Nat.lt_succ_self p) _) (Nat.lt_succ_self p) _) ((Below.refl _ _).drew)
            have hS9 : Save O w ((W8.setCell ⟨p, 8 + n * 2, none⟩ (.bool true)).setCell ⟨p, 8 + n * 2 + 1, none⟩ (.bool done)).drew := ((HS8.out.setCell (p := ⟨p, 8 + n * 2, none⟩) (fun _ => HMine.out) _).setCell (p := ⟨p, 8 + n * 2 + 1, none⟩) (fun _ => HMine.out) _).next ((Below.refl _ _).drew)
            have HR9 : Hid _ := hR9
            have HO9 : Hid (((W8.setCell ⟨p, 8 + n * 2, none⟩ (.bool true)).setCell ⟨p, 8 + n * 2 + 1, none⟩ (.bool done)).drew.ownsRow (p + 1) 92 3 (.slice ga' n7 cap') n7 (flat3 (A.hs.filter (fun h => !(h.1 == (n : Int)))))) := hO9
            have HS9 : Hid _ := hS9
            clear hR9 hO9 hS9 o8 p8 f8 x8 hR8 hD8 HO8 HS8
            go_wp2_with fail
            go_ret
            have hn7 : (endA A (n : Int) done).hs.length = n7 := by
              have := HO9.out.1
              rw [flat3_length] at this
              have e : (endA A (n : Int) done).hs = A.hs.filter (fun h => !(h.1 == (n : Int))) := rfl
              rw [e]; omega
            refine ⟨rfl, O, ⟨fun k hk => Nat.lt_of_lt_of_le (HOwn.out k hk) HS9.out.size, HMine.out, .slice ga' n7 cap', ?_, ?_, HU7.out⟩, HS9.out, .refl _ _⟩
            · refine HR9.out.congr (fun j hj => ?_) (fun d hd => (ovB_snoc A.es n done HO.out d).1) (fun d hd => (ovB_snoc A.es n done HO.out d).2)
              rw [bookK_all]
              rfl
            · rw [hn7]
              exact HO9.out

end Go.Proofs.Ytbgnajcmhmpjlab
