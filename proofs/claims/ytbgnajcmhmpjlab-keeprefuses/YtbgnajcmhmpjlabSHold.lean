/- The contract of a shop's Hold. -/
import Derived.Test.YtbgnajcmhmpjlabSAdd
namespace Go.Proofs.Ytbgnajcmhmpjlab
open Go.RowKit

theorem ovB_none {es : List (Int × Bool)} {x : Int} (h : ovB es x = false) : over es x = none := by
  unfold ovB at h
  cases e : over es x with
  | none => rfl
  | some b => rw [e] at h; simp at h
theorem chkS_zero {no : Int} {es : List (Int × Bool)} {deal c d : Int} (h : chkS no es deal c d = 0) : 0 ≤ deal ∧ deal < 8 ∧ wnt c d = 0 ∧ shp c = no ∧ over es deal = none := by
  unfold chkS at h
  split at h
  · omega
  · split at h
    · omega
    · split at h
      · split at h
        · split at h
          · omega
          · rename_i e
            exact ⟨by omega, by omega, by assumption, by assumption, ovB_none (by simpa using e)⟩
        · omega
      · rename_i e
        exact absurd h e
theorem holdR_bad {A : Bk} {deal c d : Int} (h : chkS A.no A.es deal c d ≠ 0) : holdR A deal c d = (chkS A.no A.es deal c d, A) := by
  unfold chkS at h ⊢
  unfold holdR
  by_cases h1 : deal < 0
  · rw [if_pos h1, if_pos h1]
  · rw [if_neg h1, if_neg h1]
    rw [if_neg h1] at h
    by_cases h2 : 8 ≤ deal
    · rw [if_pos h2, if_pos h2]
    · rw [if_neg h2, if_neg h2]
      rw [if_neg h2] at h
      by_cases h3 : wnt c d = 0
      · rw [if_pos h3, if_pos h3]
        rw [if_pos h3] at h
        by_cases h4 : shp c = A.no
        · rw [if_pos h4, if_pos h4]
          rw [if_pos h4] at h
          cases h5 : over A.es deal with
          | none => exact absurd (by simp [ovB, h5]) h
          | some b => simp [ovB, h5]
        · rw [if_neg h4, if_neg h4]
      · rw [if_neg h3, if_neg h3]
theorem holdR_ok {A : Bk} {deal c d : Int} (h : chkS A.no A.es deal c d = 0) : holdR A deal c d = (match A.hs.find? (same deal c) with
      | some h => if h.2.2 = d then (0, A) else (9, A)
      | none => if hC (A.val (c % 2).toNat) (outs A.hs c) (inns A.hs c) d = 0 then (0, { A with hs := A.hs ++ [(deal, c, d)] }) else (hC (A.val (c % 2).toNat) (outs A.hs c) (inns A.hs c) d, A)) := by
  obtain ⟨h1, h2, h3, h4, h5⟩ := chkS_zero h
  unfold holdR
  rw [if_neg (by omega), if_neg (by omega), if_pos h3, if_pos h4, h5]
  all_goals rfl
theorem holdR_none {A : Bk} {deal d : Int} {m : Nat} (hm : m < 2) (h : chkS A.no A.es deal (A.no * 2 + m) d = 0) (hf : A.hs.find? (same deal (A.no * 2 + m)) = none) : holdR A deal (A.no * 2 + m) d = (hC (A.val m) (A.out m) (A.inn m) d, addB A (hC (A.val m) (A.out m) (A.inn m) d) deal (A.no * 2 + m) d) := by
  rw [holdR_ok h, hf]
  have e : ((A.no * 2 + (m : Int)) % 2).toNat = m := by omega
  rw [e]
  unfold addB
  show (if hC (A.val m) (A.out m) (A.inn m) d = 0 then _ else _) = _
  by_cases e1 : hC (A.val m) (A.out m) (A.inn m) d = 0
  · rw [if_pos e1, if_pos e1, e1]
  · rw [if_neg e1, if_neg e1]
    rfl
theorem holdR_some {A : Bk} {deal c d : Int} {x : H3} (h : chkS A.no A.es deal c d = 0) (hf : A.hs.find? (same deal c) = some x) : holdR A deal c d = (if x.2.2 = d then 0 else 9, A) := by
  rw [holdR_ok h, hf]
  show (if x.2.2 = d then _ else _) = _
  by_cases e : x.2.2 = d
  · rw [if_pos e, if_pos e]
  · rw [if_neg e, if_neg e]
theorem find_none {q : H3 → Bool} {l : List H3} (h : ∀ x ∈ l, q x = false) : l.find? q = none := by
  rw [List.find?_eq_none]
  intro x hx e
  rw [h x hx] at e
  exact absurd e (by decide)
theorem find_at {q : H3 → Bool} {l : List H3} {k : Nat} {x : H3} (h : l[k]? = some x) (hq : q x = true) (ha : ∀ y ∈ l.take k, q y = false) : l.find? q = some x := by
  have e : l = l.take k ++ x :: l.drop (k + 1) := by rw [← drop_cons h, List.take_append_drop]
  rw [e, List.find?_append, find_none ha, List.find?_cons, hq]
  rfl

set_option maxHeartbeats 4000000 in
set_option maxRecDepth 100000 in
theorem shold_any (O : Nat → Prop) (A : Bk) (p : Nat) (deal c d : Int) (w : World) (h : ShopIn O w p A) (n0 : 0 ≤ A.no) (n3 : A.no < 3) (hlen : A.hs.length < 2 ^ 40) :
    Calls Try.prog 91 #[.pointer (some ⟨p, 0, none⟩), .int .i64 deal, .agg #[.int .i64 c, .int .i64 d]] w fun e w' => e = .returned (.int .i64 (holdR A deal c d).1) ∧ ∃ O', ShopIn O' w' p (holdR A deal c d).2 ∧ Save O w w' ∧ Moved O O' w := by
  have HI : Hid (ShopIn O w p A) := h
  obtain ⟨hv, hR, hrow, _⟩ := h.raw
  obtain ⟨ga, cap, rfl, hA, _⟩ := holds_of_own hrow
  clear hrow
  have hlt := hR.lt
  have hne : p ≠ w.heap.size := by omega
  have hne1 : p ≠ w.heap.size + 1 := by omega
  clear h
  go_enter Try.func91, Try.ntmps91
  go_wp2_with fail
  obtain ⟨hD, hW, hb0⟩ := pair_new w [.int .i64 deal] [.int .i64 c, .int .i64 d] 3 69
  generalize (w.alloc (.cells #[.int .i64 deal] 3)).alloc (.cells #[.int .i64 c, .int .i64 d] 69) = W0 at hD hW hb0 ⊢
  have hR0 := hR.next hb0
  refine (scheck_any p A.no A.es deal c d W0 hR0.lt hR0.no hR0.ov).mono ?_
  rintro e w1 ⟨rfl, hb1⟩
  have hD1 := hD.next hb1
  have hW1 := hW.next hb1
  have hb2 : Below w.heap.size w w1 := after hb0 hb1 hb0.size
  generalize w.heap.size + 1 = bw at hW1 hne1 ⊢
  have hR1 := hR.next hb2
  have hA1 := hA.below hb2 (Nat.le_refl _)
  clear hD hW hb0 hR0 hb1 hR hA
  by_cases hc : chkS A.no A.es deal c d = 0
  · have hc' : (chkS A.no A.es deal c d != 0) = false := by simp [hc]
    have HC : Hid _ := hc
    clear hc
    have x0 := hD1.2 0 _ rfl
    have y0 := hW1.2 0 _ rfl
    have y1 := hW1.2 1 _ rfl
    have g0 := hR1.hv
    have hp1 := hR1.lt
    go_upto_region 5 with fail
    have hX2 := BoxAt.new w1 [.int .i64 deal, .int .i64 c, .int .i64 d] 92
    have hb3 : Below w1.heap.size w1 (w1.alloc (.cells #[.int .i64 deal, .int .i64 c, .int .i64 d] 92)) := (Below.refl _ _).alloc (Nat.le_refl _) _
    generalize (w1.alloc (.cells #[.int .i64 deal, .int .i64 c, .int .i64 d] 92)) = W2 at hX2 hb3 ⊢
    have hR2 := hR1.next hb3
    have hD2 := hD1.next hb3
    have hW2 := hW1.next hb3
    have hA2 := hA1.below hb3 (Nat.le_refl _)
    have hb4 : Below w.heap.size w W2 := after hb2 hb3 hb2.size
    generalize w1.heap.size = bx at hX2 ⊢
    clear hR1 hD1 hW1 hA1 hb2 hb3 x0 y0 y1 g0 hp1
    have g0 := hR2.hv
    go_wp2_with fail
    refine (idx_any (holdPred deal c d w.heap.size bw) ga A.hs.length cap A.hs W2 hA2 rfl (by omega) ⟨hD2, hW2⟩).mono ?_
    rintro e w3 ⟨⟨r, rfl, hr⟩, hb5⟩
    have hb6 : Below w.heap.size w w3 := after hb4 hb5 hb4.size
    have hX3 := hX2.next hb5
    have hR3 := hR2.next hb5
    have hA3 := hA2.below hb5 (Nat.le_refl _)
    have HI3 : Hid (ShopIn O w3 p A) := HI.out.next hb6
    clear hX2 hR2 hA2 hD2 hW2 hb4 hb5 g0 HI
    have x0 := hX3.2 0 _ rfl
    have x1 := hX3.2 1 _ rfl
    have x2 := hX3.2 2 _ rfl
    rcases hr with ⟨rfl, hall⟩ | ⟨k, ⟨a', c', d'⟩, rfl, hk, hq, hall⟩
    · have HF : Hid _ := find_none hall
      obtain ⟨_, _, hw0, hs0, _⟩ := chkS_zero HC.out
      obtain ⟨q1, q2, _⟩ := wnt_ok hw0
      obtain ⟨q3, q4, q5⟩ := shp_place q1 q2 hs0
      obtain ⟨m, hm⟩ := Int.eq_ofNat_of_zero_le q4
      have hm2 : m < 2 := by omega
      rw [hm] at q3
      have HM : Hid (c = A.no * 2 + (m : Int)) := q3
      clear hw0 hs0 q1 q2 q3 q4 q5 hm hall
      go_wp2_with fail
      rw [HM.out]
      refine (add_any O A p deal d m hm2 w3 HI3.out n0 n3 hlen).mono ?_
      rintro e w4 ⟨rfl, O', hI4, hS4, hM4⟩
      go_wp2_with fail
      go_ret
      have e1 := holdR_none (A := A) (deal := deal) (d := d) hm2 (by rw [← HM.out]; exact HC.out) (by rw [← HM.out]; exact HF.out)
      rw [HM.out, e1]
      exact ⟨rfl, O', hI4, (Save.of_below hb6).trans hS4 (fun _ _ h => h), fun k hk => (hM4 k hk).imp_right (fun h => Nat.le_trans hb6.size h)⟩
    · have HF : Hid _ := find_at hk hq hall
      obtain ⟨bl, ol, rfl, hbl, p0, p1, p2⟩ := hA3 k a' c' d' hk
      obtain ⟨rfl, rfl⟩ : a' = deal ∧ c' = c := by simpa [same] using hq
      have hkl := (List.getElem?_eq_some_iff.1 hk).1
      have jd : decide ((k : Int) < 0) = false := decide_eq_false (by omega)
      have g0 := hR3.hv
      clear hA3 hq hall hk
      by_cases he : d' = d
      · subst he
        go_upto_region 8 with fail
        clear jd
        have j1 : (0 : Int) ≤ (k : Int) := by omega
        have j2 : (k : Int) < (A.hs.length : Int) := by omega
        have j3 : (A.hs.length : Int) < 2 ^ 40 := by omega
        go_quiet (fail)
        go_wp2_with fail
        go_ret
        have e1 := holdR_some HC.out HF.out
        rw [e1]
        exact ⟨by simp, O, (HI3.out.next (bdrewN (Below.refl _ _) _)), .of_below (bdrewN hb6 _), .refl _ _⟩
      · have he' : (d' == d) = false := by simpa using he
        have HE : Hid _ := he
        clear he
        go_upto_region 8 with fail
        clear jd
        have j1 : (0 : Int) ≤ (k : Int) := by omega
        have j2 : (k : Int) < (A.hs.length : Int) := by omega
        have j3 : (A.hs.length : Int) < 2 ^ 40 := by omega
        go_quiet (fail)
        go_wp2_with fail
        go_ret
        have e1 := holdR_some HC.out HF.out
        rw [e1]
        exact ⟨by rw [if_neg HE.out]; rfl, O, (HI3.out.next (bdrewN (Below.refl _ _) _)), .of_below (bdrewN hb6 _), .refl _ _⟩
  · have hc' : (chkS A.no A.es deal c d != 0) = true := by simpa using hc
    have HC : Hid _ := hc
    clear hc
    go_wp2_with fail
    go_ret
    exact ⟨by rw [holdR_bad HC.out]; rfl, O, by rw [holdR_bad HC.out]; exact HI.out.next hb2, .of_below hb2, .refl _ _⟩

end Go.Proofs.Ytbgnajcmhmpjlab
