/- The contract of the booth's End. -/
import Derived.Test.YtbgnajcmhmpjlabBHold
import Derived.BigRegion
namespace Go.Proofs.Ytbgnajcmhmpjlab
open Go.RowKit

theorem infoNum : (Try.prog.info? 3).map (fun i => (i.zero, i.size, i.bytes)) = some (some (.int .i64 0), 1, 8) := by kernel_rfl
/-- What is held still, when k holds were looked at. -/
def kept (deal : Int) (l : List H3) (k : Nat) : List H3 := (l.take k).filter (fun h => h.1 != deal)
theorem kept_other {deal : Int} {l : List H3} {k : Nat} {h : H3} (e : l[k]? = some h) (hd : h.1 ≠ deal) : kept deal l (k + 1) = kept deal l k ++ [h] := by
  unfold kept
  rw [take_snoc e, List.filter_append]
  simp [hd]
theorem kept_own {deal : Int} {l : List H3} {k : Nat} {h : H3} (e : l[k]? = some h) (hd : h.1 = deal) : kept deal l (k + 1) = kept deal l k := by
  unfold kept
  rw [take_snoc e, List.filter_append]
  simp [hd]
theorem kept_le (deal : Int) (l : List H3) (k : Nat) : (kept deal l k).length ≤ k := by
  unfold kept
  have h1 := List.length_filter_le (fun h : H3 => h.1 != deal) (l.take k)
  have h2 : (l.take k).length ≤ k := by rw [List.length_take]; omega
  omega
theorem kept_all (deal : Int) (l : List H3) : kept deal l l.length = l.filter (fun h => h.1 != deal) := by
  unfold kept
  rw [List.take_of_length_le (Nat.le_refl _)]
/-- The two numbers when k holds of the deal were looked at. -/
def valE (A : Bk) (deal : Int) (done : Bool) (k m : Nat) : Int := A.val m + gain deal done (A.hs.take k) (A.no * 2 + m)
theorem valE_zero (A : Bk) (deal : Int) (done : Bool) (m : Nat) : valE A deal done 0 m = A.val m := by simp [valE, gain]
theorem valE_skip {A : Bk} {deal a c d : Int} {done : Bool} {k : Nat} (h : A.hs[k]? = some (a, c, d)) (ha : a ≠ deal ∨ done = false) (m : Nat) : valE A deal done (k + 1) m = valE A deal done k m := by
  unfold valE
  rw [gain_snoc h]
  unfold gainOf
  rw [if_neg (fun q => ha.elim (fun h => h q.1) (fun h => by rw [h] at q; exact absurd q.2.2 (by simp))), Int.add_zero]
theorem valE_own {A : Bk} {deal c d : Int} {k m : Nat} (h : A.hs[k]? = some (deal, c, d)) (hc : c = A.no * 2 + m) (i : Nat) : valE A deal true (k + 1) i = if i = m then valE A deal true k m + d else valE A deal true k i := by
  unfold valE
  rw [gain_snoc h]
  unfold gainOf
  by_cases e : i = m
  · subst e
    rw [if_pos rfl, if_pos ⟨rfl, hc, rfl⟩]
    simp only
    omega
  · rw [if_neg e, if_neg (by rintro ⟨_, q, _⟩; simp only at q; omega), Int.add_zero]
theorem valE_ok {A : Bk} (hG : Good A) (deal : Int) (done : Bool) {k m : Nat} (hk : k ≤ A.hs.length) (hm : m < 2) : 0 ≤ valE A deal done k m ∧ valE A deal done k m ≤ 100 := by
  have h := chk_ok (bookK_ok hG deal done k hk m hm)
  rw [bookK_val A deal done k m hm] at h
  exact ⟨h.1, h.2.1⟩
theorem valE_all (A : Bk) (deal : Int) (done : Bool) : valE A deal done A.hs.length 0 = (endA A deal done).v0 ∧ valE A deal done A.hs.length 1 = (endA A deal done).v1 := by
  unfold valE
  rw [List.take_of_length_le (Nat.le_refl _)]
  exact ⟨by simp [Bk.val, endA], by simp [Bk.val, endA]⟩

theorem BoothRaw.setV {w : World} {q : Nat} {no v0 v1 : Int} {hv ov dv : Value} (h : BoothRaw w q no v0 v1 hv ov dv) (m : Nat) (hm : m < 2) (v : Int) : BoothRaw (w.setCell ⟨q, 1 + m, none⟩ (.int .i64 v)) q no (if m = 0 then v else v0) (if m = 1 then v else v1) hv ov dv := by
  have : m = 0 ∨ m = 1 := by omega
  rcases this with rfl | rfl
  · exact ⟨by simpa using h.lt, (cell_set_off (by omega)).trans h.c0, cell_set_same h.c1, (cell_set_off (by omega)).trans h.c2, (cell_set_off (by omega)).trans h.c3, (cell_set_off (by omega)).trans h.c4, (cell_set_off (by omega)).trans h.c5, by simpa [go_sem] using h.loose⟩
  · exact ⟨by simpa using h.lt, (cell_set_off (by omega)).trans h.c0, (cell_set_off (by omega)).trans h.c1, cell_set_same h.c2, (cell_set_off (by omega)).trans h.c3, (cell_set_off (by omega)).trans h.c4, (cell_set_off (by omega)).trans h.c5, by simpa [go_sem] using h.loose⟩
theorem BoothRaw.set4 {w : World} {q : Nat} {no v0 v1 : Int} {hv ov dv : Value} (h : BoothRaw w q no v0 v1 hv ov dv) (u : Value) : BoothRaw (w.setCell ⟨q, 4, none⟩ u) q no v0 v1 hv u dv :=
  ⟨by simpa using h.lt, (cell_set_off (by omega)).trans h.c0, (cell_set_off (by omega)).trans h.c1, (cell_set_off (by omega)).trans h.c2, (cell_set_off (by omega)).trans h.c3, cell_set_same h.c4, (cell_set_off (by omega)).trans h.c5, by simpa [go_sem] using h.loose⟩
theorem BoothRaw.set5 {w : World} {q : Nat} {no v0 v1 : Int} {hv ov dv : Value} (h : BoothRaw w q no v0 v1 hv ov dv) (u : Value) : BoothRaw (w.setCell ⟨q, 5, none⟩ u) q no v0 v1 hv ov u :=
  ⟨by simpa using h.lt, (cell_set_off (by omega)).trans h.c0, (cell_set_off (by omega)).trans h.c1, (cell_set_off (by omega)).trans h.c2, (cell_set_off (by omega)).trans h.c3, (cell_set_off (by omega)).trans h.c4, cell_set_same h.c5, by simpa [go_sem] using h.loose⟩

/-- The booth behind its End: its new rows, and what is as it was. -/
theorem bend_done {O : Nat → Prop} {A : Bk} {q : Nat} {deal nd : Int} {done : Bool} {w w1 W3 W4 w7 : World} {g9 g8 g7 : Option Addr} {cap9 cap8 cap7 : Nat} {hs' : List H3} {ov dv : Value} (hnd : nd = if done = true then 1 else 0) (hB1 : Below w.heap.size w w1) (hOwn : ∀ k, O k → k < w1.heap.size) (hMine : O q)
    (hT2 : ∀ k, ov.ownBlock = some k → O k) (hT3 : ∀ k, dv.ownBlock = some k → O k) (hT4 : ∀ k, ov.ownBlock = some k → dv.ownBlock ≠ some k) (hNo : ¬ ov.ownBlock = some q ∧ ¬ dv.ownBlock = some q) (hql : q < w1.heap.size)
    (hS3 : Save (fun b => b = q) w1 W3) (hSA : Save (fun b => b = q ∨ ov.ownBlock = some b) W3 W4) (hG7 : Save (fun k => dv.ownBlock = some k) W4 w7) (hR4 : BoothRaw W4 q A.no (endA A deal done).v0 (endA A deal done).v1 (.slice g9 hs'.length cap9) (.slice g8 (A.es.length + 1) cap8) dv)
    (hOh4 : W4.ownsRow w1.heap.size 92 3 (.slice g9 hs'.length cap9) hs'.length (flat3 hs')) (hO9 : W4.ownsRow (q + 1) 3 1 (.slice g8 (A.es.length + 1) cap8) (A.es.length + 1) (nums (ovL A.es) ++ [.int .i64 deal])) (hO7 : w7.ownsRow (q + 1) 3 1 (.slice g7 (A.es.length + 1) cap7) (A.es.length + 1) (nums (dnL A.es) ++ [.int .i64 nd]))
    (hW8 : ∀ k, (Value.slice g8 (A.es.length + 1) cap8).ownBlock = some k → ov.ownBlock = some k ∨ W3.heap.size ≤ k) (hW7 : ∀ k, (Value.slice g7 (A.es.length + 1) cap7).ownBlock = some k → dv.ownBlock = some k ∨ W4.heap.size ≤ k) (hL8 : ∀ k, (Value.slice g8 (A.es.length + 1) cap8).ownBlock = some k → k < W4.heap.size)
    (hKa : hs' = (endA A deal done).hs) (hL9 : ∀ k, (Value.slice g9 hs'.length cap9).ownBlock = some k → k < W3.heap.size) :
    ∃ O', BoothIn O' (w7.setCell ⟨q, 5, none⟩ (.slice g7 (A.es.length + 1) cap7)) q (endA A deal done) ∧ Save O w (w7.setCell ⟨q, 5, none⟩ (.slice g7 (A.es.length + 1) cap7)) ∧ Moved O O' w := by
  have z1 := hB1.size
  have z3 := hS3.size
  have z4 := hSA.size
  have z7 := hG7.size
  have ndq : ¬ (fun k => dv.ownBlock = some k) q := hNo.2
  have n9 : ∀ k, (Value.slice g9 hs'.length cap9).ownBlock = some k → w1.heap.size ≤ k ∧ k < W3.heap.size := fun k e => ⟨(hOh4.lt k e).1, hL9 k e⟩
  have n8 : ∀ k, (Value.slice g8 (A.es.length + 1) cap8).ownBlock = some k → (ov.ownBlock = some k ∧ O k ∧ k < w1.heap.size) ∨ (W3.heap.size ≤ k ∧ k < W4.heap.size) := fun k e => (hW8 k e).imp (fun h => ⟨h, hT2 k h, hOwn k (hT2 k h)⟩) (fun h => ⟨h, hL8 k e⟩)
  have n7 : ∀ k, (Value.slice g7 (A.es.length + 1) cap7).ownBlock = some k → (dv.ownBlock = some k ∧ O k ∧ k < w1.heap.size) ∨ W4.heap.size ≤ k := fun k e => (hW7 k e).imp (fun h => ⟨h, hT3 k h, hOwn k (hT3 k h)⟩) id
  have hR7 := (hR4.save hG7 ndq).set5 (.slice g7 (A.es.length + 1) cap7)
  have hq1 : q < q + 1 := Nat.lt_succ_self q
  have h8 := ownsRow_setCell_below (a := ⟨q, 5, none⟩) (own_save hO9 hG7 (fun k e e' => (n8 k e).elim (fun h => hT4 k h.1 e') (fun h => by have := hOwn k (hT3 k e'); omega))) hq1 (.slice g7 (A.es.length + 1) cap7)
  have h7 := ownsRow_setCell_below (a := ⟨q, 5, none⟩) hO7 hq1 (.slice g7 (A.es.length + 1) cap7)
  have h9 := ownsRow_setCell_below (a := ⟨q, 5, none⟩) (own_save hOh4 hG7 (fun k e e' => by have := (n9 k e).1; have := hOwn k (hT3 k e'); omega)) hql (.slice g7 (A.es.length + 1) cap7)
  have hsz : (w7.setCell ⟨q, 5, none⟩ (.slice g7 (A.es.length + 1) cap7)).heap.size = w7.heap.size := by simp
  have hSv : Save O w (w7.setCell ⟨q, 5, none⟩ (.slice g7 (A.es.length + 1) cap7)) := by
    have s1 : Save O w W3 := (Save.of_below hB1).trans hS3 (fun j _ e => by rw [e]; exact hMine)
    have s2 : Save O w W4 := s1.trans hSA (fun j _ e => e.elim (fun h => by rw [h]; exact hMine) (hT2 j))
    have s3 : Save O w w7 := s2.trans hG7 (fun j _ e => hT3 j e)
    exact s3.setCell (p := ⟨q, 5, none⟩) (fun _ => hMine) _
  refine ⟨fun k => O k ∨ (Value.slice g9 hs'.length cap9).ownBlock = some k ∨ (Value.slice g8 (A.es.length + 1) cap8).ownBlock = some k ∨ (Value.slice g7 (A.es.length + 1) cap7).ownBlock = some k, ⟨fun k hk => ?_, .inl hMine, .slice g9 hs'.length cap9, .slice g8 (A.es.length + 1) cap8, .slice g7 (A.es.length + 1) cap7, hR7, ?_, ?_, ?_, fun k hk => .inr (.inl hk), fun k hk => .inr (.inr (.inl hk)), fun k hk => .inr (.inr (.inr hk)), fun k hk hk' => ?_, fun k hk hk' => ?_, fun k hk hk' => ?_⟩, hSv, fun k hk => ?_⟩
  · rw [hsz]
    rcases hk with hk | hk | hk | hk
    · have := hOwn k hk
      omega
    · have := (n9 k hk).2
      omega
    · have := hL8 k hk
      omega
    · have := (h7.lt k hk).2
      rw [hsz] at this
      exact this
  · rw [← hKa]
    have q2 := h9
    exact ⟨q2.1, q2.2.imp id (fun ⟨g, cap, cur, e1, hb, r⟩ => ⟨g, cap, cur, e1, by omega, r⟩)⟩
  · have e1 : (endA A deal done).es.length = A.es.length + 1 := by simp [endA]
    have e2 : nums (ovL (endA A deal done).es) = nums (ovL A.es) ++ [.int .i64 deal] := by simp [endA, ovL, nums]
    rw [e1, e2]
    exact h8
  · have e1 : (endA A deal done).es.length = A.es.length + 1 := by simp [endA]
    have e2 : nums (dnL (endA A deal done).es) = nums (dnL A.es) ++ [.int .i64 nd] := by rw [hnd]; simp [endA, dnL, nums]
    rw [e1, e2]
    exact h7
  · have h1 := n9 k hk
    rcases n8 k hk' with ⟨_, _, h2⟩ | ⟨h2, _⟩ <;> omega
  · have h1 := n9 k hk
    rcases n7 k hk' with ⟨_, _, h2⟩ | h2 <;> omega
  · rcases n8 k hk with ⟨h1, _, h2⟩ | ⟨h1, h2⟩
    · rcases n7 k hk' with ⟨h3, _, _⟩ | h3
      · exact hT4 k h1 h3
      · omega
    · rcases n7 k hk' with ⟨_, _, h3⟩ | h3 <;> omega
  · rcases hk with hk | hk | hk | hk
    · exact .inl hk
    · exact .inr (by have := (n9 k hk).1; omega)
    · rcases n8 k hk with ⟨_, h1, _⟩ | ⟨h1, _⟩
      · exact .inl h1
      · exact .inr (by omega)
    · rcases n7 k hk with ⟨_, h1, _⟩ | h1
      · exact .inl h1
      · exact .inr (by omega)

set_option maxHeartbeats 4000000 in
set_option maxRecDepth 100000 in
theorem bend_any (O : Nat → Prop) (A : Bk) (q : Nat) (deal : Int) (done : Bool) (w : World) (h : BoothIn O w q A) (hG : Good A) (hlen : A.hs.length < 1000000) (hlene : A.es.length < 1000000) :
    Calls Try.prog 88 #[.pointer (some ⟨q, 0, none⟩), .int .i64 deal, .bool done] w fun e w' => e = .returned (.int .i64 (endR A deal done).1) ∧ ∃ O', BoothIn O' w' q (endR A deal done).2 ∧ Save O w w' ∧ Moved O O' w := by
  have HI : Hid (BoothIn O w q A) := h
  have HOver : Hid (∀ W : World, Below w.heap.size w W → Calls Try.prog 99 #[.pointer (some ⟨q, 0, none⟩), .int .i64 deal] W fun e w' => e = .returned (.tuple #[.bool (ovB A.es deal), .bool (dnB A.es deal)]) ∧ Below W.heap.size W w') := fun W hW => bover_any O A q deal W (h.next hW) (by omega)
  have HG : Hid (Good A) := hG
  have HLn : Hid (A.hs.length < 1000000 ∧ A.es.length < 1000000) := ⟨hlen, hlene⟩
  clear h hG hlen hlene
  rcases endR_cases A deal done with ⟨hr, er⟩ | ⟨d0, d8, ⟨b, hov, er⟩ | ⟨hov, er⟩⟩
  · have HE : Hid _ := er
    rcases hr with hr | hr
    all_goals
      clear er
      go_enter Try.func88, Try.ntmps88
      go_wp2_with fail
      go_ret
      rw [HE.out]
      exact ⟨rfl, O, HI.out, .refl _ _, .refl _ _⟩
  · have HE : Hid _ := er
    have o1 : ovB A.es deal = true := by unfold ovB; rw [hov]; rfl
    have o2 : dnB A.es deal = b := by unfold dnB; rw [hov]; cases b <;> rfl
    clear er hov
    by_cases e : b = done
    · subst e
      have e' : (b != b) = false := by simp
      go_enter Try.func88, Try.ntmps88
      go_wp2_with fail
      refine Calls.mono (HOver.out _ (Below.refl _ _)) ?_
      rw [o1, o2]
      rintro e w1 ⟨rfl, hb1⟩
      go_wp2_with fail
      go_ret
      rw [HE.out]
      exact ⟨by simp, O, HI.out.next hb1, .of_below hb1, .refl _ _⟩
    · have e' : (b == done) = false := by simpa using e
      have HB : Hid _ := e
      clear e
      go_enter Try.func88, Try.ntmps88
      go_wp2_with fail
      refine Calls.mono (HOver.out _ (Below.refl _ _)) ?_
      rw [o1, o2]
      rintro e w1 ⟨rfl, hb1⟩
      go_wp2_with fail
      go_ret
      rw [HE.out]
      exact ⟨by rw [if_neg HB.out]; rfl, O, HI.out.next hb1, .of_below hb1, .refl _ _⟩
  · have HE : Hid _ := er
    have o1 : ovB A.es deal = false := by unfold ovB; rw [hov]; rfl
    clear er hov
    go_enter Try.func88, Try.ntmps88
    go_wp2_with fail
    refine Calls.mono (HOver.out _ (Below.refl _ _)) ?_
    rw [o1]
    rintro e w1 ⟨rfl, hb1⟩
    have hI1 := HI.out.next hb1
    obtain ⟨hv, ov, dv, hR1, hrow1, hro1, hrd1, hs1, hs2, hs3, ht1, ht2, ht3⟩ := hI1.raw
    have HOwn : Hid (∀ k, O k → k < w1.heap.size) := hI1.own
    have HMine : Hid (O q) := hI1.mine
    have HT : Hid ((∀ k, hv.ownBlock = some k → O k) ∧ (∀ k, ov.ownBlock = some k → O k) ∧ (∀ k, dv.ownBlock = some k → O k) ∧ (∀ k, ov.ownBlock = some k → dv.ownBlock ≠ some k)) := ⟨hs1, hs2, hs3, ht3⟩
    have HRo : Hid (w1.ownsRow (q + 1) 3 1 ov A.es.length (nums (ovL A.es))) := hro1
    have HRd : Hid (w1.ownsRow (q + 1) 3 1 dv A.es.length (nums (dnL A.es))) := hrd1
    obtain ⟨ga, cap, rfl, hH, _⟩ := holds_of_own hrow1
    have HH : Hid (HoldsAt w1 ga A.hs) := hH
    have HGq : Hid (∀ a, ga = some a → a.block ≠ q) := by
      intro a e
      subst e
      have := (hrow1.lt a.block rfl).1
      omega
    have hql := hR1.lt
    have HB1 : Hid (Below w.heap.size w w1) := hb1
    obtain ⟨i0, hi, hz0, hz1, hz2⟩ := info_parts infoHold
    clear hI1 hrow1 hro1 hrd1 hs1 hs2 hs3 ht1 ht2 ht3 hH HI HOver hb1
    go_wp2_with fail
    go_loopg [9, 10, 11] A.hs.length (fun g s9 s10 _ wr => ∃ (k : Nat) (v9 : Value), k ≤ A.hs.length ∧ g = A.hs.length - k ∧ v9 = s9 ∧ s10 = .int .i64 k ∧ wr.ownsRow w1.heap.size 92 3 v9 (kept deal A.hs k).length (flat3 (kept deal A.hs k)) ∧ BoothRaw wr q A.no (valE A deal done k 0) (valE A deal done k 1) (.slice ga A.hs.length cap) ov dv ∧ Save (fun b => b = q) w1 wr)
    case atStart => exact ⟨0, _, Nat.zero_le _, rfl, rfl, rfl, World.ownsRow_nil _ _ _ _, by rw [valE_zero, valE_zero]; exact hR1, Save.refl _ _⟩
    case round =>
      obtain ⟨k, v9, hk, rfl, rfl, rfl, hown, hR, hS⟩ := hrel
      clear hR1
      by_cases hkl : k < A.hs.length
      · obtain ⟨⟨a, c, d⟩, hkx⟩ : ∃ x, A.hs[k]? = some x := ⟨_, List.getElem?_eq_getElem hkl⟩
        obtain ⟨bl, ol, rfl, hbl, h0, h1, h2⟩ := HH.out k a c d hkx
        have hnq : bl ≠ q := HGq.out _ rfl
        have p0 : wr.cell? ⟨bl, ol + k * 3, none⟩ = some (.int .i64 a) := (hS.cell (p := ⟨bl, _, none⟩) hbl hnq).trans h0
        have p1 : wr.cell? ⟨bl, ol + k * 3 + 1, none⟩ = some (.int .i64 c) := (hS.cell (p := ⟨bl, _, none⟩) hbl hnq).trans h1
        have p2 : wr.cell? ⟨bl, ol + k * 3 + 2, none⟩ = some (.int .i64 d) := (hS.cell (p := ⟨bl, _, none⟩) hbl hnq).trans h2
        have c3 := hR.c3
        have j0 : (0 : Int) ≤ (k : Int) := by omega
        have j1 : (k : Int) < (A.hs.length : Int) := by omega
        have j2 : (A.hs.length : Int) < 1000000 := by have := HLn.out.1; omega
        have HKL : Hid (k < A.hs.length) := hkl
        have HKX : Hid (A.hs[k]? = some (a, c, d)) := hkx
        have HOw : Hid (wr.ownsRow w1.heap.size 92 3 v9 (kept deal A.hs k).length (flat3 (kept deal A.hs k))) := hown
        clear h0 h1 h2 hk hkl hkx hbl hown
        go_upto_region 13 with fail
        have hX := BoxAt.new wr [.int .i64 a, .int .i64 c, .int .i64 d] 92
        have hbn : Below wr.heap.size wr (wr.alloc (.cells #[.int .i64 a, .int .i64 c, .int .i64 d] 92)) := (Below.refl _ _).alloc (Nat.le_refl _) _
        have hR2 := hR.next hbn
        have hS2 := hS.next hbn
        have HOw2 : Hid (World.ownsRow (wr.alloc (.cells #[.int .i64 a, .int .i64 c, .int .i64 d] 92)) w1.heap.size 92 3 v9 (kept deal A.hs k).length (flat3 (kept deal A.hs k))) := own_next HOw.out hbn
        change BoxAt (wr.alloc (.cells #[.int .i64 a, .int .i64 c, .int .i64 d] 92)) _ _ at hX
        have hxq : q ≠ wr.heap.size := by have := hR.lt; omega
        have hxw : w1.heap.size ≤ wr.heap.size := hS.size
        generalize (wr.alloc (.cells #[.int .i64 a, .int .i64 c, .int .i64 d] 92)) = W2 at hX hR2 hS2 HOw2 ⊢
        generalize wr.heap.size = bx at hX hxq hxw ⊢
        clear hR hS HOw p0 p1 p2 c3 hbn
        have x0 := hX.2 0 _ rfl
        have x1 := hX.2 1 _ rfl
        have x2 := hX.2 2 _ rfl
        have hxl := hX.1
        by_cases ha : a = deal
        · subst ha
          have HKp : Hid (kept a A.hs (k + 1) = kept a A.hs k) := kept_own HKX.out rfl
          have HJ : Hid ((k : Int) < (A.hs.length : Int) ∧ (A.hs.length : Int) < 1000000) := ⟨j1, j2⟩
          clear j1 j2
          cases done
          · have HV : Hid (valE A a false (k + 1) 0 = valE A a false k 0 ∧ valE A a false (k + 1) 1 = valE A a false k 1) := ⟨valE_skip HKX.out (.inr rfl) 0, valE_skip HKX.out (.inr rfl) 1⟩
            go_upto_region 11 with fail
            obtain ⟨j1, j2⟩ := HJ.out
            go_wp2_with fail
            go_roundg (A.hs.length - (k + 1))
            case measure => have := HKL.out; omega
            case rel => exact ⟨k + 1, v9, HKL.out, rfl, rfl, by simp, by rw [HKp.out]; exact HOw2.out, by rw [HV.out.1, HV.out.2]; exact hR2, hS2⟩
          · obtain ⟨_, _, hs0, hw0, _⟩ := HG.out.each _ (List.mem_of_getElem? HKX.out)
            obtain ⟨g1, g2, g6⟩ := wnt_ok hw0
            obtain ⟨g3, g4, g5⟩ := shp_place g1 g2 hs0
            obtain ⟨m, hm⟩ := Int.eq_ofNat_of_zero_le g4
            have hm2 : m < 2 := by omega
            have hcq : c = A.no * 2 + (m : Int) := by simp only at g3 hm; omega
            obtain ⟨_, d3, d4⟩ := dlt_ok g6
            simp only at d3 d4
            have HVo : Hid (∀ i : Nat, valE A a true (k + 1) i = if i = m then valE A a true k m + d else valE A a true k i) := valE_own HKX.out hcq
            have hcm : c - A.no * 2 = (m : Int) := by omega
            have m0 : (0 : Int) ≤ (m : Int) := by omega
            have m1 : (m : Int) < 2 := by omega
            have c20 : 0 ≤ c := g1
            have c26 : c < 6 := g2
            have n0 := HG.out.no0
            have n3 := HG.out.no3
            have vm : W2.cell? ⟨q, 1 + m, none⟩ = some (.int .i64 (valE A a true k m)) := by
              have : m = 0 ∨ m = 1 := by omega
              rcases this with rfl | rfl
              · exact hR2.c1
              · exact hR2.c2
            have fz := hR2.loose
            have hvl := hR2.lt
            have c0 := hR2.c0
            obtain ⟨b0, b1⟩ := valE_ok HG.out a true (Nat.le_of_lt HKL.out) hm2
            have HR2 : Hid (BoothRaw W2 q A.no (valE A a true k 0) (valE A a true k 1) (.slice (some ⟨bl, ol, none⟩) A.hs.length cap) ov dv) := hR2
            have HS2 : Hid (Save (fun b => b = q) w1 W2) := hS2
            have HM2 : Hid (m < 2) := hm2
            generalize valE A a true k m = vv at vm b0 b1 HVo
            clear hs0 hw0 g1 g2 g3 g4 g5 g6 hm hR2 hS2 hcq hm2 hX
            go_upto_region 16 with fail
            go_region
            all_goals
              go_upto_region 11 with fail
              obtain ⟨j1, j2⟩ := HJ.out
              go_wp2_with fail
              go_roundg (A.hs.length - (k + 1))
              case measure => have := HKL.out; omega
              case rel =>
                refine ⟨k + 1, v9, HKL.out, rfl, rfl, by simp, by rw [HKp.out]; exact own_next (ownsRow_setCell_below (a := ⟨q, 1 + m, none⟩) HOw2.out hql _) (by go_grown), ?_, Save.next (Save.setCell (O := fun b => b = q) HS2.out (p := ⟨q, 1 + m, none⟩) (fun _ => rfl) _) (by go_grown)⟩
                have hR3 := (HR2.out.setV m HM2.out (vv + d)).next (w1 := _) ((Below.refl _ _).drew)
                have e0 : valE A a true (k + 1) 0 = if m = 0 then vv + d else valE A a true k 0 := by rw [HVo.out 0]; by_cases q : m = 0 <;> simp [q]; intro hh; exact absurd hh.symm q
                have e1 : valE A a true (k + 1) 1 = if m = 1 then vv + d else valE A a true k 1 := by rw [HVo.out 1]; by_cases q : m = 1 <;> simp [q]; intro hh; exact absurd hh.symm q
                rw [e0, e1]
                exact hR3
        · have ha' : (a == deal) = false := by simpa using ha
          have HV : Hid (valE A deal done (k + 1) 0 = valE A deal done k 0 ∧ valE A deal done (k + 1) 1 = valE A deal done k 1) := ⟨valE_skip HKX.out (.inl ha) 0, valE_skip HKX.out (.inl ha) 1⟩
          have HKp : Hid (kept deal A.hs (k + 1) = kept deal A.hs k ++ [(a, c, d)]) := kept_other HKX.out ha
          have HKn : Hid ((kept deal A.hs k).length < 1000000) := by have := kept_le deal A.hs k; have := HKL.out; have := HLn.out.1; show _ < _; omega
          have HSz : Hid (w1.heap.size ≤ W2.heap.size) := hS2.size
          have hr4 : IntKind.i64.wrap ((k : Int) + 1) = (k : Int) + 1 := by go_unwrap
          clear ha j1 j2
          go_wp2_with (at_builtin; refine list_append_two rfl (.tmp 49) (.tmp 51) 39 rfl w1.heap.size 92 i0 (.agg #[.int .i64 0, .int .i64 0, .int .i64 0]) 3 24 Try.underlying39 hi hz0 hz1 hz2 rfl (by decide) v9 _ _ rfl (own_next HOw2.out (by go_grown)) ⟨W2.heap.size, 0, none⟩ 1 1 [.int .i64 a, .int .i64 c, .int .i64 d] rfl rfl (hold_lies (by simp [go_sem]) (by simp [go_sem]) (by simp [go_sem])) hold_cell (by have := HKn.out; unfold maxLen; omega) (by have := HKn.out; omega) (by have := HSz.out; simp; omega) (by decide) ?_; intro v8 w8 hown8 hgrow8 _)
          have hS8 : Save (fun b => v9.ownBlock = some b) W2 w8 := (Save.of_below (by go_grown)).grown hgrow8 (fun k e _ => e)
          have HNq : Hid (¬ v9.ownBlock = some q) := fun e => by have := (HOw2.out.lt q e).1; omega
          have hR8 := hR2.save hS8 HNq.out
          have hS9 : Save (fun b => b = q) w1 w8 := hS2.trans hS8 (fun j hj e => by have := (HOw2.out.lt j e).1; omega)
          have HO8 : Hid (w8.ownsRow w1.heap.size 92 3 v8 ((kept deal A.hs k).length + 1) (flat3 (kept deal A.hs k) ++ [.int .i64 a, .int .i64 c, .int .i64 d])) := hown8
          clear hown8 hgrow8 hS8 hR2 hS2 hX x0 x1 x2
          go_wp2_with fail
          go_roundg (A.hs.length - (k + 1))
          case measure => have := HKL.out; omega
          case rel =>
            refine ⟨k + 1, v8, HKL.out, rfl, rfl, by simp, ?_, by rw [HV.out.1, HV.out.2]; exact hR8, hS9⟩
            have e1 : (kept deal A.hs (k + 1)).length = (kept deal A.hs k).length + 1 := by rw [HKp.out]; simp
            have e2 : flat3 (kept deal A.hs (k + 1)) = flat3 (kept deal A.hs k) ++ [.int .i64 a, .int .i64 c, .int .i64 d] := by rw [HKp.out]; exact flat3_snoc _ _ _ _
            rw [e1, e2]
            exact HO8.out
      · have hkk : k = A.hs.length := by omega
        subst hkk
        have HOw : Hid (wr.ownsRow w1.heap.size 92 3 v9 (kept deal A.hs A.hs.length).length (flat3 (kept deal A.hs A.hs.length))) := hown
        obtain ⟨g9, cap9, rfl⟩ := own_slice hown
        have HV : Hid (valE A deal done A.hs.length 0 = (endA A deal done).v0 ∧ valE A deal done A.hs.length 1 = (endA A deal done).v1) := valE_all A deal done
        have HKa : Hid (kept deal A.hs A.hs.length = (endA A deal done).hs) := kept_all deal A.hs
        have c3 := hR.c3
        have fz := hR.loose
        have lq := hR.lt
        clear hk hkl hown
        go_upto_region 18 with fail
        have hR3 := hR.set3 (.slice g9 (kept deal A.hs A.hs.length).length cap9)
        have HOw3 : Hid (World.ownsRow (wr.setCell ⟨q, 3, none⟩ (.slice g9 (kept deal A.hs A.hs.length).length cap9)) w1.heap.size 92 3 (.slice g9 (kept deal A.hs A.hs.length).length cap9) (kept deal A.hs A.hs.length).length (flat3 (kept deal A.hs A.hs.length))) := ownsRow_setCell_below (a := ⟨q, 3, none⟩) HOw.out hql _
        have hS3 : Save (fun b => b = q) w1 (wr.setCell ⟨q, 3, none⟩ (.slice g9 (kept deal A.hs A.hs.length).length cap9)) := Save.setCell (O := fun b => b = q) hS (p := ⟨q, 3, none⟩) (fun _ => rfl) _
        generalize (wr.setCell ⟨q, 3, none⟩ (.slice g9 (kept deal A.hs A.hs.length).length cap9)) = W3 at hR3 HOw3 hS3 ⊢
        clear hR hS HOw c3 fz lq
        rw [HV.out.1, HV.out.2] at hR3
        rw [HKa.out] at HOw3 hR3 ⊢
        clear HKa
        obtain ⟨hs', hhs⟩ : ∃ hs', hs' = (endA A deal done).hs := ⟨_, rfl⟩
        rw [← hhs] at HOw3 hR3 ⊢
        have HKa : Hid (hs' = (endA A deal done).hs) := hhs
        clear hhs
        obtain ⟨ij, hj, hj0, hj1, hj2⟩ := info_parts infoNum
        have HNo : Hid (¬ ov.ownBlock = some q ∧ ¬ dv.ownBlock = some q) := ⟨fun e => by have := (HRo.out.lt q e).1; omega, fun e => by have := (HRd.out.lt q e).1; omega⟩
        have HRo3 : Hid (W3.ownsRow (q + 1) 3 1 ov A.es.length (nums (ovL A.es))) := own_save HRo.out hS3 (fun k e e' => HNo.out.1 (e' ▸ e))
        have HRd3 : Hid (W3.ownsRow (q + 1) 3 1 dv A.es.length (nums (dnL A.es))) := own_save HRd.out hS3 (fun k e e' => HNo.out.2 (e' ▸ e))
        have HS3 : Hid (Save (fun b => b = q) w1 W3) := hS3
        have HR3 : Hid (BoothRaw W3 q A.no (endA A deal done).v0 (endA A deal done).v1 (.slice g9 hs'.length cap9) ov dv) := hR3
        have HSz3 : Hid (w1.heap.size ≤ W3.heap.size) := hS3.size
        have c4 := hR3.c4
        have fz := hR3.loose
        have lq := hR3.lt
        have HN4 : Hid (some q ≠ ov.ownBlock) := fun e => HNo.out.1 e.symm
        have HN5 : Hid (some q ≠ dv.ownBlock) := fun e => HNo.out.2 e.symm
        clear hR3 hS3 HRo HRd
        go_upto_region 19 with (at_builtin; refine list_append_two rfl (.tmp 81) (.tmp 83) 42 rfl (q + 1) 3 ij (.int .i64 0) 1 8 Try.underlying42 hj hj0 hj1 hj2 rfl (by decide) ov _ _ rfl (own_next HRo3.out (by go_grown)) ⟨W3.heap.size, 0, none⟩ 1 1 [.int .i64 deal] rfl rfl (num_new _ rfl) (by intro u hu; rw [List.mem_singleton.1 hu]; rfl) (by have := HLn.out.2; unfold maxLen; omega) (by have := HLn.out.2; omega) (by simp; omega) (by decide) ?_; intro v8 w8 hown8 hgrow8 hwh8; obtain ⟨g8, cap8, rfl⟩ := own_slice hown8; have HO8 : Hid (w8.ownsRow (q + 1) 3 1 (.slice g8 (A.es.length + 1) cap8) (A.es.length + 1) (nums (ovL A.es) ++ [.int .i64 deal])) := hown8; clear hown8; have HW8 : Hid (∀ k, (Value.slice g8 (A.es.length + 1) cap8).ownBlock = some k → ov.ownBlock = some k ∨ W3.heap.size ≤ k) := (fun k hk => (hwh8 k hk).imp_right (fun e => by rw [e]; simp)); clear hwh8; have q4 : w8.cell? ⟨q, 4, none⟩ = some ov := hgrow8.cell (by simp [go_sem, c4, lq]) HN4.out; have hf8 : ∀ k, w8.frozen? ⟨q, k, none⟩ = false := fun k => (World.frozen?_of_block (hgrow8.block q (by simp; omega) HN4.out)).trans (by simp [go_sem, fz, lq]); have HG8 : Hid (Save (fun k => ov.ownBlock = some k) W3 w8) := (Save.of_below (by go_grown)).grown hgrow8 (fun k e _ => e); clear hgrow8)
        have hR8 := (HR3.out.save HG8.out (fun e => HN4.out e.symm)).set4 (.slice g8 (A.es.length + 1) cap8)
        have HO9 : Hid (World.ownsRow (w8.setCell ⟨q, 4, none⟩ (.slice g8 (A.es.length + 1) cap8)) (q + 1) 3 1 (.slice g8 (A.es.length + 1) cap8) (A.es.length + 1) (nums (ovL A.es) ++ [.int .i64 deal])) := ownsRow_setCell_below (a := ⟨q, 4, none⟩) HO8.out (Nat.lt_succ_self q) _
        have HSA : Hid (Save (fun b => b = q ∨ ov.ownBlock = some b) W3 (w8.setCell ⟨q, 4, none⟩ (.slice g8 (A.es.length + 1) cap8))) := Save.setCell (O := fun b => b = q ∨ ov.ownBlock = some b) (HG8.out.mono (fun k _ e => .inr e)) (p := ⟨q, 4, none⟩) (fun _ => .inl rfl) _
        have HL8 : Hid (∀ k, (Value.slice g8 (A.es.length + 1) cap8).ownBlock = some k → k < (w8.setCell ⟨q, 4, none⟩ (.slice g8 (A.es.length + 1) cap8)).heap.size) := fun k hk => (HO9.out.lt k hk).2
        generalize (w8.setCell ⟨q, 4, none⟩ (.slice g8 (A.es.length + 1) cap8)) = W4 at hR8 HO9 HSA HL8 ⊢
        have HR4 : Hid (BoothRaw W4 q A.no (endA A deal done).v0 (endA A deal done).v1 (.slice g9 hs'.length cap9) (.slice g8 (A.es.length + 1) cap8) dv) := hR8
        have HSz4 : Hid (W3.heap.size ≤ W4.heap.size) := HSA.out.size
        have HOh4 : Hid (W4.ownsRow w1.heap.size 92 3 (.slice g9 hs'.length cap9) hs'.length (flat3 hs')) := own_save HOw3.out HSA.out (fun k e e' => by
          have h1 := (HOw3.out.lt k e).1
          rcases e' with rfl | e'
          · omega
          · have := HOwn.out k (HT.out.2.1 k e'); omega)
        have HRd4 : Hid (W4.ownsRow (q + 1) 3 1 dv A.es.length (nums (dnL A.es))) := own_save HRd3.out HSA.out (fun k e e' => by
          rcases e' with rfl | e'
          · exact HNo.out.2 e
          · exact HT.out.2.2.2 k e' e)
        have c5 := hR8.c5
        have fz4 := hR8.loose
        have lq4 := hR8.lt
        clear hR8 HO8 HG8 q4 hf8 c4 fz lq
        have HBase : Hid (q + 1 ≤ W4.heap.size) := lq4
        cases done
        · go_wp2_with (at_builtin; refine list_append_two rfl (.tmp 92) (.tmp 94) 42 rfl (q + 1) 3 ij (.int .i64 0) 1 8 Try.underlying42 hj hj0 hj1 hj2 rfl (by decide) dv _ _ rfl (own_next HRd4.out (by go_grown)) ⟨W4.heap.size, 0, none⟩ 1 1 [.int .i64 0] rfl rfl (num_new _ rfl) (by intro u hu; rw [List.mem_singleton.1 hu]; rfl) (by have := HLn.out.2; unfold maxLen; omega) (by have := HLn.out.2; omega) (by have := HBase.out; simp; omega) (by decide) ?_; intro v7 w7 hown7 hgrow7 hwh7; obtain ⟨g7, cap7, rfl⟩ := own_slice hown7; have HO7 : Hid (w7.ownsRow (q + 1) 3 1 (.slice g7 (A.es.length + 1) cap7) (A.es.length + 1) (nums (dnL A.es) ++ [.int .i64 0])) := hown7; clear hown7; have HW7 : Hid (∀ k, (Value.slice g7 (A.es.length + 1) cap7).ownBlock = some k → dv.ownBlock = some k ∨ W4.heap.size ≤ k) := (fun k hk => (hwh7 k hk).imp_right (fun e => by rw [e]; simp)); clear hwh7; have q5 : w7.cell? ⟨q, 5, none⟩ = some dv := hgrow7.cell (by simp [go_sem, c5, lq4]) HN5.out; have hf7 : ∀ k, w7.frozen? ⟨q, k, none⟩ = false := fun k => (World.frozen?_of_block (hgrow7.block q (by simp; omega) HN5.out)).trans (by simp [go_sem, fz4, lq4]); have HG7 : Hid (Save (fun k => dv.ownBlock = some k) W4 w7) := (Save.of_below (by go_grown)).grown hgrow7 (fun k e _ => e); clear hgrow7)
          go_ret
          rw [HE.out]
          refine ⟨rfl, ?_⟩
          exact bend_done (nd := 0) rfl HB1.out HOwn.out HMine.out HT.out.2.1 HT.out.2.2.1 HT.out.2.2.2 HNo.out hql HS3.out HSA.out HG7.out HR4.out HOh4.out HO9.out HO7.out HW8.out HW7.out HL8.out HKa.out (fun k e => (HOw3.out.lt k e).2)
        · go_wp2_with (at_builtin; refine list_append_two rfl (.tmp 92) (.tmp 94) 42 rfl (q + 1) 3 ij (.int .i64 0) 1 8 Try.underlying42 hj hj0 hj1 hj2 rfl (by decide) dv _ _ rfl (own_next HRd4.out (by go_grown)) ⟨W4.heap.size, 0, none⟩ 1 1 [.int .i64 1] rfl rfl (num_new _ rfl) (by intro u hu; rw [List.mem_singleton.1 hu]; rfl) (by have := HLn.out.2; unfold maxLen; omega) (by have := HLn.out.2; omega) (by have := HBase.out; simp; omega) (by decide) ?_; intro v7 w7 hown7 hgrow7 hwh7; obtain ⟨g7, cap7, rfl⟩ := own_slice hown7; have HO7 : Hid (w7.ownsRow (q + 1) 3 1 (.slice g7 (A.es.length + 1) cap7) (A.es.length + 1) (nums (dnL A.es) ++ [.int .i64 1])) := hown7; clear hown7; have HW7 : Hid (∀ k, (Value.slice g7 (A.es.length + 1) cap7).ownBlock = some k → dv.ownBlock = some k ∨ W4.heap.size ≤ k) := (fun k hk => (hwh7 k hk).imp_right (fun e => by rw [e]; simp)); clear hwh7; have q5 : w7.cell? ⟨q, 5, none⟩ = some dv := hgrow7.cell (by simp [go_sem, c5, lq4]) HN5.out; have hf7 : ∀ k, w7.frozen? ⟨q, k, none⟩ = false := fun k => (World.frozen?_of_block (hgrow7.block q (by simp; omega) HN5.out)).trans (by simp [go_sem, fz4, lq4]); have HG7 : Hid (Save (fun k => dv.ownBlock = some k) W4 w7) := (Save.of_below (by go_grown)).grown hgrow7 (fun k e _ => e); clear hgrow7)
          go_ret
          rw [HE.out]
          refine ⟨rfl, ?_⟩
          exact bend_done (nd := 1) rfl HB1.out HOwn.out HMine.out HT.out.2.1 HT.out.2.2.1 HT.out.2.2.2 HNo.out hql HS3.out HSA.out HG7.out HR4.out HOh4.out HO9.out HO7.out HW8.out HW7.out HL8.out HKa.out (fun k e => (HOw3.out.lt k e).2)

end Go.Proofs.Ytbgnajcmhmpjlab
