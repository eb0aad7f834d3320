/- The contracts of broker.New, has, Len, State, Wants, Done and Quit. -/
import Derived.Test.YtndggiefgpdiiacRAt
import Derived.Test.YtndggiefgpdiiacPShops
import Derived.Test.YtndggiefgpdiiacTAsk
namespace Go.Proofs.Ytndggiefgpdiiac
open Go.RowKit

theorem rnew_any (w : World) : Calls Try.prog 5 #[] w fun e w' => (∃ q O, e = .returned (.pointer (some ⟨q, 0, none⟩)) ∧ BrkIn O w' q ⟨[], []⟩ ∧ ∀ k, O k → w.heap.size ≤ k) ∧ Below w.heap.size w w' := by
  go_enter Try.func5, Try.ntmps5
  go_wp2_with fail
  go_ret
  refine ⟨⟨w.heap.size, fun k => k = w.heap.size, rfl, ⟨fun k hk => by rw [hk]; simp, rfl, by simp [go_sem], .slice none 0 0, .slice none 0 0, [], ⟨rfl, by simp [go_sem], by simp [go_sem], World.ownsRow_nil _ _ _ _, World.ownsRow_nil _ _ _ _, by simp, ?_⟩, ?_⟩, fun k hk => by rw [hk]; exact Nat.le_refl _⟩, by go_grown⟩
  · refine List.pairwise_cons.2 ⟨fun u hu k e _ => by simp [Value.ownBlock] at e, List.pairwise_singleton _ _⟩
  · intro u hu k e
    simp at hu
    subst hu
    simp [Value.ownBlock] at e

theorem rlen_any (O : Nat → Prop) (B : Bok) (q : Nat) (w : World) (h : BrkIn O w q B) : Calls Try.prog 7 #[.pointer (some ⟨q, 0, none⟩)] w fun e w' => e = .returned (.int .i64 (B.L.length : Int)) ∧ w' = w := by
  obtain ⟨rv, dv, P, hR, _⟩ := h.raw
  have c0 := hR.c0
  obtain ⟨ga, cap, rfl⟩ := own_sl hR.row
  rw [← hR.len] at c0
  clear h hR
  go_enter Try.func7, Try.ntmps7
  go_wp2_with fail
  go_ret
  exact ⟨rfl, rfl⟩

theorem rhas_any (O : Nat → Prop) (B : Bok) (q : Nat) (n : Int) (w : World) (h : BrkIn O w q B) (hl : B.L.length ≤ 8) : Calls Try.prog 17 #[.pointer (some ⟨q, 0, none⟩), .int .i64 n] w fun e w' => e = .returned (.bool (dealAt B n).isSome) ∧ w' = w := by
  obtain ⟨rv, dv, P, hR, _⟩ := h.raw
  have c0 := hR.c0
  obtain ⟨ga, cap, rfl⟩ := own_sl hR.row
  rw [← hR.len] at c0
  clear h hR
  cases hd : dealAt B n with
  | none =>
    rcases dealAt_out hd with h0 | h0
    · clear hd
      go_enter Try.func17, Try.ntmps17
      go_wp2_with fail
      go_ret
      exact ⟨rfl, rfl⟩
    · have h1 : 0 ≤ n := by omega
      have h2 : decide (n < (B.L.length : Int)) = false := by simpa using h0
      clear hd h0
      go_enter Try.func17, Try.ntmps17
      go_wp2_with fail
      go_ret
      exact ⟨rfl, rfl⟩
  | some D =>
    obtain ⟨k, rfl, hk, _⟩ := dealAt_some hd
    have h1 : (0 : Int) ≤ (k : Int) := by omega
    have h2 : (k : Int) < (B.L.length : Int) := by omega
    clear hd
    go_enter Try.func17, Try.ntmps17
    go_wp2_with fail
    go_ret
    exact ⟨rfl, rfl⟩

set_option maxHeartbeats 1000000 in
theorem rstate_any (O : Nat → Prop) (B : Bok) (q : Nat) (n : Int) (w : World) (h : BrkIn O w q B) (hl : B.L.length ≤ 8) : Calls Try.prog 11 #[.pointer (some ⟨q, 0, none⟩), .int .i64 n] w fun e w' => e = .returned (.int .i64 (stR B n)) ∧ w' = w := by
  have HH := rhas_any O B q n w h hl
  obtain ⟨rv, dv, P, hR, _⟩ := h.raw
  unfold stR
  cases hd : dealAt B n with
  | none =>
    rw [hd] at HH
    clear hd hR
    go_enter Try.func11, Try.ntmps11
    go_wp2_with fail
    refine HH.mono ?_
    rintro e w' ⟨rfl, rfl⟩
    go_wp2_with fail
    go_ret
    exact ⟨rfl, rfl⟩
  | some D =>
    rw [hd] at HH
    obtain ⟨k, rfl, hk, hkD⟩ := dealAt_some hd
    obtain ⟨g, cap, v, rfl, _, h9, _, _, _⟩ := hR.deal9 hkD
    have c0 := hR.c0
    have d1 := h9.c1
    have h1 : (0 : Int) ≤ (k : Int) := by omega
    have h2 : (k : Int) < (B.L.length : Int) := by omega
    have h3 : (B.L.length : Int) ≤ 8 := by omega
    clear hd hkD hR h9 h
    go_enter Try.func11, Try.ntmps11
    go_wp2_with fail
    refine HH.mono ?_
    rintro e w' ⟨rfl, rfl⟩
    go_wp2_with fail
    go_ret
    exact ⟨rfl, rfl⟩

theorem flat_one (l : List (Int × Int)) : ∀ u ∈ flat l, u.oneCell' = true := by
  intro u hu
  unfold flat at hu
  rw [List.mem_flatMap] at hu
  obtain ⟨x, _, hx⟩ := hu
  simp only [List.mem_cons, List.not_mem_nil, or_false] at hx
  rcases hx with rfl | rfl <;> rfl
theorem nums_one (l : List Int) : ∀ u ∈ l.map (Value.int .i64), u.oneCell' = true := by
  intro u hu
  obtain ⟨x, _, rfl⟩ := List.mem_map.1 hu
  rfl

set_option maxHeartbeats 1000000 in
theorem rdone_any (O : Nat → Prop) (B : Bok) (q : Nat) (w : World) (h : BrkIn O w q B) (hl : B.ord.length < 1000) :
    Calls Try.prog 12 #[.pointer (some ⟨q, 0, none⟩)] w fun e w' => (∃ v, e = .returned v ∧ w'.ownsRow w.heap.size 3 1 v B.ord.length (B.ord.map (Value.int .i64))) ∧ Below w.heap.size w w' := by
  obtain ⟨i0, hi, hz0, hz1, hz2⟩ := info_parts infoInt
  obtain ⟨rv, dv, P, hR, _⟩ := h.raw
  have c1 := hR.c1
  have hrow := hR.ord
  have HRow : Hid (w.ownsRow (q + 1) 3 1 dv B.ord.length (B.ord.map (Value.int .i64))) := hrow
  have HLen : Hid (B.ord.length < 1000) := hl
  clear h hR hl hrow
  rcases HRow.out.2 with ⟨rfl, e0⟩ | ⟨g, cap, cur, rfl, _⟩
  · have e1 : B.ord = [] := List.length_eq_zero_iff.1 e0
    rw [e1]
    clear HRow e0 e1
    go_enter Try.func12, Try.ntmps12
    go_wp2_with fail
    go_ret
    exact ⟨⟨.slice none 0 0, rfl, World.ownsRow_nil _ _ _ _⟩, Below.refl _ _⟩
  · obtain ⟨_, _, _, _, hcell⟩ := own_row HRow.out
    have HC : Hid _ := hcell
    clear hcell
    have HL : Hid ((B.ord.map (Value.int .i64)).length = B.ord.length * 1) := by show _ = _; simp
    go_enter Try.func12, Try.ntmps12
    go_wp2_with (at_builtin; refine wpList_append_own _ rfl (.const (.slice none 0 0)) (.tmp 6) 23 rfl w.heap.size 3 i0 (.int .i64 0) 1 8 Try.underlying23 hi hz0 hz1 hz2 rfl (by decide) (.slice none 0 0) 0 [] rfl (World.ownsRow_nil _ _ _ _) ⟨g, 0, none⟩ B.ord.length cap (B.ord.map (Value.int .i64)) rfl HL.out (fun j u hj => by rw [addr_add]; exact HC.out j u hj) (nums_one _) (by have := HLen.out; unfold maxLen; omega) (by have := HLen.out; omega) (Nat.le_refl _) ?_; intro v7 w7 hown7 hgrow7 _)
    have hown8 : w7.ownsRow w.heap.size 3 1 v7 B.ord.length (B.ord.map (Value.int .i64)) := by simpa using hown7
    go_ret
    exact ⟨⟨v7, rfl, hown8⟩, (Below.refl _ _).grown hgrow7 (Nat.le_refl _) (fun k e => by simp [Value.ownBlock] at e)⟩

theorem dcells_st (D : Dl) (v : Value) (x : Int) : dcells ({ D with st := x }, v) = (dcells (D, v)).set 1 (.int .i64 x) := rfl

set_option maxHeartbeats 1000000 in
theorem rquit_any (O : Nat → Prop) (B : Bok) (q : Nat) (n : Int) (w : World) (h : BrkIn O w q B) (hI : BInv B) :
    Calls Try.prog 15 #[.pointer (some ⟨q, 0, none⟩), .int .i64 n] w fun e w' => e = .returned (.int .i64 (quitR B n).1) ∧ BrkTo O w w' q (quitR B n).2 := by
  have hl := hI.len
  have HH := rhas_any O B q n w h hl
  obtain ⟨rv, dv, P, hR, hsub⟩ := h.raw
  have HI : Hid (BrkIn O w q B) := h
  unfold quitR
  cases hd : dealAt B n with
  | none =>
    rw [hd] at HH
    clear hd hR
    go_enter Try.func15, Try.ntmps15
    go_wp2_with fail
    refine HH.mono ?_
    rintro e w' ⟨rfl, rfl⟩
    go_wp2_with fail
    go_ret
    exact ⟨rfl, BrkTo.stay HI.out (Below.refl _ _)⟩
  | some D =>
    rw [hd] at HH
    obtain ⟨k, rfl, hk, hkD⟩ := dealAt_some hd
    obtain ⟨g, cap, v, rfl, hP, h9, _, _, _⟩ := hR.deal9 hkD
    have c0 := hR.c0
    have d1 := h9.c1
    have d2 := h9.fr
    have h1 : (0 : Int) ≤ (k : Int) := by omega
    have h2 : (k : Int) < (B.L.length : Int) := by omega
    have h3 : (B.L.length : Int) ≤ 8 := by omega
    by_cases h0 : D.st = 0
    · have HE : Hid (BrkTo O w (w.setCell ⟨g, k * 9 + 1, none⟩ (.int .i64 2)) q (putD B (k : Int) { D with st := 2 })) := by
        have hS : Save O w (w.setCell ⟨g, k * 9 + 1, none⟩ (.int .i64 2)) := Save.setCell (Save.refl _ _) (p := ⟨g, k * 9 + 1, none⟩) (fun _ => hsub _ List.mem_cons_self g rfl) _
        refine brk_to h.own h.mine hS (hR.set h.lt hP (by decide) rfl (dcells_st D v 2)) (by simpa [go_sem] using h.loose) ?_
        intro u hu j hj
        rw [map_set_snd hP] at hu
        exact ⟨.inl (hsub u hu j hj), by simpa using h.own j (hsub u hu j hj)⟩
      simp only [if_pos h0]
      have h0' : (D.st != 0) = false := by simp [h0]
      clear hd hkD hR h9 h hsub h0 hP
      go_enter Try.func15, Try.ntmps15
      go_wp2_with fail
      refine HH.mono ?_
      rintro e w' ⟨rfl, rfl⟩
      go_wp2_with fail
      go_ret
      exact ⟨rfl, HE.out⟩
    · simp only [if_neg h0]
      have h0' : (D.st != 0) = true := by simpa using h0
      clear hd hkD hR h9 h hsub h0 hP
      go_enter Try.func15, Try.ntmps15
      go_wp2_with fail
      refine HH.mono ?_
      rintro e w' ⟨rfl, rfl⟩
      go_wp2_with fail
      go_ret
      exact ⟨rfl, BrkTo.stay HI.out (Below.refl _ _)⟩

end Go.Proofs.Ytndggiefgpdiiac
