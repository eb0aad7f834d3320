/- The contracts of keep.New and of a keeper's Records. -/
import Derived.Test.YtbgnajcmhmpjlabKDo
namespace Go.Proofs.Ytbgnajcmhmpjlab
open Go.RowKit

/-- What keep.New answers. -/
def NewKIs (no : Int) (ws : Nat → Int) (w w' : World) (e : Ending) : Prop :=
  if newOk no ws = true then ∃ q O, e = .returned (.pointer (some ⟨q, 0, none⟩)) ∧ KeepIn O w' q no ws ⟨book0 no ws, []⟩ ∧ ∀ k, O k → w.heap.size ≤ k else e = .returned (.pointer none)
theorem newKIs_nil {no : Int} {ws : Nat → Int} {w w' : World} {e : Ending} (h : newOk no ws = false) (he : e = .returned (.pointer none)) : NewKIs no ws w w' e := by
  unfold NewKIs; rw [if_neg (by rw [h]; simp)]; exact he

theorem kraw_new (w : World) (p : Nat) (no : Int) (ws : Nat → Int) (t : TypeId) : KeepRaw (w.alloc (.cells #[.pointer (some ⟨p, 0, none⟩), .int .i64 no, .int .i64 (ws 0), .int .i64 (ws 1), .int .i64 (ws 2), .int .i64 (ws 3), .int .i64 (ws 4), .int .i64 (ws 5), .slice none 0 0] t)) w.heap.size p no ws (.slice none 0 0) := by
  refine ⟨by simp, by simp [go_sem], by simp [go_sem], ?_, by simp [go_sem], by simp [go_sem]⟩
  intro j hj
  rcases six_cases hj with rfl | rfl | rfl | rfl | rfl | rfl <;> simp [go_sem]

set_option maxHeartbeats 2000000 in
theorem knew_any (no : Int) (ws : Nat → Int) (w : World) :
    Calls Try.prog 22 #[.int .i64 no, .agg #[.int .i64 (ws 0), .int .i64 (ws 1), .int .i64 (ws 2), .int .i64 (ws 3), .int .i64 (ws 4), .int .i64 (ws 5)]] w fun e w' => NewKIs no ws w w' e ∧ Below w.heap.size w w' := by
  go_enter Try.func22, Try.ntmps22
  go_wp2_with fail
  refine (snew_any no ws _).mono ?_
  rintro e w1 ⟨hN, hb1⟩
  have hX := (box_new6 w ws 23).next hb1
  have hw1 : Below w.heap.size w w1 := after (by go_grown) hb1 (by simp)
  unfold NewIs at hN
  by_cases hok : newOk no ws = true
  · rw [if_pos hok] at hN
    obtain ⟨p, O, rfl, hI, hO⟩ := hN
    have HOk : Hid _ := hok
    have HI : Hid (ShopIn O w1 p (book0 no ws)) := hI
    have HO : Hid (∀ k, O k → w.heap.size ≤ k) := fun k hk => Nat.le_trans (by simp) (hO k hk)
    have x0 := hX.2 0 _ rfl
    have x1 := hX.2 1 _ rfl
    have x2 := hX.2 2 _ rfl
    have x3 := hX.2 3 _ rfl
    have x4 := hX.2 4 _ rfl
    have x5 := hX.2 5 _ rfl
    clear hok hI hO hb1 hX
    go_wp2_with fail
    have hR := kraw_new w1 p no ws 53
    have hn : Below w1.heap.size w1 (w1.alloc (.cells #[.pointer (some ⟨p, 0, none⟩), .int .i64 no, .int .i64 (ws 0), .int .i64 (ws 1), .int .i64 (ws 2), .int .i64 (ws 3), .int .i64 (ws 4), .int .i64 (ws 5), .slice none 0 0] 53)) := (Below.refl _ _).alloc (Nat.le_refl _) _
    have hI2 := HI.out.next hn
    have hw2 := after hw1 hn hw1.size
    go_ret
    refine ⟨?_, hw2⟩
    unfold NewKIs
    rw [if_pos HOk.out]
    have nn : ∀ k, ¬ (Value.slice none 0 0).ownBlock = some k := fun k e => by simp [Value.ownBlock] at e
    have nq : ¬ O w1.heap.size := fun hk => by have := HI.out.own _ hk; omega
    refine ⟨w1.heap.size, fun k => O k ∨ k = w1.heap.size, rfl, ⟨fun k hk => ?_, .inr rfl, O, p, .slice none 0 0, hR, hI2, fun k hk => .inl hk, nq, World.ownsRow_nil _ _ _ _, fun k e => absurd e (nn k)⟩, fun k hk => ?_⟩
    · rcases hk with hk | rfl
      · exact hI2.own k hk
      · exact hR.lt
    · rcases hk with hk | rfl
      · exact HO.out k hk
      · exact hw1.size
  · rw [if_neg hok] at hN
    subst hN
    have HOk : Hid (newOk no ws = false) := by show _ = _; simpa using hok
    clear hok
    go_wp2_with fail
    go_ret
    exact ⟨newKIs_nil HOk.out rfl, hw1⟩

set_option maxHeartbeats 1000000 in
theorem krecs_any (O : Nat → Prop) (no : Int) (ws : Nat → Int) (K : Kb) (q : Nat) (w : World) (h : KeepIn O w q no ws K) (hlen : K.rs.length < 2 ^ 40) :
    Calls Try.prog 28 #[.pointer (some ⟨q, 0, none⟩)] w fun e w' => (∃ ga cap, e = .returned (.slice ga K.rs.length cap) ∧ StepsAt w' ga K.rs ∧ (∀ a, ga = some a → w.heap.size ≤ a.block ∧ a.block < w'.heap.size) ∧ K.rs.length ≤ cap) ∧ Below w.heap.size w w' := by
  obtain ⟨i0, hi, hz0, hz1, hz2⟩ := info_parts infoRec
  obtain ⟨Os, p, rv, hR, _, _, _, hrow, _⟩ := h.raw
  have g0 := hR.c8
  have HRow : Hid (w.ownsRow (q + 1) 51 5 rv K.rs.length (flat5 K.rs)) := hrow
  generalize K.rs = l at HRow hlen ⊢
  clear h hR hrow
  rcases HRow.out.2 with ⟨rfl, e0⟩ | ⟨g, cap, cur, rfl, _⟩
  · have : l = [] := List.length_eq_zero_iff.1 e0
    subst this
    clear HRow e0
    go_enter Try.func28, Try.ntmps28
    go_wp2_with fail
    go_ret
    exact ⟨⟨none, 0, rfl, by intro k x hk; simp at hk, by simp, Nat.le_refl _⟩, Below.refl _ _⟩
  · obtain ⟨_, _, _, _, hcell⟩ := own_row HRow.out
    have HC : Hid _ := hcell
    clear hcell
    have HL : Hid _ := flat5_length l
    go_enter Try.func28, Try.ntmps28
    go_wp2_with (at_builtin; refine wpList_append_own _ rfl (.const (.slice none 0 0)) (.tmp 6) 24 rfl w.heap.size 51 i0 (.agg #[.int .i64 0, .int .i64 0, .int .i64 0, .int .i64 0, .bool false]) 5 40 Try.underlying24 hi hz0 hz1 hz2 rfl (by decide) (.slice none 0 0) 0 [] rfl (World.ownsRow_nil _ _ _ _) ⟨g, 0, none⟩ l.length cap (flat5 l) rfl HL.out (fun j u hj => by rw [addr_add]; exact HC.out j u hj) (flat5_one l) (by unfold maxLen; omega) (by omega) (Nat.le_refl _) ?_; intro v7 w7 hown7 hgrow7 _)
    have hown8 : w7.ownsRow w.heap.size 51 5 v7 l.length (flat5 l) := by simpa using hown7
    obtain ⟨ga, cap7, rfl, hA, _⟩ := steps_of_own hown8
    go_ret
    have hcap : l.length ≤ cap7 := own_cap hown8
    refine ⟨⟨ga, cap7, rfl, hA, fun a e => ?_, hcap⟩, (Below.refl _ _).grown hgrow7 (Nat.le_refl _) (fun k e => by simp [Value.ownBlock] at e)⟩
    subst e
    exact hown8.lt a.block rfl

end Go.Proofs.Ytbgnajcmhmpjlab
