/- The contracts of post.New, Len and List. -/
import Derived.Test.YtbgnajcmhmpjlabMSame
namespace Go.Proofs.Ytbgnajcmhmpjlab
open Go.RowKit

theorem pnew_any (w : World) : Calls Try.prog 31 #[] w fun e w' => (∃ p O, e = .returned (.pointer (some ⟨p, 0, none⟩)) ∧ MailIn O w' p 0 [] ∧ ∀ k, O k → w.heap.size ≤ k) ∧ Below w.heap.size w w' := by
  go_enter Try.func31, Try.ntmps31
  go_wp2_with fail
  go_ret
  refine ⟨⟨w.heap.size, fun k => k = w.heap.size, rfl, ⟨fun k hk => by rw [hk]; simp, rfl, by simp [go_sem], .slice none 0 0, by simp [go_sem], World.ownsRow_nil _ _ _ _, fun k e => by simp [Value.ownBlock] at e⟩, fun k hk => by rw [hk]; exact Nat.le_refl _⟩, by go_grown⟩
theorem plen_any (O : Nat → Prop) (l : List Ml) (p o : Nat) (w : World) (h : MailIn O w p o l) : Calls Try.prog 38 #[.pointer (some ⟨p, o, none⟩)] w fun e w' => e = .returned (.int .i64 (l.length : Int)) ∧ Below w.heap.size w w' := by
  obtain ⟨mv, c0, hrow, _⟩ := h.raw
  obtain ⟨ga, cap, rfl, _, _⟩ := mails_of_own hrow
  clear h hrow
  go_enter Try.func38, Try.ntmps38
  go_wp2_with fail
  go_ret
  exact ⟨rfl, Below.refl _ _⟩
set_option maxHeartbeats 1000000 in
theorem plist_own (O : Nat → Prop) (l : List Ml) (p o : Nat) (w : World) (h : MailIn O w p o l) (hlen : l.length < 1000) :
    Calls Try.prog 40 #[.pointer (some ⟨p, o, none⟩)] w fun e w' => (∃ v, e = .returned v ∧ w'.ownsRow w.heap.size 71 6 v l.length (flat6 l)) ∧ Below w.heap.size w w' := by
  obtain ⟨i0, hi, hz0, hz1, hz2⟩ := info_parts infoMail
  obtain ⟨mv, g0, hrow, _⟩ := h.raw
  have HRow : Hid (w.ownsRow (p + 1) 71 6 mv l.length (flat6 l)) := hrow
  have HLen : Hid (l.length < 1000) := hlen
  clear h hrow hlen
  rcases HRow.out.2 with ⟨rfl, e0⟩ | ⟨g, cap, cur, rfl, _⟩
  · have : l = [] := List.length_eq_zero_iff.1 e0
    subst this
    clear HRow e0
    go_enter Try.func40, Try.ntmps40
    go_wp2_with fail
    go_ret
    exact ⟨⟨.slice none 0 0, rfl, World.ownsRow_nil _ _ _ _⟩, Below.refl _ _⟩
  · obtain ⟨_, _, _, _, hcell⟩ := own_row HRow.out
    have HC : Hid _ := hcell
    clear hcell
    have HL : Hid _ := flat6_length l
    go_enter Try.func40, Try.ntmps40
    go_wp2_with (at_builtin; refine wpList_append_own _ rfl (.const (.slice none 0 0)) (.tmp 6) 66 rfl w.heap.size 71 i0 (.agg #[.int .i64 0, .int .i64 0, .int .i64 0, .int .i64 0, .int .i64 0, .bool false]) 6 48 Try.underlying66 hi hz0 hz1 hz2 rfl (by decide) (.slice none 0 0) 0 [] rfl (World.ownsRow_nil _ _ _ _) ⟨g, 0, none⟩ l.length cap (flat6 l) rfl HL.out (fun j u hj => by rw [addr_add]; exact HC.out j u hj) (flat6_one l) (by have := HLen.out; unfold maxLen; omega) (by have := HLen.out; omega) (Nat.le_refl _) ?_; intro v7 w7 hown7 hgrow7 _)
    have hown8 : w7.ownsRow w.heap.size 71 6 v7 l.length (flat6 l) := by simpa using hown7
    go_ret
    exact ⟨⟨v7, rfl, hown8⟩, (Below.refl _ _).grown hgrow7 (Nat.le_refl _) (fun k e => by simp [Value.ownBlock] at e)⟩
theorem plist_any (O : Nat → Prop) (l : List Ml) (p o : Nat) (w : World) (h : MailIn O w p o l) (hlen : l.length < 1000) :
    Calls Try.prog 40 #[.pointer (some ⟨p, o, none⟩)] w fun e w' => (∃ ga cap, e = .returned (.slice ga l.length cap) ∧ MailsAt w' ga l ∧ (∀ a, ga = some a → w.heap.size ≤ a.block ∧ a.block < w'.heap.size) ∧ l.length ≤ cap) ∧ Below w.heap.size w w' := by
  refine (plist_own O l p o w h hlen).mono ?_
  rintro e w' ⟨⟨v, rfl, hown⟩, hb⟩
  obtain ⟨ga, cap, rfl, hA, _⟩ := mails_of_own hown
  refine ⟨⟨ga, cap, rfl, hA, fun a e => ?_, own_cap hown⟩, hb⟩
  subst e
  exact hown.lt a.block rfl

end Go.Proofs.Ytbgnajcmhmpjlab
