/- The contracts of a post's Send and place, and of the bag's. -/
import Derived.Test.YtbgnajcmhmpjlabMGet
import Derived.Deep.RegionLaw
namespace Go.Proofs.Ytbgnajcmhmpjlab
open Go.RowKit

theorem sendR_full {l : List Ml} {m : Ml} (h : 40 ≤ l.length) : sendR l m = (false, l) := by unfold sendR; rw [if_pos h]
theorem sendR_room {l : List Ml} {m : Ml} (h : ¬ 40 ≤ l.length) : sendR l m = (true, l ++ [m]) := by unfold sendR; rw [if_neg h]
theorem own_slice6 {w : World} {B e s n : Nat} {v : Value} {xs : List Value} (h : w.ownsRow B e s v n xs) : ∃ ga cap, v = .slice ga n cap := by
  rcases h.2 with ⟨e1, e0⟩ | ⟨g, cap, cur, e1, _⟩
  · exact ⟨none, 0, by rw [e1, e0]⟩
  · exact ⟨_, cap, e1⟩

set_option maxHeartbeats 4000000 in
set_option maxRecDepth 100000 in
theorem psend_any (O : Nat → Prop) (l : List Ml) (p o : Nat) (m : Ml) (w : World) (h : MailIn O w p o l) (hl : l.length < 1000) :
    Calls Try.prog 32 #[.pointer (some ⟨p, o, none⟩), .agg #[.int .i64 m.kind, .int .i64 m.deal, .int .i64 m.shop, .int .i64 m.c, .int .i64 m.d, .bool m.yes]] w fun e w' => e = .returned (.bool (sendR l m).1) ∧ Sent O w w' p o (sendR l m).2 := by
  obtain ⟨i0, hi, hz0, hz1, hz2⟩ := info_parts infoMail
  obtain ⟨mv, c0, hrow, hsub⟩ := h.raw
  have HOwn : Hid (∀ k, O k → k < w.heap.size) := h.own
  have HMine : Hid (O p) := h.mine
  have HIn : Hid (MailIn O w p o l) := h
  have hp := h.lt
  have hf := h.loose
  have HRow : Hid (w.ownsRow (p + 1) 71 6 mv l.length (flat6 l)) := hrow
  have HSub : Hid (∀ k, mv.ownBlock = some k → O k) := hsub
  have HN1 : Hid (some p ≠ mv.ownBlock) := fun e => by have := (HRow.out.lt p e.symm).1; omega
  have HN2 : Hid (some w.heap.size ≠ mv.ownBlock) := fun e => by have := HOwn.out _ (HSub.out _ e.symm); omega
  have HL : Hid (l.length < 1000) := hl
  obtain ⟨ga, cap, rfl⟩ := own_slice6 hrow
  clear h hrow hsub hl
  by_cases hfull : 40 ≤ l.length
  · have hfull' : (40 : Int) ≤ (l.length : Int) := by omega
    have HE : Hid _ := sendR_full (m := m) hfull
    clear hfull
    go_enter Try.func32, Try.ntmps32
    go_wp2_with fail
    go_ret
    rw [HE.out]
    exact ⟨rfl, Sent.stay HIn.out (by go_grown)⟩
  · have hfull' : ¬ (40 : Int) ≤ (l.length : Int) := by omega
    have HE : Hid _ := sendR_room (m := m) hfull
    clear hfull
    go_enter Try.func32, Try.ntmps32
    go_upto_region 3 with fail
    have x0 : (w.alloc (.cells #[.int .i64 m.kind, .int .i64 m.deal, .int .i64 m.shop, .int .i64 m.c, .int .i64 m.d, .bool m.yes] 71)).cell? ⟨p, o, none⟩ = some (.slice ga l.length cap) := by simp [go_sem, c0, hp]
    go_region_law
      (first | (refine step_append_two (by rfl) (.tmp 15) (.tmp 17) 66 (by rfl) (p + 1) 71 i0 (.agg #[.int .i64 0, .int .i64 0, .int .i64 0, .int .i64 0, .int .i64 0, .bool false]) 6 48 Try.underlying66 hi hz0 hz1 hz2 rfl (by decide) (.slice ga l.length cap) _ _ (by simp [Act.eval]) (own_next HRow.out (by go_grown)) ⟨w.heap.size + 1, 0, none⟩ 1 1 [.int .i64 m.kind, .int .i64 m.deal, .int .i64 m.shop, .int .i64 m.c, .int .i64 m.d, .bool m.yes] (by simp [Act.eval]) rfl (mail_lies (by simp [go_sem]) (by simp [go_sem]) (by simp [go_sem]) (by simp [go_sem]) (by simp [go_sem]) (by simp [go_sem])) mail_cell (by have := HL.out; unfold maxLen; omega) (by have := HL.out; omega) (by simp; omega) (by decide) ?_; intro v8 w8 hown8 hgrow8 hwh8; obtain ⟨ga8, cap8, rfl⟩ := own_slice6 hown8; have HO8 : Hid (w8.ownsRow (p + 1) 71 6 (.slice ga8 (l.length + 1) cap8) (l.length + 1) (flat6 l ++ [.int .i64 m.kind, .int .i64 m.deal, .int .i64 m.shop, .int .i64 m.c, .int .i64 m.d, .bool m.yes])) := hown8; clear hown8; have HW8 : Hid _ := hwh8; clear hwh8; have hk8 : w8.cell? ⟨p, o, none⟩ = some (.slice ga l.length cap) := hgrow8.cell (by simp [go_sem, c0, hp]) HN1.out; have hf8 : ∀ k, w8.frozen? ⟨p, k, none⟩ = false := fun k => (World.frozen?_of_block (hgrow8.block p (by simp; omega) HN1.out)).trans (by simp [go_sem, hf, hp])))
    all_goals
      have hS8 : Save O w w8 := (Save.of_below (by go_grown)).grown hgrow8 (fun k e _ => HSub.out k e)
      have hR8 : Rest p o w w8 := (Rest.below (by go_grown) hp).trans (Rest.grown hgrow8 (by simp; omega) HN1.out)
      have hsz8 : w.heap.size ≤ w8.heap.size := hS8.size
      go_wp2_with fail
      go_ret
      rw [HE.out]
      refine ⟨rfl, sent_store HOwn.out HMine.out hS8 hR8 hf8 hk8 ?_ ?_⟩
      · have e1 : (l ++ [m]).length = l.length + 1 := by simp
        have e2 : flat6 (l ++ [m]) = flat6 l ++ [.int .i64 m.kind, .int .i64 m.deal, .int .i64 m.shop, .int .i64 m.c, .int .i64 m.d, .bool m.yes] := flat6_snoc _ _
        show World.ownsRow _ _ _ _ _ (l ++ [m]).length (flat6 (l ++ [m]))
        rw [e1, e2]
        exact HO8.out
      · intro k hk
        rcases HW8.out k hk with h1 | h1
        · exact .inl (HSub.out k h1)
        · right
          simp at h1
          omega

theorem rnd_wrap (n : Int) (k : Nat) (hk : 0 < k) (hb : k < 1000) : wrap64 ((IntKind.u64.wrap n).tmod (k : Int)) = (rnd n k : Int) := by
  have h0 : 0 ≤ IntKind.u64.wrap n := by rw [IntKind.wrap_u64]; omega
  have h1 : (IntKind.u64.wrap n).tmod (k : Int) = IntKind.u64.wrap n % (k : Int) := Int.tmod_eq_emod_of_nonneg h0
  have h2 : 0 ≤ IntKind.u64.wrap n % (k : Int) := Int.emod_nonneg _ (by omega)
  have h3 : IntKind.u64.wrap n % (k : Int) < (k : Int) := Int.emod_lt_of_pos _ (by omega)
  rw [h1]
  have h4 : wrap64 (IntKind.u64.wrap n % (k : Int)) = IntKind.u64.wrap n % (k : Int) := by unfold wrap64; omega
  rw [h4]
  unfold rnd
  rw [Int.natCast_emod, Int.toNat_of_nonneg (by omega), IntKind.wrap_u64]

theorem ret_two {k : IntKind} {a b : Int} {v : Value} (h : a = b) : Ending.returned (.tuple #[.int k a, v]) = .returned (.tuple #[.int k b, v]) := by rw [h]
set_option maxHeartbeats 1000000 in
theorem pplace_any (O : Nat → Prop) (l : List Ml) (p o : Nat) (n : Int) (w : World) (h : MailIn O w p o l) (hl : l.length < 1000) (hne : l ≠ []) :
    Calls Try.prog 69 #[.pointer (some ⟨p, o, none⟩), .int .i64 n] w fun e w' => e = .returned (.tuple #[.int .i64 (rnd n l.length : Int), .bool true]) ∧ Below w.heap.size w w' := by
  obtain ⟨mv, c0, hrow, _⟩ := h.raw
  obtain ⟨ga, cap, rfl⟩ := own_slice6 hrow
  have hpos : 0 < l.length := List.length_pos_iff.2 hne
  clear h hrow hne
  have hk : (0 : Int) < (l.length : Int) := by omega
  have hk1 : (l.length : Int) < 1000 := by omega
  have hk2 : ((l.length : Int) == 0) = false := by rw [beq_eq_false_iff_ne]; omega
  have HR : Hid _ := rnd_wrap n l.length hpos hl
  generalize l.length = len at *
  clear hpos hl
  go_enter Try.func69, Try.ntmps69
  go_wp2_with fail
  go_ret2
  exact ⟨ret_two HR.out, Below.refl _ _⟩

set_option maxHeartbeats 4000000 in
set_option maxRecDepth 100000 in
theorem gsend_any (O : Nat → Prop) (l : List Ml) (p o : Nat) (m : Ml) (w : World) (h : MailIn O w p o l) (hl : l.length < 1000) :
    Calls Try.prog 33 #[.pointer (some ⟨p, o, none⟩), .agg #[.int .i64 m.kind, .int .i64 m.deal, .int .i64 m.shop, .int .i64 m.c, .int .i64 m.d, .bool m.yes]] w fun e w' => e = .returned (.bool (sendR l m).1) ∧ Sent O w w' p o (sendR l m).2 := by
  obtain ⟨i0, hi, hz0, hz1, hz2⟩ := info_parts infoMail
  obtain ⟨mv, c0, hrow, hsub⟩ := h.raw
  have HOwn : Hid (∀ k, O k → k < w.heap.size) := h.own
  have HMine : Hid (O p) := h.mine
  have HIn : Hid (MailIn O w p o l) := h
  have hp := h.lt
  have hf := h.loose
  have HRow : Hid (w.ownsRow (p + 1) 71 6 mv l.length (flat6 l)) := hrow
  have HSub : Hid (∀ k, mv.ownBlock = some k → O k) := hsub
  have HN1 : Hid (some p ≠ mv.ownBlock) := fun e => by have := (HRow.out.lt p e.symm).1; omega
  have HN2 : Hid (some w.heap.size ≠ mv.ownBlock) := fun e => by have := HOwn.out _ (HSub.out _ e.symm); omega
  have HL : Hid (l.length < 1000) := hl
  obtain ⟨ga, cap, rfl⟩ := own_slice6 hrow
  clear h hrow hsub hl
  by_cases hfull : 40 ≤ l.length
  · have hfull' : (40 : Int) ≤ (l.length : Int) := by omega
    have HE : Hid _ := sendR_full (m := m) hfull
    clear hfull
    go_enter Try.func33, Try.ntmps33
    go_wp2_with fail
    go_ret
    rw [HE.out]
    exact ⟨rfl, Sent.stay HIn.out (by go_grown)⟩
  · have hfull' : ¬ (40 : Int) ≤ (l.length : Int) := by omega
    have HE : Hid _ := sendR_room (m := m) hfull
    clear hfull
    go_enter Try.func33, Try.ntmps33
    go_upto_region 3 with fail
    have x0 : (w.alloc (.cells #[.int .i64 m.kind, .int .i64 m.deal, .int .i64 m.shop, .int .i64 m.c, .int .i64 m.d, .bool m.yes] 71)).cell? ⟨p, o, none⟩ = some (.slice ga l.length cap) := by simp [go_sem, c0, hp]
    go_region_law
      (first | (refine step_append_two (by rfl) (.tmp 13) (.tmp 15) 67 (by rfl) (p + 1) 71 i0 (.agg #[.int .i64 0, .int .i64 0, .int .i64 0, .int .i64 0, .int .i64 0, .bool false]) 6 48 Try.underlying67 hi hz0 hz1 hz2 rfl (by decide) (.slice ga l.length cap) _ _ (by simp [Act.eval]) (own_next HRow.out (by go_grown)) ⟨w.heap.size + 1, 0, none⟩ 1 1 [.int .i64 m.kind, .int .i64 m.deal, .int .i64 m.shop, .int .i64 m.c, .int .i64 m.d, .bool m.yes] (by simp [Act.eval]) rfl (mail_lies (by simp [go_sem]) (by simp [go_sem]) (by simp [go_sem]) (by simp [go_sem]) (by simp [go_sem]) (by simp [go_sem])) mail_cell (by have := HL.out; unfold maxLen; omega) (by have := HL.out; omega) (by simp; omega) (by decide) ?_; intro v8 w8 hown8 hgrow8 hwh8; obtain ⟨ga8, cap8, rfl⟩ := own_slice6 hown8; have HO8 : Hid (w8.ownsRow (p + 1) 71 6 (.slice ga8 (l.length + 1) cap8) (l.length + 1) (flat6 l ++ [.int .i64 m.kind, .int .i64 m.deal, .int .i64 m.shop, .int .i64 m.c, .int .i64 m.d, .bool m.yes])) := hown8; clear hown8; have HW8 : Hid _ := hwh8; clear hwh8; have hk8 : w8.cell? ⟨p, o, none⟩ = some (.slice ga l.length cap) := hgrow8.cell (by simp [go_sem, c0, hp]) HN1.out; have hf8 : ∀ k, w8.frozen? ⟨p, k, none⟩ = false := fun k => (World.frozen?_of_block (hgrow8.block p (by simp; omega) HN1.out)).trans (by simp [go_sem, hf, hp])))
    all_goals
      have hS8 : Save O w w8 := (Save.of_below (by go_grown)).grown hgrow8 (fun k e _ => HSub.out k e)
      have hR8 : Rest p o w w8 := (Rest.below (by go_grown) hp).trans (Rest.grown hgrow8 (by simp; omega) HN1.out)
      have hsz8 : w.heap.size ≤ w8.heap.size := hS8.size
      go_wp2_with fail
      go_ret
      rw [HE.out]
      refine ⟨rfl, sent_store HOwn.out HMine.out hS8 hR8 hf8 hk8 ?_ ?_⟩
      · have e1 : (l ++ [m]).length = l.length + 1 := by simp
        have e2 : flat6 (l ++ [m]) = flat6 l ++ [.int .i64 m.kind, .int .i64 m.deal, .int .i64 m.shop, .int .i64 m.c, .int .i64 m.d, .bool m.yes] := flat6_snoc _ _
        show World.ownsRow _ _ _ _ _ (l ++ [m]).length (flat6 (l ++ [m]))
        rw [e1, e2]
        exact HO8.out
      · intro k hk
        rcases HW8.out k hk with h1 | h1
        · exact .inl (HSub.out k h1)
        · right
          simp at h1
          omega

set_option maxHeartbeats 1000000 in
theorem gat_any (O : Nat → Prop) (l : List Ml) (p o : Nat) (n : Int) (w : World) (h : MailIn O w p o l) (hl : l.length < 1000) (hne : l ≠ []) :
    Calls Try.prog 71 #[.pointer (some ⟨p, o, none⟩), .int .i64 n] w fun e w' => e = .returned (.int .i64 (rnd n l.length : Int)) ∧ Below w.heap.size w w' := by
  obtain ⟨mv, c0, hrow, _⟩ := h.raw
  obtain ⟨ga, cap, rfl⟩ := own_slice6 hrow
  have hpos : 0 < l.length := List.length_pos_iff.2 hne
  clear h hrow hne
  have hk : (0 : Int) < (l.length : Int) := by omega
  have hk1 : (l.length : Int) < 1000 := by omega
  have HR : Hid _ := rnd_wrap n l.length hpos hl
  generalize l.length = len at *
  clear hpos hl
  go_enter Try.func71, Try.ntmps71
  go_wp2_with fail
  go_ret
  exact ⟨ret_int HR.out, Below.refl _ _⟩

end Go.Proofs.Ytbgnajcmhmpjlab
