/- The contract of the bag's Double. -/
import Derived.Test.YtbgnajcmhmpjlabMBag
import Derived.Deep.RegionHeld3
namespace Go.Proofs.Ytbgnajcmhmpjlab
open Go.RowKit

set_option maxHeartbeats 1000000 in
theorem gdbl_none (O : Nat → Prop) (p o : Nat) (n : Int) (w : World) (h : MailIn O w p o []) :
    Calls Try.prog 37 #[.pointer (some ⟨p, o, none⟩), .int .i64 n] w fun e w' => e = .returned (.bool false) ∧ Below w.heap.size w w' := by
  obtain ⟨mv, g0, hrow, _⟩ := h.raw
  obtain ⟨ga, cap, rfl⟩ := own_slice6 hrow
  have hk2 : ((([] : List Ml).length : Int) == 0) = true := rfl
  clear h hrow
  go_enter Try.func37, Try.ntmps37
  go_wp2_with fail
  go_ret
  exact ⟨rfl, Below.refl _ _⟩
set_option maxHeartbeats 2000000 in
theorem gdbl_some (O : Nat → Prop) (l : List Ml) (p o : Nat) (n : Int) (m : Ml) (w : World) (h : MailIn O w p o l) (hl : l.length < 1000) (hm : l[rnd n l.length]? = some m) :
    Calls Try.prog 37 #[.pointer (some ⟨p, o, none⟩), .int .i64 n] w fun e w' => e = .returned (.bool (sendR l m).1) ∧ Sent O w w' p o (sendR l m).2 := by
  have HI : Hid (MailIn O w p o l) := h
  have HL : Hid (l.length < 1000) := hl
  have hk := (List.getElem?_eq_some_iff.1 hm).1
  have HM : Hid _ := hm
  have hne : ((l.length : Int) == 0) = false := by rw [beq_eq_false_iff_ne]; omega
  obtain ⟨mv, c0, hrow, hsub⟩ := h.raw
  obtain ⟨g, cap, rfl⟩ := own_some hrow (by omega)
  obtain ⟨_, hR, hnc, _, hcell⟩ := own_row hrow
  have hfl := flat6_at l _ m HM.out
  have HA : Hid (∀ W : World, Below w.heap.size w W → Calls Try.prog 71 #[.pointer (some ⟨p, o, none⟩), .int .i64 n] W fun e w' => e = .returned (.int .i64 (rnd n l.length : Int)) ∧ Below W.heap.size W w') := fun W hW => gat_any O l p o n W (HI.out.next hW) HL.out (by intro e; rw [e] at hk; simp at hk)
  have HS : Hid (∀ W : World, Below w.heap.size w W → Calls Try.prog 33 #[.pointer (some ⟨p, o, none⟩), .agg #[.int .i64 m.kind, .int .i64 m.deal, .int .i64 m.shop, .int .i64 m.c, .int .i64 m.d, .bool m.yes]] W fun e w' => e = .returned (.bool (sendR l m).1) ∧ Sent O w w' p o (sendR l m).2) := fun W hW => (gsend_any O l p o m W (HI.out.next hW) HL.out).mono (fun e w' h => ⟨h.1, Sent.behind HI.out hW h.2⟩)
  generalize rnd n l.length = k at *
  have hgl := hR.lt
  have hpl := h.lt
  have HK : Hid (∀ w', Below w.heap.size w w' → w'.cell? ⟨p, o, none⟩ = some (.slice (some ⟨g, 0, none⟩) l.length cap) ∧ w'.cell? ⟨g, k * 6, none⟩ = some (.int .i64 m.kind) ∧ w'.cell? ⟨g, k * 6 + 1, none⟩ = some (.int .i64 m.deal) ∧ w'.cell? ⟨g, k * 6 + 2, none⟩ = some (.int .i64 m.shop) ∧ w'.cell? ⟨g, k * 6 + 3, none⟩ = some (.int .i64 m.c) ∧ w'.cell? ⟨g, k * 6 + 4, none⟩ = some (.int .i64 m.d) ∧ w'.cell? ⟨g, k * 6 + 5, none⟩ = some (.bool m.yes) ∧ Below w.heap.size w w') := fun w' hb => ⟨((bcell hb).1 _ _ hpl).trans c0, ((bcell hb).1 _ _ hgl).trans (hcell _ _ (hfl 0 _ rfl)), ((bcell hb).1 _ _ hgl).trans (hcell _ _ (hfl 1 _ rfl)), ((bcell hb).1 _ _ hgl).trans (hcell _ _ (hfl 2 _ rfl)), ((bcell hb).1 _ _ hgl).trans (hcell _ _ (hfl 3 _ rfl)), ((bcell hb).1 _ _ hgl).trans (hcell _ _ (hfl 4 _ rfl)), ((bcell hb).1 _ _ hgl).trans (hcell _ _ (hfl 5 _ rfl)), hb⟩
  have j0 : (0 : Int) ≤ (k : Int) := by omega
  have j1 : (k : Int) < (l.length : Int) := by omega
  obtain ⟨q0, q1, q2, q3, q4, q5, q6, _⟩ := HK.out w.drew ((Below.refl _ _).drew)
  clear h hl hm hrow hsub hR hcell hfl
  go_enter Try.func37, Try.ntmps37
  go_upto_region 3 with fail
  clear c0
  go_region_with (first | (go_at_call 71; refine Calls.mono (HA.out _ (by go_grown)) ?_; rintro e w9 ⟨rfl, hb9⟩; have hw9 : Below w.heap.size w w9 := after (by go_grown) hb9 (by simp); obtain ⟨r0, r1, r2, r3, r4, r5, r6, _⟩ := HK.out w9 hw9; clear hb9) | (go_at_call 33; refine Calls.mono (HS.out _ (by go_grown)) ?_; rintro e w10 ⟨rfl, hs10⟩; have HS10 : Hid _ := hs10; clear hs10))
  all_goals
    go_wp2_with fail
    go_ret
    exact ⟨rfl, HS10.out⟩

end Go.Proofs.Ytbgnajcmhmpjlab
