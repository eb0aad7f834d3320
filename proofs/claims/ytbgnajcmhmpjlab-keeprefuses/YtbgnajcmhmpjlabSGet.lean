/- The contracts of a shop's Over, Counts and Holds. -/
import Derived.Test.YtbgnajcmhmpjlabSHold
namespace Go.Proofs.Ytbgnajcmhmpjlab
open Go.RowKit

theorem ovB_range {A : Bk} (hG : Good A) {x : Int} (h : x < 0 ∨ 8 ≤ x) : ovB A.es x = false ∧ dnB A.es x = false := by
  have e : over A.es x = none := over_none (fun e he => by have := hG.ends e he; omega)
  unfold ovB dnB
  rw [e]
  exact ⟨rfl, rfl⟩

set_option maxHeartbeats 1000000 in
theorem sover_any (O : Nat → Prop) (A : Bk) (p : Nat) (deal : Int) (w : World) (h : ShopIn O w p A) (hG : Good A) :
    Calls Try.prog 29 #[.pointer (some ⟨p, 0, none⟩), .int .i64 deal] w fun e w' => e = .returned (.tuple #[.bool (ovB A.es deal), .bool (dnB A.es deal)]) ∧ Below w.heap.size w w' := by
  by_cases hr : deal < 0 ∨ 8 ≤ deal
  · obtain ⟨e1, e2⟩ := ovB_range hG hr
    rw [e1, e2]
    clear h hG e1 e2
    go_enter Try.func29, Try.ntmps29
    go_wp2_with fail
    refine (isDeal_no _ _ hr).mono ?_
    rintro e w1 ⟨rfl, rfl⟩
    go_wp2_with fail
    exact bodyPost_ret (v := .tuple #[.bool false, .bool false]) (by simp [results, Try.results29, go_sem]) rfl ⟨rfl, Below.refl _ _⟩
  · have d0 : 0 ≤ deal := by omega
    have d8 : deal < 8 := by omega
    obtain ⟨n, rfl⟩ := Int.eq_ofNat_of_zero_le d0
    have hn : n < 8 := by omega
    obtain ⟨hv, hR, _, _⟩ := h.raw
    have o1 := hR.ov n hn
    have o2 := hR.dn n hn
    generalize ovB A.es (n : Int) = b1 at o1 ⊢
    generalize dnB A.es (n : Int) = b2 at o2 ⊢
    clear h hG hR hr
    go_enter Try.func29, Try.ntmps29
    go_wp2_with fail
    refine (isDeal_yes _ _ d0 d8).mono ?_
    rintro e w1 ⟨rfl, rfl⟩
    go_wp2_with fail
    go_quiet (fail)
    go_wp2_with fail
    exact bodyPost_ret (v := .tuple #[.bool b1, .bool b2]) (by simp [results, Try.results29, go_sem]) rfl ⟨rfl, bdrewN (Below.refl _ _) _⟩

/-- The two counters, as a value. -/
def cntV (c : Nat → Int) : Value := .agg #[.int .i64 (c 0), .int .i64 (c 1), .int .i64 (c 2), .int .i64 (c 3), .int .i64 (c 4), .int .i64 (c 5)]
set_option maxHeartbeats 1000000 in
theorem scounts_any (O : Nat → Prop) (A : Bk) (p : Nat) (w : World) (h : ShopIn O w p A) :
    Calls Try.prog 18 #[.pointer (some ⟨p, 0, none⟩)] w fun e w' => e = .returned (cntV (cnt6 A)) ∧ Below w.heap.size w w' := by
  obtain ⟨hv, hR, _, _⟩ := h.raw
  have c0 : w.cell? ⟨p, 1, none⟩ = some (.int .i64 (cnt6 A 0)) := hR.cs 0 (by omega)
  have c1 : w.cell? ⟨p, 2, none⟩ = some (.int .i64 (cnt6 A 1)) := hR.cs 1 (by omega)
  have c2 : w.cell? ⟨p, 3, none⟩ = some (.int .i64 (cnt6 A 2)) := hR.cs 2 (by omega)
  have c3 : w.cell? ⟨p, 4, none⟩ = some (.int .i64 (cnt6 A 3)) := hR.cs 3 (by omega)
  have c4 : w.cell? ⟨p, 5, none⟩ = some (.int .i64 (cnt6 A 4)) := hR.cs 4 (by omega)
  have c5 : w.cell? ⟨p, 6, none⟩ = some (.int .i64 (cnt6 A 5)) := hR.cs 5 (by omega)
  have hlt := hR.lt
  unfold cntV
  generalize cnt6 A = f at c0 c1 c2 c3 c4 c5 ⊢
  clear h hR
  go_enter Try.func18, Try.ntmps18
  go_wp2_with fail
  exact bodyPost_ret (v := .agg #[.int .i64 (f 0), .int .i64 (f 1), .int .i64 (f 2), .int .i64 (f 3), .int .i64 (f 4), .int .i64 (f 5)]) (by simp [results, Try.results18, go_sem]) rfl ⟨rfl, by go_grown⟩

theorem flat3_one (l : List H3) : ∀ u ∈ flat3 l, u.oneCell' = true := by
  intro u hu
  unfold flat3 at hu
  rw [List.mem_flatMap] at hu
  obtain ⟨x, _, hx⟩ := hu
  simp only [List.mem_cons, List.not_mem_nil, or_false] at hx
  rcases hx with rfl | rfl | rfl <;> rfl
theorem HoldsAt.save {O : Nat → Prop} {w w' : World} {la : Option Addr} {l : List H3} (h : HoldsAt w la l) (hb : Save O w w') (hn : ∀ a, la = some a → ¬ O a.block) : HoldsAt w' la l := by
  intro k a c d hk
  obtain ⟨b, off, e, hlt, h0, h1, h2⟩ := h k a c d hk
  have hn' : ¬ O b := hn _ e
  exact ⟨b, off, e, Nat.lt_of_lt_of_le hlt hb.size, (hb.cell (p := ⟨b, _, none⟩) hlt hn').trans h0, (hb.cell (p := ⟨b, _, none⟩) hlt hn').trans h1, (hb.cell (p := ⟨b, _, none⟩) hlt hn').trans h2⟩

set_option maxHeartbeats 1000000 in
theorem sholds_any (O : Nat → Prop) (A : Bk) (p : Nat) (w : World) (h : ShopIn O w p A) (hlen : A.hs.length < 2 ^ 40) :
    Calls Try.prog 21 #[.pointer (some ⟨p, 0, none⟩)] w fun e w' => (∃ ga cap, e = .returned (.slice ga A.hs.length cap) ∧ HoldsAt w' ga A.hs ∧ (∀ a, ga = some a → w.heap.size ≤ a.block ∧ a.block < w'.heap.size)) ∧ Below w.heap.size w w' := by
  obtain ⟨i0, hi, hz0, hz1, hz2⟩ := info_parts infoHold
  obtain ⟨hv, hR, hrow, _⟩ := h.raw
  have g0 := hR.hv
  have HRow : Hid (w.ownsRow (p + 1) 92 3 hv A.hs.length (flat3 A.hs)) := hrow
  generalize A.hs = l at HRow hlen ⊢
  clear h hR hrow
  rcases HRow.out.2 with ⟨rfl, e0⟩ | ⟨g, cap, cur, rfl, _⟩
  · have : l = [] := List.length_eq_zero_iff.1 e0
    subst this
    clear HRow e0
    go_enter Try.func21, Try.ntmps21
    go_wp2_with fail
    go_ret
    exact ⟨⟨none, 0, rfl, by intro k a c d hk; simp at hk, by simp⟩, Below.refl _ _⟩
  · obtain ⟨_, _, _, _, hcell⟩ := own_row HRow.out
    have HC : Hid _ := hcell
    clear hcell
    have HL : Hid _ := flat3_length l
    go_enter Try.func21, Try.ntmps21
    go_wp2_with (at_builtin; refine wpList_append_own _ rfl (.const (.slice none 0 0)) (.tmp 6) 39 rfl w.heap.size 92 i0 (.agg #[.int .i64 0, .int .i64 0, .int .i64 0]) 3 24 Try.underlying39 hi hz0 hz1 hz2 rfl (by decide) (.slice none 0 0) 0 [] rfl (World.ownsRow_nil _ _ _ _) ⟨g, 0, none⟩ l.length cap (flat3 l) rfl HL.out (fun j u hj => by rw [addr_add]; exact HC.out j u hj) (flat3_one l) (by unfold maxLen; omega) (by omega) (Nat.le_refl _) ?_; intro v7 w7 hown7 hgrow7 _)
    have hown8 : w7.ownsRow w.heap.size 92 3 v7 l.length (flat3 l) := by simpa using hown7
    obtain ⟨ga, cap7, rfl, hA, _⟩ := holds_of_own hown8
    go_ret
    refine ⟨⟨ga, ⟨cap7, rfl⟩, hA, fun a e => ?_⟩, (Below.refl _ _).grown hgrow7 (Nat.le_refl _) (fun k e => by simp [Value.ownBlock] at e)⟩
    subst e
    exact hown8.lt a.block rfl

end Go.Proofs.Ytbgnajcmhmpjlab
