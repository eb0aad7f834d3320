/- The contracts of the two searches' questions, and of the search. -/
import Derived.Test.YtbgnajcmhmpjlabSBox
import Derived.Shelf.Abstract
namespace Go.Proofs.Ytbgnajcmhmpjlab
open Go.RowKit

/-- A question about a hold, asked by a closure, in worlds in which C holds. -/
structure PredIs (g : Nat) (lb : Array Value) (q : H3 → Bool) (C : World → Prop) : Prop where
  enters : ∀ args w, (callFunc g args).run Try.prog w = .ok (.enter g args) w
  keeps : ∀ W W', C W → Below W.heap.size W W' → C W'
  says : ∀ W a c d, C W → Calls Try.prog g (#[.agg #[.int .i64 a, .int .i64 c, .int .i64 d]] ++ lb) W fun e w' => e = .returned (.bool (q (a, c, d))) ∧ Below W.heap.size W w'

theorem holdPred (deal c0 d0 : Int) (bd bw : Nat) : PredIs 103 #[.pointer (some ⟨bd, 0, none⟩), .pointer (some ⟨bw, 0, none⟩)] (same deal c0) (fun W => BoxAt W bd [.int .i64 deal] ∧ BoxAt W bw [.int .i64 c0, .int .i64 d0]) := by
  refine ⟨enters_of Try.func103 (by kernel_rfl) rfl, fun W W' h hb => ⟨h.1.next hb, h.2.next hb⟩, ?_⟩
  intro W a c d hC
  have x0 := hC.1.2 0 _ rfl
  have y0 := hC.2.2 0 _ rfl
  have hb := hC.1.1
  have hw := hC.2.1
  have hbn : bd ≠ W.heap.size := by omega
  have hwn : bw ≠ W.heap.size := by omega
  clear hC
  show Calls Try.prog 103 #[.agg #[.int .i64 a, .int .i64 c, .int .i64 d], .pointer (some ⟨bd, 0, none⟩), .pointer (some ⟨bw, 0, none⟩)] W _
  cases h1 : (a == deal)
  · have e1 : same deal c0 (a, c, d) = false := by simp [same, h1]
    rw [e1]
    clear e1
    go_enter Try.func103, Try.ntmps103
    go_wp2_with fail
    go_ret
    exact ⟨rfl, by go_grown⟩
  · have e1 : same deal c0 (a, c, d) = (c == c0) := by simp [same, h1]
    rw [e1]
    clear e1
    go_enter Try.func103, Try.ntmps103
    go_wp2_with fail
    go_ret
    exact ⟨rfl, by go_grown⟩

theorem endPred (deal : Int) (bd : Nat) : PredIs 105 #[.pointer (some ⟨bd, 0, none⟩)] (fun h => h.1 == deal) (fun W => BoxAt W bd [.int .i64 deal]) := by
  refine ⟨enters_of Try.func105 (by kernel_rfl) rfl, fun W W' h hb => h.next hb, ?_⟩
  intro W a c d hC
  have x0 := hC.2 0 _ rfl
  have hb := hC.1
  have hbn : bd ≠ W.heap.size := by omega
  clear hC
  show Calls Try.prog 105 #[.agg #[.int .i64 a, .int .i64 c, .int .i64 d], .pointer (some ⟨bd, 0, none⟩)] W _
  go_enter Try.func105, Try.ntmps105
  go_wp2_with fail
  go_ret
  exact ⟨rfl, by go_grown⟩

/-- What the search answers. -/
def IxIs (q : H3 → Bool) (l : List H3) (r : Int) : Prop := (r = -1 ∧ ∀ x ∈ l, q x = false) ∨ ∃ (k : Nat) (x : H3), r = (k : Int) ∧ l[k]? = some x ∧ q x = true ∧ ∀ y ∈ l.take k, q y = false

set_option maxHeartbeats 1000000 in
theorem idx_any {g : Nat} {lb : Array Value} {q : H3 → Bool} {C : World → Prop} (hp : PredIs g lb q C) (la : Option Addr) (n cap : Nat) (l : List H3) (w : World) (hl : HoldsAt w la l) (hll : l.length = n) (hs : n < 2 ^ 62) (hC : C w) :
    Calls Try.prog 102 #[.slice la n cap, .func (.func g) #[] lb] w fun e w' => (∃ r, e = .returned (.int .i64 r) ∧ IxIs q l r) ∧ Below w.heap.size w w' := by
  have eg := hp.enters
  go_enter Try.func102, Try.ntmps102
  go_wp2_with fail
  go_loopg [5, 8] n (fun gg _ s8 wr => ∃ k : Nat, k ≤ n ∧ gg = n - k ∧ s8 = .int .i64 k ∧ Hid (∀ y ∈ l.take k, q y = false) ∧ Hid (C wr) ∧ Below w.heap.size w wr)
  case atStart => exact ⟨0, Nat.zero_le _, rfl, rfl, by simp [Hid], hC, Below.refl _ _⟩
  case round =>
    obtain ⟨k, hk, rfl, rfl, HE, HC, hS⟩ := hrel
    by_cases hlt : k < n
    · obtain ⟨⟨a, c, d⟩, hkl⟩ : ∃ x, l[k]? = some x := ⟨_, List.getElem?_eq_getElem (by omega)⟩
      obtain ⟨bl, ol, rfl, hbl, h0, h1, h2⟩ := hl k a c d hkl
      have j0 : (0 : Int) ≤ (k : Int) := by omega
      have j1 : (k : Int) < (n : Int) := by omega
      have j2 : (n : Int) < 2 ^ 62 := by omega
      have p0 : wr.cell? ⟨bl, ol + k * 3, none⟩ = some (.int .i64 a) := (hS.cell (p := ⟨bl, ol + k * 3, none⟩) hbl).trans h0
      have p1 : wr.cell? ⟨bl, ol + k * 3 + 1, none⟩ = some (.int .i64 c) := (hS.cell (p := ⟨bl, ol + k * 3 + 1, none⟩) hbl).trans h1
      have p2 : wr.cell? ⟨bl, ol + k * 3 + 2, none⟩ = some (.int .i64 d) := (hS.cell (p := ⟨bl, ol + k * 3 + 2, none⟩) hbl).trans h2
      have HP : Hid _ := hp.says wr a c d HC.out
      have hz := hS.size
      clear h0 h1 h2 hl
      cases hq : q (a, c, d)
      · rw [hq] at HP
        have HE2 : Hid (∀ y ∈ l.take (k + 1), q y = false) := by
          intro y hy
          rw [take_snoc hkl, List.mem_append, List.mem_singleton] at hy
          rcases hy with hy | rfl
          · exact HE.out y hy
          · exact hq
        clear hq
        go_wp2_with fail
        refine Calls.mono HP.out ?_
        rintro e w1 ⟨rfl, hb1⟩
        go_wp2_with fail
        go_roundg (n - (k + 1))
        case measure => omega
        case rel => exact ⟨k + 1, by omega, rfl, by simp, HE2, hp.keeps _ _ HC.out hb1, after hS hb1 hz⟩
      · rw [hq] at HP
        have HQ : Hid _ := hq
        clear hq
        go_wp2_with fail
        refine Calls.mono HP.out ?_
        rintro e w1 ⟨rfl, hb1⟩
        go_wp2_with fail
        go_ret
        exact ⟨⟨_, rfl, .inr ⟨k, _, rfl, hkl, HQ.out, HE.out⟩⟩, after hS hb1 hz⟩
    · have hkk : k = n := by omega
      subst hkk
      go_wp2_with fail
      go_ret
      refine ⟨⟨_, rfl, .inl ⟨rfl, ?_⟩⟩, hS⟩
      have q := HE.out
      rw [List.take_of_length_le (by omega)] at q
      exact q

end Go.Proofs.Ytbgnajcmhmpjlab
