/- The contract of SameHolds. -/
import Derived.Test.YtbgnajcmhmpjlabSBox
namespace Go.Proofs.Ytbgnajcmhmpjlab
open Go.RowKit

theorem same3_of {l m : List H3} (k : Nat) (h : l.take k = m.take k) {c : H3} (h1 : l[k]? = some c) (h2 : m[k]? = some c) : l.take (k + 1) = m.take (k + 1) := by
  rw [take_snoc h1, take_snoc h2, h]
theorem other3_of {l m : List H3} (k : Nat) {c c' : H3} (h1 : l[k]? = some c) (h2 : m[k]? = some c') (h : c ≠ c') : ¬ l = m := by
  intro e
  rw [e, h2] at h1
  exact h (Option.some.inj h1).symm

set_option maxHeartbeats 1000000 in
theorem sameHolds_any (la lb : Option Addr) (na nb ca cb : Nat) (l m : List H3) (w : World) (hl : HoldsAt w la l) (hm : HoldsAt w lb m) (h1 : l.length = na) (h2 : m.length = nb) (hs : na < 2 ^ 62) :
    Calls Try.prog 20 #[.slice la na ca, .slice lb nb cb] w fun e w' => e = .returned (.bool (decide (l = m))) ∧ Below w.heap.size w w' := by
  by_cases hn : na = nb
  · subst hn
    have hnn : ((na : Int) != (na : Int)) = false := by simp
    go_enter Try.func20, Try.ntmps20
    go_wp2_with fail
    go_loopg [5] na (fun g i wr => ∃ k : Nat, k ≤ na ∧ g = na - k ∧ i = .int .i64 k ∧ Hid (l.take k = m.take k) ∧ Below w.heap.size w wr)
    case atStart => exact ⟨0, Nat.zero_le _, rfl, rfl, rfl, Below.refl _ _⟩
    case round =>
      obtain ⟨k, hk, rfl, rfl, HE, hS⟩ := hrel
      by_cases hlt : k < na
      · obtain ⟨⟨a, c, d⟩, hc⟩ : ∃ x, l[k]? = some x := ⟨_, List.getElem?_eq_getElem (by omega)⟩
        obtain ⟨⟨a', c', d'⟩, hc'⟩ : ∃ x, m[k]? = some x := ⟨_, List.getElem?_eq_getElem (by omega)⟩
        obtain ⟨b1, o1, rfl, hb1, r0, r1, r2⟩ := hl k a c d hc
        obtain ⟨b2, o2, rfl, hb2, s0, s1, s2⟩ := hm k a' c' d' hc'
        have p0 : wr.cell? ⟨b1, o1 + k * 3, none⟩ = some (.int .i64 a) := (hS.cell (p := ⟨b1, _, none⟩) hb1).trans r0
        have p1 : wr.cell? ⟨b1, o1 + k * 3 + 1, none⟩ = some (.int .i64 c) := (hS.cell (p := ⟨b1, _, none⟩) hb1).trans r1
        have p2 : wr.cell? ⟨b1, o1 + k * 3 + 2, none⟩ = some (.int .i64 d) := (hS.cell (p := ⟨b1, _, none⟩) hb1).trans r2
        have q0 : wr.cell? ⟨b2, o2 + k * 3, none⟩ = some (.int .i64 a') := (hS.cell (p := ⟨b2, _, none⟩) hb2).trans s0
        have q1 : wr.cell? ⟨b2, o2 + k * 3 + 1, none⟩ = some (.int .i64 c') := (hS.cell (p := ⟨b2, _, none⟩) hb2).trans s1
        have q2 : wr.cell? ⟨b2, o2 + k * 3 + 2, none⟩ = some (.int .i64 d') := (hS.cell (p := ⟨b2, _, none⟩) hb2).trans s2
        have j0 : (0 : Int) ≤ (k : Int) := by omega
        have j1 : (k : Int) < (na : Int) := by omega
        have j2 : (na : Int) < 2 ^ 62 := by omega
        clear r0 r1 r2 s0 s1 s2 hl hm
        by_cases he : a = a' ∧ c = c' ∧ d = d'
        · obtain ⟨rfl, rfl, rfl⟩ := he
          have HE2 : Hid _ := same3_of k HE.out hc hc'
          go_wp2_with fail
          go_quiet (fail)
          go_wp2_with fail
          go_roundg (na - (k + 1))
          case measure => omega
          case rel => exact ⟨k + 1, by omega, rfl, by simp, HE2, bdrewN hS _⟩
        · have HE2 : Hid (¬ l = m) := other3_of k hc hc' (fun e => he (by simpa using e))
          by_cases ha : a = a'
          · subst ha
            by_cases hcc : c = c'
            · subst hcc
              have hd : (d == d') = false := by
                rw [beq_eq_false_iff_ne]
                exact fun h => he ⟨rfl, rfl, h⟩
              clear he
              go_wp2_with fail
              go_quiet (fail)
              go_wp2_with fail
              go_ret
              exact ⟨ret_bool (decide_eq_false HE2.out).symm, bdrewN hS _⟩
            · have hd : (c == c') = false := by rw [beq_eq_false_iff_ne]; exact hcc
              clear he hcc
              go_wp2_with fail
              go_quiet (fail)
              go_wp2_with fail
              go_ret
              exact ⟨ret_bool (decide_eq_false HE2.out).symm, bdrewN hS _⟩
          · have hd : (a == a') = false := by rw [beq_eq_false_iff_ne]; exact ha
            clear he ha
            go_wp2_with fail
            go_quiet (fail)
            go_wp2_with fail
            go_ret
            exact ⟨ret_bool (decide_eq_false HE2.out).symm, bdrewN hS _⟩
      · have hkk : k = na := by omega
        subst hkk
        go_wp2_with fail
        go_ret
        refine ⟨ret_bool ?_, hS⟩
        have q := HE.out
        rw [List.take_of_length_le (by omega), List.take_of_length_le (by omega)] at q
        exact (decide_eq_true q).symm
  · have hnn : ((na : Int) != (nb : Int)) = true := by simp; omega
    have hne : Hid (¬ l = m) := by intro e; rw [e] at h1; omega
    clear hl hm hn
    go_enter Try.func20, Try.ntmps20
    go_wp2_with fail
    go_ret
    exact ⟨ret_bool (decide_eq_false hne.out).symm, Below.refl _ _⟩

end Go.Proofs.Ytbgnajcmhmpjlab
