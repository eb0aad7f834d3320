/- The contracts of SameInts and In. -/
import Derived.Test.YtbgnajcmhmpjlabPW2
namespace Go.Proofs.Ytbgnajcmhmpjlab
open Go.RowKit

/-- A list of numbers as memory holds it. -/
def NumsAt (w : World) (la : Option Addr) (l : List Int) : Prop := ∀ k c, l[k]? = some c → ∃ b off, la = some ⟨b, off, none⟩ ∧ b < w.heap.size ∧ w.cell? ⟨b, off + k, none⟩ = some (.int .i64 c)

theorem NumsAt.below {w w' : World} {B : Nat} {la : Option Addr} {l : List Int} (h : NumsAt w la l) (hb : Below B w w') (hB : w.heap.size ≤ B) : NumsAt w' la l := by
  intro k c hk
  obtain ⟨b, off, e, hlt, h0⟩ := h k c hk
  have hb' : b < B := by omega
  refine ⟨b, off, e, ?_, (hb.cell (p := ⟨b, off + k, none⟩) hb').trans h0⟩
  have := hb.size
  omega

theorem same_of {l m : List Int} (k : Nat) (h : l.take k = m.take k) {c : Int} (h1 : l[k]? = some c) (h2 : m[k]? = some c) : l.take (k + 1) = m.take (k + 1) := by
  rw [take_snoc h1, take_snoc h2, h]
theorem other_of {l m : List Int} (k : Nat) {c c' : Int} (h1 : l[k]? = some c) (h2 : m[k]? = some c') (h : c ≠ c') : ¬ l = m := by
  intro e
  rw [e, h2] at h1
  exact h (Option.some.inj h1).symm

set_option maxHeartbeats 1000000 in
theorem sameInts_any (la lb : Option Addr) (na nb ca cb : Nat) (l m : List Int) (w : World) (hl : NumsAt w la l) (hm : NumsAt w lb m) (h1 : l.length = na) (h2 : m.length = nb) (hs : na < 2 ^ 62) :
    Calls Try.prog 50 #[.slice la na ca, .slice lb nb cb] w fun e w' => e = .returned (.bool (decide (l = m))) ∧ Below w.heap.size w w' := by
  by_cases hn : na = nb
  · subst hn
    have hnn : ((na : Int) != (na : Int)) = false := by simp
    go_enter Try.func50, Try.ntmps50
    go_wp2_with fail
    go_loopg [5] na (fun g i wr => ∃ k : Nat, k ≤ na ∧ g = na - k ∧ i = .int .i64 k ∧ Hid (l.take k = m.take k) ∧ Below w.heap.size w wr)
    case atStart => exact ⟨0, Nat.zero_le _, rfl, rfl, rfl, Below.refl _ _⟩
    case round =>
      obtain ⟨k, hk, rfl, rfl, HE, hS⟩ := hrel
      by_cases hlt : k < na
      · obtain ⟨c, hc⟩ : ∃ x, l[k]? = some x := ⟨_, List.getElem?_eq_getElem (by omega)⟩
        obtain ⟨c', hc'⟩ : ∃ x, m[k]? = some x := ⟨_, List.getElem?_eq_getElem (by omega)⟩
        obtain ⟨b1, o1, rfl, hb1, hr1⟩ := hl k c hc
        obtain ⟨b2, o2, rfl, hb2, hr2⟩ := hm k c' hc'
        have p1 : wr.cell? ⟨b1, o1 + k, none⟩ = some (.int .i64 c) := (hS.cell (p := ⟨b1, o1 + k, none⟩) hb1).trans hr1
        have p2 : wr.cell? ⟨b2, o2 + k, none⟩ = some (.int .i64 c') := (hS.cell (p := ⟨b2, o2 + k, none⟩) hb2).trans hr2
        have j0 : (0 : Int) ≤ (k : Int) := by omega
        have j1 : (k : Int) < (na : Int) := by omega
        have j2 : (na : Int) < 2 ^ 62 := by omega
        clear hr1 hr2 hl hm
        by_cases he : c = c'
        · subst he
          have he' : (c != c) = false := by simp
          have HE2 : Hid _ := same_of k HE.out hc hc'
          go_wp2_with fail
          go_quiet (fail)
          go_wp2_with fail
          go_roundg (na - (k + 1))
          case measure => omega
          case rel => exact ⟨k + 1, by omega, rfl, by simp, HE2, bdrewN hS _⟩
        · have he' : (c != c') = true := by simpa using he
          have HE2 : Hid _ := other_of k hc hc' he
          clear he
          go_wp2_with fail
          go_quiet (fail)
          go_wp2_with fail
          go_ret
          exact ⟨ret_bool (decide_eq_false HE2.out).symm, bdrewN hS _⟩
      · have hkk : k = na := by omega
        subst hkk
        go_wp2_with fail
        go_ret
        refine ⟨ret_bool ?_, hS⟩
        have q := HE.out
        rw [List.take_of_length_le (by omega), List.take_of_length_le (by omega)] at q
        exact (decide_eq_true q).symm
  · have hnn : ((na : Int) != (nb : Int)) = true := by simp; omega
    have hne : Hid (¬ l = m) := by intro e; rw [e] at h1; omega
    clear hl hm hn
    go_enter Try.func50, Try.ntmps50
    go_wp2_with fail
    go_ret
    exact ⟨ret_bool (decide_eq_false hne.out).symm, Below.refl _ _⟩

set_option maxHeartbeats 1000000 in
theorem in_any (la : Option Addr) (na ca : Nat) (l : List Int) (x : Int) (w : World) (hl : NumsAt w la l) (h1 : l.length = na) (hs : na < 2 ^ 62) :
    Calls Try.prog 58 #[.slice la na ca, .int .i64 x] w fun e w' => e = .returned (.bool (decide (x ∈ l))) ∧ w' = w := by
  go_enter Try.func58, Try.ntmps58
  go_wp2_with fail
  go_loopg [5] na (fun g i wr => ∃ k : Nat, k ≤ na ∧ g = na - k ∧ i = .int .i64 k ∧ Hid (¬ x ∈ l.take k) ∧ w = wr)
  case atStart => exact ⟨0, Nat.zero_le _, rfl, rfl, by simp [Hid], rfl⟩
  case round =>
    obtain ⟨k, hk, rfl, rfl, HE, rfl⟩ := hrel
    by_cases hlt : k < na
    · obtain ⟨c, hc⟩ : ∃ x, l[k]? = some x := ⟨_, List.getElem?_eq_getElem (by omega)⟩
      obtain ⟨b1, o1, rfl, hb1, p1⟩ := hl k c hc
      have j0 : (0 : Int) ≤ (k : Int) := by omega
      have j1 : (k : Int) < (na : Int) := by omega
      have j2 : (na : Int) < 2 ^ 62 := by omega
      clear hl
      by_cases he : c = x
      · have he' : (c == x) = true := by simp [he]
        have HE2 : Hid (x ∈ l) := by rw [← he]; exact List.mem_of_getElem? hc
        clear he
        go_wp2_with fail
        go_ret
        exact ⟨ret_bool (decide_eq_true HE2.out).symm, rfl⟩
      · have he' : (c == x) = false := by simpa using he
        have HE2 : Hid (¬ x ∈ l.take (k + 1)) := by
          show ¬ _
          rw [take_snoc hc, List.mem_append, List.mem_singleton]
          rintro (q | q)
          · exact HE.out q
          · exact he q.symm
        clear he
        go_wp2_with fail
        go_roundg (na - (k + 1))
        case measure => omega
        case rel => exact ⟨k + 1, by omega, rfl, by simp, HE2, rfl⟩
    · have hkk : k = na := by omega
      subst hkk
      go_wp2_with fail
      go_ret
      refine ⟨ret_bool ?_, rfl⟩
      have q := HE.out
      rw [List.take_of_length_le (by omega)] at q
      exact (decide_eq_false q).symm

end Go.Proofs.Ytbgnajcmhmpjlab
