/- The contracts of slices.Index over wants and over numbers, and of slices.Contains. -/
import Derived.Test.YtndggiefgpdiiacRBeg
import Derived.Deep.LoopGhost
namespace Go.Proofs.Ytndggiefgpdiiac
open Go.RowKit

theorem eqWn (a b c d : Int) (W : World) : (Op.equalIn 10000 35 (.agg #[.int .i64 a, .int .i64 b]) (.agg #[.int .i64 c, .int .i64 d])).run Try.prog W = .ok (a == c && b == d) W := by
  rw [show (10000 : Nat) = 9999 + 1 from rfl]
  simp [Op.eqFields, go_sem]
  repeat' split
  all_goals simp_all
/-- Index's answer. -/
def ixW (l : List (Int × Int)) (c d : Int) : Int := match wantAt l c d with
  | some k => (k : Int)
  | none => -1
theorem ixW_hit {l : List (Int × Int)} {k : Nat} {c d : Int} (h : l[k]? = some (c, d)) (hn : (c, d) ∉ l.take k) : ixW l c d = (k : Int) := by
  have : wantAt l c d = some k := by
    unfold wantAt
    obtain ⟨hk, hx⟩ := List.getElem?_eq_some_iff.1 h
    rw [List.findIdx?_eq_some_iff_getElem]
    refine ⟨hk, by rw [hx]; simp, fun j hj => ?_⟩
    simp only [Bool.not_eq_true, Bool.and_eq_false_imp, beq_iff_eq, beq_eq_false_iff_ne, ne_eq]
    intro e1 e2
    refine hn ?_
    have hm : l[j] ∈ l.take k := by
      rw [List.mem_take_iff_getElem]
      exact ⟨j, by omega, rfl⟩
    rw [show (c, d) = l[j] from (Prod.ext e1 e2).symm]
    exact hm
  unfold ixW
  rw [this]
theorem ixW_miss {l : List (Int × Int)} {c d : Int} (h : (c, d) ∉ l) : ixW l c d = -1 := by
  have : wantAt l c d = none := by
    unfold wantAt
    rw [List.findIdx?_eq_none_iff]
    intro x hx
    simp only [Bool.and_eq_false_imp, beq_iff_eq, beq_eq_false_iff_ne, ne_eq]
    intro e1 e2
    exact h (by rw [← e1, ← e2]; exact hx)
  unfold ixW
  rw [this]
theorem not_take_next {l : List (Int × Int)} {k : Nat} {c d a b : Int} (h : (c, d) ∉ l.take k) (hk : l[k]? = some (a, b)) (he : (c == a && d == b) = false) : (c, d) ∉ l.take (k + 1) := by
  rw [take_snoc hk, List.mem_append, List.mem_singleton]
  rintro (q | q)
  · exact h q
  · obtain ⟨rfl, rfl⟩ := Prod.mk.inj q
    simp at he

set_option maxHeartbeats 1000000 in
theorem ridx_any (la : Option Addr) (n cap : Nat) (l : List (Int × Int)) (c d : Int) (w : World) (hl : WantsAt w la l) (hll : l.length = n) (hs : n < 1000) :
    Calls Try.prog 23 #[.slice la n cap, .agg #[.int .i64 c, .int .i64 d]] w fun e w' => e = .returned (.int .i64 (ixW l c d)) ∧ Below w.heap.size w w' := by
  go_enter Try.func23, Try.ntmps23
  go_upto_region 1 with fail
  have hX := BoxAt.new w [.int .i64 c, .int .i64 d] 35
  have hb1 : Below w.heap.size w (w.alloc (.cells #[.int .i64 c, .int .i64 d] 35)) := (Below.refl _ _).alloc (Nat.le_refl _) _
  change BoxAt (w.alloc (.cells #[.int .i64 c, .int .i64 d] 35)) _ _ at hX
  generalize (w.alloc (.cells #[.int .i64 c, .int .i64 d] 35)) = w1 at hX hb1 ⊢
  generalize w.heap.size = B at hX ⊢
  have hl1 : WantsAt w1 la l := hl.below hb1 (Nat.le_refl _)
  clear hl
  go_wp2_with fail
  go_loopg [5, 8] n (fun gg _ s8 wr => ∃ k : Nat, k ≤ n ∧ gg = n - k ∧ s8 = .int .i64 k ∧ Hid ((c, d) ∉ l.take k) ∧ Below w1.heap.size w1 wr)
  case atStart => exact ⟨0, Nat.zero_le _, rfl, rfl, by simp [Hid], Below.refl _ _⟩
  case round =>
    obtain ⟨k, hk, rfl, rfl, HE, hS⟩ := hrel
    by_cases hlt : k < n
    · obtain ⟨⟨a, b⟩, hkl⟩ : ∃ x, l[k]? = some x := ⟨_, List.getElem?_eq_getElem (by omega)⟩
      obtain ⟨bl, ol, rfl, hbl, h0, h1⟩ := hl1 k a b hkl
      have j0 : (0 : Int) ≤ (k : Int) := by omega
      have j1 : (k : Int) < (n : Int) := by omega
      have j2 : (n : Int) < 1000 := by omega
      have p0 : wr.cell? ⟨bl, ol + k * 2, none⟩ = some (.int .i64 a) := (hS.cell (p := ⟨bl, ol + k * 2, none⟩) hbl).trans h0
      have p1 : wr.cell? ⟨bl, ol + k * 2 + 1, none⟩ = some (.int .i64 b) := (hS.cell (p := ⟨bl, ol + k * 2 + 1, none⟩) hbl).trans h1
      have hX2 := hX.next hS
      have x0 := hX2.2 0 _ rfl
      have x1 := hX2.2 1 _ rfl
      clear h0 h1 hl1 hX2
      cases hq : (c == a && d == b) with
      | false =>
        have HE2 : Hid _ := not_take_next HE.out hkl hq
        have hq1 : ∀ W : World, (Op.equalIn 10000 35 (.agg #[.int .i64 c, .int .i64 d]) (.agg #[.int .i64 a, .int .i64 b])).run Try.prog W = .ok false W := fun W => by rw [eqWn, hq]
        clear hq hkl
        go_wp2_with fail
        go_quiet (fail)
        go_wp2_with fail
        go_roundg (n - (k + 1))
        case measure => omega
        case rel => exact ⟨k + 1, by omega, rfl, by simp, HE2, bdrewN hS _⟩
      | true =>
        have hq1 : ∀ W : World, (Op.equalIn 10000 35 (.agg #[.int .i64 c, .int .i64 d]) (.agg #[.int .i64 a, .int .i64 b])).run Try.prog W = .ok true W := fun W => by rw [eqWn, hq]
        have HE2 : Hid (ixW l c d = (k : Int)) := by
          simp only [Bool.and_eq_true, beq_iff_eq] at hq
          obtain ⟨rfl, rfl⟩ := hq
          exact ixW_hit hkl HE.out
        clear hq hkl
        go_wp2_with fail
        go_quiet (fail)
        go_wp2_with fail
        go_ret
        exact ⟨ret_int HE2.out.symm, bdrewN (hb1.trans (hS.mono hb1.size)) _⟩
    · have hkk : k = n := by omega
      subst hkk
      go_wp2_with fail
      go_ret
      refine ⟨ret_int ?_, hb1.trans (hS.mono hb1.size)⟩
      have q := HE.out
      rw [List.take_of_length_le (by omega)] at q
      exact (ixW_miss q).symm

/-- The place of a number. -/
def IxN (l : List Int) (x r : Int) : Prop := (0 ≤ r ∧ x ∈ l) ∨ (r = -1 ∧ x ∉ l)
set_option maxHeartbeats 1000000 in
theorem ridn_any (la : Option Addr) (n cap : Nat) (l : List Int) (x : Int) (w : World) (hl : NumsAt w la l) (hll : l.length = n) (hs : n < 1000) :
    Calls Try.prog 27 #[.slice la n cap, .int .i64 x] w fun e w' => (∃ r, e = .returned (.int .i64 r) ∧ IxN l x r) ∧ w' = w := by
  go_enter Try.func27, Try.ntmps27
  go_wp2_with fail
  go_loopg [5, 8] n (fun gg _ s8 wr => ∃ k : Nat, k ≤ n ∧ gg = n - k ∧ s8 = .int .i64 k ∧ Hid (x ∉ l.take k) ∧ w = wr)
  case atStart => exact ⟨0, Nat.zero_le _, rfl, rfl, by simp [Hid], rfl⟩
  case round =>
    obtain ⟨k, hk, rfl, rfl, HE, rfl⟩ := hrel
    by_cases hlt : k < n
    · obtain ⟨a, hkl⟩ : ∃ x, l[k]? = some x := ⟨_, List.getElem?_eq_getElem (by omega)⟩
      obtain ⟨bl, ol, rfl, hbl, h0⟩ := hl k a hkl
      have j0 : (0 : Int) ≤ (k : Int) := by omega
      have j1 : (k : Int) < (n : Int) := by omega
      have j2 : (n : Int) < 1000 := by omega
      clear hl
      by_cases he : x = a
      · have he' : (x == a) = true := by simp [he]
        have HE2 : Hid (x ∈ l) := by rw [he]; exact List.mem_of_getElem? hkl
        clear he
        go_wp2_with fail
        go_ret
        exact ⟨⟨_, rfl, .inl ⟨by omega, HE2.out⟩⟩, rfl⟩
      · have he' : (x == a) = false := by simpa using he
        have HE2 : Hid (x ∉ l.take (k + 1)) := by
          show ¬ _
          rw [take_snoc hkl, List.mem_append, List.mem_singleton]
          rintro (q | q)
          · exact HE.out q
          · exact he q
        clear he
        go_wp2_with fail
        go_roundg (n - (k + 1))
        case measure => omega
        case rel => exact ⟨k + 1, by omega, rfl, by simp, HE2, rfl⟩
    · have hkk : k = n := by omega
      subst hkk
      go_wp2_with fail
      go_ret
      refine ⟨⟨_, rfl, .inr ⟨rfl, ?_⟩⟩, rfl⟩
      have q := HE.out
      rw [List.take_of_length_le (by omega)] at q
      exact q
theorem rcon_any (la : Option Addr) (n cap : Nat) (l : List Int) (x : Int) (w : World) (hl : NumsAt w la l) (hll : l.length = n) (hs : n < 1000) :
    Calls Try.prog 24 #[.slice la n cap, .int .i64 x] w fun e w' => e = .returned (.bool (decide (x ∈ l))) ∧ w' = w := by
  have HC := ridn_any la n cap l x w hl hll hs
  clear hl
  go_enter Try.func24, Try.ntmps24
  go_wp2_with fail
  refine HC.mono ?_
  rintro e w' ⟨⟨r, rfl, hr⟩, rfl⟩
  rcases hr with ⟨h0, h1⟩ | ⟨rfl, h1⟩
  · have HE : Hid (x ∈ l) := h1
    clear h1
    go_wp2_with fail
    go_ret
    exact ⟨ret_bool (decide_eq_true HE.out).symm, rfl⟩
  · have HE : Hid (x ∉ l) := h1
    clear h1
    go_wp2_with fail
    go_ret
    exact ⟨ret_bool (decide_eq_false HE.out).symm, rfl⟩

end Go.Proofs.Ytndggiefgpdiiac
