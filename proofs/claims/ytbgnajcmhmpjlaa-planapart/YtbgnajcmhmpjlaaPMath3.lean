/- The mathematics of PlanApart: which shops, and how much more each counter has. No program is named here. -/
import Derived.Test.YtbgnajcmhmpjlaaPMath2
import Derived.Test.YtbgnajcmhmpjlaaPOwn
namespace Go.Proofs.Ytbgnajcmhmpjlaa
open Go.RowKit

theorem shopsL_mem {l : List (Int × Int)} {a : Int} : a ∈ shopsL l ↔ ∃ n : Nat, a = (n : Int) ∧ n < 3 ∧ stands l (n : Int) = true := by
  unfold shopsL shopsTo
  rw [List.mem_map]
  constructor
  · rintro ⟨n, hn, rfl⟩
    obtain ⟨h1, h2⟩ := List.mem_filter.1 hn
    exact ⟨n, rfl, by simpa using h1, h2⟩
  · rintro ⟨n, rfl, h1, h2⟩
    exact ⟨n, List.mem_filter.2 ⟨by simpa using h1, h2⟩, rfl⟩
theorem shopsL_rising (l : List (Int × Int)) : (shopsL l).Pairwise (· < ·) := by
  unfold shopsL shopsTo
  rw [List.pairwise_map]
  exact (List.pairwise_lt_range.sublist List.filter_sublist).imp (fun h => by omega)
theorem shopsL_behind {l : List (Int × Int)} {i : Nat} {a b : Int} (ha : (shopsL l)[i]? = some a) (hb : (shopsL l)[i + 1]? = some b) : a < b := by
  obtain ⟨h1, rfl⟩ := List.getElem?_eq_some_iff.1 ha
  obtain ⟨h2, rfl⟩ := List.getElem?_eq_some_iff.1 hb
  exact (List.pairwise_iff_getElem.1 (shopsL_rising l)) i (i + 1) h1 h2 (by omega)
theorem shop_in {l : List (Int × Int)} {c d : Int} (h : (c, d) ∈ l) (h0 : 0 ≤ c) (h1 : c < 6) : shp c ∈ shopsL l := by
  rw [shopsL_mem]
  refine ⟨(shp c).toNat, ?_, ?_, ?_⟩
  · rw [shp_eq h0 h1]; omega
  · rw [shp_eq h0 h1]; omega
  · unfold stands
    rw [List.any_eq_true]
    refine ⟨(c, d), h, ?_⟩
    simp only [beq_iff_eq]
    rw [shp_eq h0 h1]; omega

/-- Which shops have a want's counter below k. -/
def hasTo (l : List (Int × Int)) (k : Int) (j : Int) : Bool := l.any (fun y => decide (y.1 < k) && (shp y.1 == j))
/-- Which shops have a want's counter that is k. -/
def hasAt (l : List (Int × Int)) (k : Int) (j : Int) : Bool := l.any (fun y => (y.1 == k) && (shp y.1 == j))
theorem hasAt_next {l : List (Int × Int)} {m : Nat} {c d : Int} (h : l[m]? = some (c, d)) (k j : Int) : hasAt (l.take (m + 1)) k j = (hasAt (l.take m) k j || ((c == k) && (shp c == j))) := by
  unfold hasAt
  rw [take_snoc h]; simp
theorem hasTo_next (l : List (Int × Int)) (k : Nat) (j : Int) : hasTo l ((k : Int) + 1) j = (hasTo l k j || hasAt l k j) := by
  unfold hasTo hasAt
  induction l with
  | nil => rfl
  | cons x r ih =>
    simp only [List.any_cons]
    rw [ih]
    have e : (decide (x.1 < (k : Int) + 1)) = (decide (x.1 < (k : Int)) || (x.1 == (k : Int))) := by
      by_cases h1 : x.1 < (k : Int)
      · simp [h1]; omega
      · by_cases h2 : x.1 = (k : Int)
        · simp [h2]; omega
        · have h3 : ¬ x.1 < (k : Int) + 1 := by omega
          simp [h1, h2, h3]
    rw [e]
    generalize decide (x.1 < (k : Int)) = p1
    generalize (x.1 == (k : Int)) = p2
    generalize (shp x.1 == j) = p3
    generalize (r.any fun y => decide (y.1 < (k : Int)) && shp y.1 == j) = p4
    generalize (r.any fun y => y.1 == (k : Int) && shp y.1 == j) = p5
    cases p1 <;> cases p2 <;> cases p3 <;> cases p4 <;> cases p5 <;> rfl
theorem hasTo_zero {l : List (Int × Int)} (h : ∀ x ∈ l, 0 ≤ x.1) (j : Int) : hasTo l 0 j = false := by
  unfold hasTo
  rw [List.any_eq_false]
  intro x hx
  have := h x hx
  have : ¬ x.1 < 0 := by omega
  simp [this]
theorem hasTo_all {l : List (Int × Int)} (h : ∀ x ∈ l, x.1 < 6) (j : Int) : hasTo l 6 j = stands l j := by
  unfold hasTo stands
  induction l with
  | nil => rfl
  | cons x r ih =>
    have := h x (by simp)
    simp only [List.any_cons]
    rw [ih (fun y hy => h y (by simp [hy]))]
    simp [this]
theorem hasAt_zero (l : List (Int × Int)) (k j : Int) : hasAt (l.take 0) k j = false := by simp [hasAt]

theorem dOf_next {l : List (Int × Int)} {m : Nat} {c d : Int} (h : l[m]? = some (c, d)) (k : Nat) : dOf (l.take (m + 1)) k = dOf (l.take m) k + (if c = (k : Int) then d else 0) := by
  rw [take_snoc h, dOf_append, dOf, dOf]; simp
theorem dOf_bound {l : List (Int × Int)} (h : ∀ x ∈ l, -100 ≤ x.2 ∧ x.2 ≤ 100) (k : Nat) : -(100 * (l.length : Int)) ≤ dOf l k ∧ dOf l k ≤ 100 * (l.length : Int) := by
  induction l with
  | nil => simp [dOf]
  | cons x r ih =>
    have q := ih (fun y hy => h y (by simp [hy]))
    have p := h x (by simp)
    rw [dOf, List.length_cons]
    split <;> omega
theorem Fit.small {l : List (Int × Int)} (h : Fit l) (m k : Nat) : -400 ≤ dOf (l.take m) k ∧ dOf (l.take m) k ≤ 400 := by
  have q := dOf_bound (l := l.take m) (fun x hx => by
    obtain ⟨_, h1, h2⟩ := dlt_ok (h.delta x (List.mem_of_mem_take hx))
    exact ⟨h1, h2⟩) k
  have := h.few
  have e : (l.take m).length ≤ 4 := by simp; omega
  omega
/-- A counter that is wanted has from 0 to 100, ahead and behind. -/
theorem Can.range {ws : Nat → Int} {l : List (Int × Int)} (h : Can ws l) {k : Nat} (hd : dOf l k ≠ 0) : 0 ≤ ws k ∧ ws k ≤ 100 ∧ 0 ≤ ws k + dOf l k ∧ ws k + dOf l k ≤ 100 := by
  by_cases hx : ∃ x ∈ l, x.1 = (k : Int)
  · obtain ⟨x, hx, e⟩ := hx
    have q := mor_ok (h.each x hx)
    rw [dOf_one h.fit.apart hx e]
    have e2 : x.1.toNat = k := by omega
    rw [e2] at q
    exact ⟨q.1, q.2.1, q.2.2.1, q.2.2.2.1⟩
  · exact absurd (dOf_none (fun x hx' e => hx ⟨x, hx', e⟩)) hd

end Go.Proofs.Ytbgnajcmhmpjlaa
