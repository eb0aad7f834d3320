/- What Apply comes to, as a whole: the mathematics of PlanOrder, PlanApart and PlanJoins. No program is named here. -/
import Derived.Test.YtbgnajcmhmpjlaaPMath
import Derived.IntWalk
namespace Go.Proofs.Ytbgnajcmhmpjlaa
open Go.RowKit

/-- How much more the wants of l make counter j. -/
def dOf : List (Int × Int) → Nat → Int
  | [], _ => 0
  | x :: r, j => (if x.1 = (j : Int) then x.2 else 0) + dOf r j
def plusW (ws : Nat → Int) (l : List (Int × Int)) : Nat → Int := fun j => ws j + dOf l j

theorem mor_ok {v d : Int} (h : morC v d = 0) : 0 ≤ v ∧ v ≤ 100 ∧ 0 ≤ v + d ∧ v + d ≤ 100 ∧ morV v d = v + d := by
  unfold morC at h
  unfold morV
  repeat' split at h
  all_goals first | omega | (refine ⟨by omega, by omega, by omega, by omega, ?_⟩; repeat' split
                             all_goals omega)
theorem mor_of {v d : Int} (h0 : 0 ≤ v) (h1 : v ≤ 100) (h2 : 0 ≤ v + d) (h3 : v + d ≤ 100) : morC v d = 0 := by
  unfold morC
  repeat' split
  all_goals omega

theorem dOf_append (a b : List (Int × Int)) (j : Nat) : dOf (a ++ b) j = dOf a j + dOf b j := by
  induction a with
  | nil => simp [dOf]
  | cons x r ih => rw [List.cons_append, dOf, dOf, ih]; omega
theorem dOf_reverse (l : List (Int × Int)) (j : Nat) : dOf l.reverse j = dOf l j := by
  induction l with
  | nil => rfl
  | cons x r ih => rw [List.reverse_cons, dOf_append, ih, dOf, dOf, dOf]; omega
theorem dOf_none {l : List (Int × Int)} {j : Nat} (h : ∀ x ∈ l, x.1 ≠ (j : Int)) : dOf l j = 0 := by
  induction l with
  | nil => rfl
  | cons x r ih => rw [dOf, if_neg (h x (by simp)), ih (fun y hy => h y (by simp [hy]))]; rfl
theorem dOf_one {l : List (Int × Int)} {j : Nat} {x : Int × Int} (hp : l.Pairwise (fun x y => x.1 ≠ y.1)) (hx : x ∈ l) (e : x.1 = (j : Int)) : dOf l j = x.2 := by
  induction l with
  | nil => simp at hx
  | cons y r ih =>
    have hp' := List.pairwise_cons.1 hp
    rw [dOf]
    rcases List.mem_cons.1 hx with rfl | hx
    · rw [if_pos e, dOf_none (fun z hz ez => hp'.1 z hz (by rw [e, ez]))]; omega
    · rw [if_neg (fun ey => hp'.1 x hx (by rw [e, ey])), ih hp'.2 hx]; omega

theorem run_code {l : List (Int × Int)} : ∀ {ws : Nat → Int} {i : Nat}, (∀ x ∈ l, 0 ≤ x.1) → l.Pairwise (fun x y => x.1 ≠ y.1) → (∀ x ∈ l, morC (ws x.1.toNat) x.2 = 0) → runW ws i l = (plusW ws l, 0, 0) := by
  induction l with
  | nil => intro ws i _ _ _; rw [runW]; congr 1; funext j; simp [plusW, dOf]
  | cons x r ih =>
    intro ws i h0 hp hm
    have hp' := List.pairwise_cons.1 hp
    have hx := hm x (by simp)
    obtain ⟨_, _, _, _, hv⟩ := mor_ok hx
    rw [runW, if_pos hx, hv, ih (fun y hy => h0 y (by simp [hy])) hp'.2]
    · congr 1
      funext j
      have := h0 x (by simp)
      unfold plusW upd
      rw [dOf]
      by_cases e : j = x.1.toNat
      · rw [if_pos e, if_pos (by omega), e]; omega
      · rw [if_neg e, if_neg (by omega)]; omega
    · intro y hy
      have q := hm y (by simp [hy])
      have h1 := h0 x (by simp)
      have h2 := h0 y (by simp [hy])
      have h3 := hp'.1 y hy
      unfold upd
      rw [if_neg (by omega)]
      exact q
theorem run_zero {l : List (Int × Int)} : ∀ {ws : Nat → Int} {i : Nat}, (∀ x ∈ l, 0 ≤ x.1) → l.Pairwise (fun x y => x.1 ≠ y.1) → (runW ws i l).2.1 = 0 → ∀ x ∈ l, morC (ws x.1.toNat) x.2 = 0 := by
  induction l with
  | nil => intro ws i _ _ _ x hx; simp at hx
  | cons x r ih =>
    intro ws i h0 hp h
    have hp' := List.pairwise_cons.1 hp
    rw [runW] at h
    split at h
    · rename_i hx
      intro y hy
      rcases List.mem_cons.1 hy with rfl | hy
      · exact hx
      · have q := ih (fun y hy => h0 y (by simp [hy])) hp'.2 h y hy
        have h1 := h0 x (by simp)
        have h2 := h0 y (by simp [hy])
        have h3 := hp'.1 y hy
        unfold upd at q
        rw [if_neg (by omega)] at q
        exact q
    · rename_i hx
      exact absurd h hx
theorem run_noW {l : List (Int × Int)} : ∀ {ws : Nat → Int} {i : Nat}, (runW ws i l).2.1 ≠ 0 → (runW ws i l).1 = noW := by
  induction l with
  | nil => intro ws i h; simp [runW] at h
  | cons x r ih =>
    intro ws i h
    rw [runW] at h ⊢
    split
    · rename_i hx
      rw [if_pos hx] at h
      exact ih h
    · rfl

/-- A deal that can be done. -/
structure Can (ws : Nat → Int) (l : List (Int × Int)) : Prop where
  fit : Fit l
  each : ∀ x ∈ l, morC (ws x.1.toNat) x.2 = 0
theorem Fit.nonneg {l : List (Int × Int)} (h : Fit l) : ∀ x ∈ l, 0 ≤ x.1 := fun x hx => (wnt_ok (h.each x hx)).1
theorem app_can {ws : Nat → Int} {l : List (Int × Int)} (h : Can ws l) : appW ws l = (plusW ws l, 0, 0) := by
  unfold appW
  rw [if_pos (fit_iff.2 h.fit), run_code h.fit.nonneg h.fit.apart h.each]
theorem can_app {ws : Nat → Int} {l : List (Int × Int)} (h : (appW ws l).2.1 = 0) : Can ws l := by
  unfold appW at h
  split at h
  · rename_i hf
    have hF := fit_iff.1 hf
    exact ⟨hF, run_zero hF.nonneg hF.apart h⟩
  · rename_i hf
    exact absurd h hf
theorem app_noW {ws : Nat → Int} {l : List (Int × Int)} (h : (appW ws l).2.1 ≠ 0) : (appW ws l).1 = noW := by
  unfold appW at h ⊢
  split
  · rename_i hf
    rw [if_pos hf] at h
    exact run_noW h
  · rfl

theorem Fit.reverse {l : List (Int × Int)} (h : Fit l) : Fit l.reverse :=
  ⟨by simpa using h.pos, by simpa using h.few, fun x hx => h.each x (by simpa using hx), by rw [List.pairwise_reverse]; exact h.apart.imp (fun q e => q e.symm)⟩
theorem Can.reverse {ws : Nat → Int} {l : List (Int × Int)} (h : Can ws l) : Can ws l.reverse := ⟨h.fit.reverse, fun x hx => h.each x (by simpa using hx)⟩
theorem can_reverse {ws : Nat → Int} {l : List (Int × Int)} : Can ws l.reverse ↔ Can ws l := ⟨fun h => by simpa using h.reverse, Can.reverse⟩
/-- Turned about it comes to the same. -/
theorem app_reverse_code (ws : Nat → Int) (l : List (Int × Int)) : ((appW ws l.reverse).2.1 = 0 ↔ (appW ws l).2.1 = 0) := by
  constructor
  · intro h; rw [app_can (can_reverse.1 (can_app h))]
  · intro h; rw [app_can (can_app h).reverse]
theorem app_reverse (ws : Nat → Int) (l : List (Int × Int)) : (appW ws l.reverse).1 = (appW ws l).1 := by
  by_cases h : (appW ws l).2.1 = 0
  · have hc := can_app h
    rw [app_can hc, app_can hc.reverse]
    funext j
    simp [plusW, dOf_reverse]
  · have h' : (appW ws l.reverse).2.1 ≠ 0 := fun e => h ((app_reverse_code ws l).1 e)
    rw [app_noW h, app_noW h']

/-- A want done back, as the program reckons it. -/
def bk (x : Int × Int) : Int × Int := (x.1, IntKind.i64.wrap (-x.2))
theorem bk_of {x : Int × Int} (h : dlt x.2 = 0) : bk x = (x.1, -x.2) := by
  obtain ⟨_, h1, h2⟩ := dlt_ok h
  unfold bk
  rw [IntKind.wrap_i64, show (-x.2 + 9223372036854775808) % 18446744073709551616 - 9223372036854775808 = -x.2 by omega]
/-- All of a deal done back, the last want first. -/
def bks (l : List (Int × Int)) : List (Int × Int) := (l.map bk).reverse
theorem bks_eq {l : List (Int × Int)} (h : ∀ x ∈ l, dlt x.2 = 0) : bks l = (l.map (fun x => (x.1, -x.2))).reverse := by
  unfold bks
  rw [List.map_congr_left (fun x hx => bk_of (h x hx))]
theorem dOf_neg (l : List (Int × Int)) (j : Nat) : dOf (l.map (fun x => (x.1, -x.2))) j = - dOf l j := by
  induction l with
  | nil => rfl
  | cons x r ih => rw [List.map_cons, dOf, dOf, ih]; simp only; split <;> omega
theorem Fit.delta {l : List (Int × Int)} (h : Fit l) : ∀ x ∈ l, dlt x.2 = 0 := fun x hx => (wnt_ok (h.each x hx)).2.2
theorem Fit.back {l : List (Int × Int)} (h : Fit l) : Fit (l.map (fun x => (x.1, -x.2))) := by
  refine ⟨by simpa using h.pos, by simpa using h.few, ?_, ?_⟩
  · intro y hy
    obtain ⟨x, hx, rfl⟩ := List.mem_map.1 hy
    obtain ⟨h0, h1, h2⟩ := wnt_ok (h.each x hx)
    obtain ⟨e1, e2, e3⟩ := dlt_ok h2
    exact wnt_of h0 h1 (dlt_of (by simp; omega) (by simp; omega) (by simp; omega))
  · rw [List.pairwise_map]
    exact h.apart
theorem Can.back {ws : Nat → Int} {l : List (Int × Int)} (h : Can ws l) : Can (plusW ws l) (bks l) := by
  rw [bks_eq h.fit.delta, can_reverse]
  refine ⟨h.fit.back, ?_⟩
  intro y hy
  obtain ⟨x, hx, rfl⟩ := List.mem_map.1 hy
  have h0 := h.fit.nonneg x hx
  obtain ⟨m0, m1, m2, m3, _⟩ := mor_ok (h.each x hx)
  unfold plusW
  simp only
  rw [dOf_one h.fit.apart hx (by omega)]
  exact mor_of (by omega) (by omega) (by omega) (by omega)
/-- Done back they make the world that it was. -/
theorem Can.undo {ws : Nat → Int} {l : List (Int × Int)} (h : Can ws l) : appW (plusW ws l) (bks l) = (ws, 0, 0) := by
  rw [app_can h.back]
  congr 1
  funext j
  unfold plusW
  rw [bks_eq h.fit.delta, dOf_reverse, dOf_neg]
  omega

/-- One part behind the other. -/
theorem run_append (a b : List (Int × Int)) : ∀ (ws : Nat → Int) (i : Nat), runW ws i (a ++ b) = if (runW ws i a).2.1 = 0 then runW (runW ws i a).1 (i + a.length) b else runW ws i a := by
  induction a with
  | nil => intro ws i; simp [runW]
  | cons x r ih =>
    intro ws i
    rw [List.cons_append, runW, runW]
    by_cases hx : morC (ws x.1.toNat) x.2 = 0
    · rw [if_pos hx, if_pos hx, ih]
      simp only [List.length_cons]
      rw [show i + 1 + r.length = i + (r.length + 1) by omega]
    · rw [if_neg hx, if_neg hx]
      simp only
      rw [if_neg hx]
theorem run_shift (b : List (Int × Int)) : ∀ (ws : Nat → Int) (i k : Nat), (runW ws (i + k) b).1 = (runW ws i b).1 ∧ (runW ws (i + k) b).2.1 = (runW ws i b).2.1 ∧ ((runW ws i b).2.1 ≠ 0 → (runW ws (i + k) b).2.2 = (runW ws i b).2.2 + k) := by
  induction b with
  | nil => intro ws i k; simp [runW]
  | cons x r ih =>
    intro ws i k
    rw [runW, runW]
    by_cases hx : morC (ws x.1.toNat) x.2 = 0
    · rw [if_pos hx, if_pos hx, show i + k + 1 = i + 1 + k by omega]
      exact ih _ _ _
    · rw [if_neg hx, if_neg hx]
      exact ⟨rfl, rfl, fun _ => by simp⟩
theorem Fit.take {l : List (Int × Int)} (h : Fit l) {k : Nat} (h0 : 0 < k) : Fit (l.take k) := by
  have := h.pos
  have := h.few
  exact ⟨by simp; omega, by simp; omega, fun x hx => h.each x (List.mem_of_mem_take hx), h.apart.sublist (List.take_sublist _ _)⟩
theorem Fit.drop {l : List (Int × Int)} (h : Fit l) {k : Nat} (h0 : k < l.length) : Fit (l.drop k) := by
  have := h.few
  exact ⟨by simp; omega, by simp; omega, fun x hx => h.each x (List.mem_of_mem_drop hx), h.apart.sublist (List.drop_sublist _ _)⟩
theorem app_fit {ws : Nat → Int} {l : List (Int × Int)} (h : Fit l) : appW ws l = runW ws 0 l := by
  unfold appW
  rw [if_pos (fit_iff.2 h)]
theorem join_bad {ws : Nat → Int} {l : List (Int × Int)} (h : Fit l) {k : Nat} (h0 : 0 < k) (hg : (appW ws (l.take k)).2.1 ≠ 0) : appW ws l = appW ws (l.take k) := by
  rw [app_fit (h.take h0)] at hg ⊢
  rw [app_fit h]
  have e := run_append (l.take k) (l.drop k) ws 0
  rw [List.take_append_drop, if_neg hg] at e
  exact e
theorem join_good {ws : Nat → Int} {l : List (Int × Int)} (h : Fit l) {k : Nat} (h0 : 0 < k) (h1 : k < l.length) (hg : (appW ws (l.take k)).2.1 = 0) :
    (appW ws l).1 = (appW (appW ws (l.take k)).1 (l.drop k)).1 ∧ (appW ws l).2.1 = (appW (appW ws (l.take k)).1 (l.drop k)).2.1 ∧ ((appW (appW ws (l.take k)).1 (l.drop k)).2.1 ≠ 0 → (appW ws l).2.2 = (appW (appW ws (l.take k)).1 (l.drop k)).2.2 + k) := by
  rw [app_fit h, app_fit (h.drop h1)]
  rw [app_fit (h.take h0)] at hg ⊢
  have e := run_append (l.take k) (l.drop k) ws 0
  rw [List.take_append_drop, if_pos hg, List.length_take, Nat.min_eq_left (by omega)] at e
  rw [e]
  exact run_shift _ _ 0 k
theorem app_at {ws : Nat → Int} {l : List (Int × Int)} (h : Fit l) : 0 ≤ (appW ws l).2.2 ∧ (appW ws l).2.2 ≤ l.length := by
  rw [app_fit h]
  have q : ∀ (b : List (Int × Int)) (ws : Nat → Int) (i : Nat), 0 ≤ (runW ws i b).2.2 ∧ (runW ws i b).2.2 ≤ i + b.length := by
    intro b
    induction b with
    | nil => intro ws i; simp [runW]
    | cons x r ih =>
      intro ws i
      rw [runW]
      by_cases hx : morC (ws x.1.toNat) x.2 = 0
      · rw [if_pos hx]
        have := ih (upd ws x.1.toNat (morV (ws x.1.toNat) x.2)) (i + 1)
        simp only [List.length_cons] at this ⊢
        omega
      · rw [if_neg hx]
        simp
        omega
  have := q l ws 0
  omega

/-- Where a list is cut: a number below its length. -/
theorem cut_ok (n : Int) (L : Nat) (h0 : 0 < L) (h1 : L ≤ 201) : ∃ r : Nat, r < L ∧ wrap64 ((IntKind.u64.wrap n).tmod (L : Int)) = (r : Int) := by
  have e2 : 0 ≤ IntKind.u64.wrap n := by rw [IntKind.wrap_u64]; omega
  rw [Int.tmod_eq_emod_of_nonneg e2]
  have e3 := Int.emod_nonneg (IntKind.u64.wrap n) (b := (L : Int)) (by omega)
  have e4 := Int.emod_lt_of_pos (IntKind.u64.wrap n) (b := (L : Int)) (by omega)
  refine ⟨(IntKind.u64.wrap n % (L : Int)).toNat, by omega, ?_⟩
  rw [IntWalk.wrap64_in _ (by omega)]
  omega

end Go.Proofs.Ytbgnajcmhmpjlaa
