/- The plain mathematics of package shop: what a shop and the document's booth answer, as functions on one book. No program is named here. -/
import Derived.Test.YtbgnajcmhmpjlabPMath
import Derived.Test.YtbgnajcmhmpjlabFacts
namespace Go.Proofs.Ytbgnajcmhmpjlab
open Go.RowKit

/-- A hold: its deal, its counter, its delta. -/
abbrev H3 := Int × Int × Int

def outOf (h : H3) (c : Int) : Int := if h.2.1 = c then (if h.2.2 < 0 then -h.2.2 else 0) else 0
def innOf (h : H3) (c : Int) : Int := if h.2.1 = c then (if h.2.2 < 0 then 0 else h.2.2) else 0
def gainOf (deal : Int) (done : Bool) (h : H3) (c : Int) : Int := if h.1 = deal ∧ h.2.1 = c ∧ done = true then h.2.2 else 0
/-- What is held of a counter to go, and to come; what a deal that is done makes of it. -/
def outs : List H3 → Int → Int
  | [], _ => 0
  | h :: r, c => outOf h c + outs r c
def inns : List H3 → Int → Int
  | [], _ => 0
  | h :: r, c => innOf h c + inns r c
def gain (deal : Int) (done : Bool) : List H3 → Int → Int
  | [], _ => 0
  | h :: r, c => gainOf deal done h c + gain deal done r c
theorem outs_append (l m : List H3) (c : Int) : outs (l ++ m) c = outs l c + outs m c := by
  induction l with
  | nil => simp [outs]
  | cons h r ih => simp only [List.cons_append, outs, ih]; omega
theorem inns_append (l m : List H3) (c : Int) : inns (l ++ m) c = inns l c + inns m c := by
  induction l with
  | nil => simp [inns]
  | cons h r ih => simp only [List.cons_append, inns, ih]; omega
theorem gain_append (deal : Int) (done : Bool) (l m : List H3) (c : Int) : gain deal done (l ++ m) c = gain deal done l c + gain deal done m c := by
  induction l with
  | nil => simp [gain]
  | cons h r ih => simp only [List.cons_append, gain, ih]; omega
theorem outOf_nonneg (h : H3) (c : Int) : 0 ≤ outOf h c := by unfold outOf; repeat' split
                                                              all_goals omega
theorem innOf_nonneg (h : H3) (c : Int) : 0 ≤ innOf h c := by unfold innOf; repeat' split
                                                              all_goals omega
theorem outs_nonneg (l : List H3) (c : Int) : 0 ≤ outs l c := by
  induction l with
  | nil => simp [outs]
  | cons h r ih => have := outOf_nonneg h c; simp only [outs]; omega
theorem inns_nonneg (l : List H3) (c : Int) : 0 ≤ inns l c := by
  induction l with
  | nil => simp [inns]
  | cons h r ih => have := innOf_nonneg h c; simp only [inns]; omega
theorem outs_snoc {l : List H3} {k : Nat} {h : H3} (e : l[k]? = some h) (c : Int) : outs (l.take (k + 1)) c = outs (l.take k) c + outOf h c := by
  rw [take_snoc e, outs_append]; simp [outs]
theorem inns_snoc {l : List H3} {k : Nat} {h : H3} (e : l[k]? = some h) (c : Int) : inns (l.take (k + 1)) c = inns (l.take k) c + innOf h c := by
  rw [take_snoc e, inns_append]; simp [inns]
theorem gain_snoc {deal : Int} {done : Bool} {l : List H3} {k : Nat} {h : H3} (e : l[k]? = some h) (c : Int) : gain deal done (l.take (k + 1)) c = gain deal done (l.take k) c + gainOf deal done h c := by
  rw [take_snoc e, gain_append]; simp [gain]
theorem outs_take_le (l : List H3) (k : Nat) (c : Int) : outs (l.take k) c ≤ outs l c := by
  have h := outs_append (l.take k) (l.drop k) c
  rw [List.take_append_drop] at h
  have := outs_nonneg (l.drop k) c
  omega
theorem inns_take_le (l : List H3) (k : Nat) (c : Int) : inns (l.take k) c ≤ inns l c := by
  have h := inns_append (l.take k) (l.drop k) c
  rw [List.take_append_drop] at h
  have := inns_nonneg (l.drop k) c
  omega

/-- Is a deal over, and was it done? -/
def over : List (Int × Bool) → Int → Option Bool
  | [], _ => none
  | e :: r, x => if e.1 = x then some e.2 else over r x
theorem over_append (l m : List (Int × Bool)) (x : Int) : over (l ++ m) x = (match over l x with | some b => some b | none => over m x) := by
  induction l with
  | nil => rfl
  | cons e r ih =>
    simp only [List.cons_append, over]
    split
    · rfl
    · exact ih
def ovB (es : List (Int × Bool)) (x : Int) : Bool := (over es x).isSome
def dnB (es : List (Int × Bool)) (x : Int) : Bool := over es x == some true

/-- The book of a shop: its number, what its two counters have, what is held, which deals are over. -/
structure Bk where
  no : Int
  v0 : Int
  v1 : Int
  hs : List H3
  es : List (Int × Bool)
def Bk.val (A : Bk) : Nat → Int
  | 0 => A.v0
  | _ => A.v1
def Bk.out (A : Bk) (k : Nat) : Int := outs A.hs (A.no * 2 + k)
def Bk.inn (A : Bk) (k : Nat) : Int := inns A.hs (A.no * 2 + k)
def same (deal c : Int) (h : H3) : Bool := h.1 == deal && h.2.1 == c
/-- Hold: the code, and the book behind it. -/
def holdR (A : Bk) (deal c d : Int) : Int × Bk :=
  if deal < 0 then (1, A) else if 8 ≤ deal then (1, A) else if wnt c d = 0 then (if shp c = A.no then (match over A.es deal with
    | some _ => (8, A)
    | none => match A.hs.find? (same deal c) with
      | some h => if h.2.2 = d then (0, A) else (9, A)
      | none => if hC (A.val (c % 2).toNat) (outs A.hs c) (inns A.hs c) d = 0 then (0, { A with hs := A.hs ++ [(deal, c, d)] }) else (hC (A.val (c % 2).toNat) (outs A.hs c) (inns A.hs c) d, A)) else (1, A)) else (wnt c d, A)
def endA (A : Bk) (deal : Int) (done : Bool) : Bk := { A with v0 := A.v0 + gain deal done A.hs (A.no * 2), v1 := A.v1 + gain deal done A.hs (A.no * 2 + 1), hs := A.hs.filter (fun h => h.1 != deal), es := A.es ++ [(deal, done)] }
/-- End: the code, and the book behind it. -/
def endR (A : Bk) (deal : Int) (done : Bool) : Int × Bk :=
  if deal < 0 then (1, A) else if 8 ≤ deal then (1, A) else match over A.es deal with
    | some b => if b = done then (0, A) else (9, A)
    | none => (0, endA A deal done)

/-- A book that may be. -/
structure Good (A : Bk) : Prop where
  no0 : 0 ≤ A.no
  no3 : A.no < 3
  cnt : ∀ k : Nat, k < 2 → chk (A.val k) (A.out k) (A.inn k) = 0
  each : ∀ h ∈ A.hs, 0 ≤ h.1 ∧ h.1 < 8 ∧ shp h.2.1 = A.no ∧ wnt h.2.1 h.2.2 = 0 ∧ over A.es h.1 = none
  ends : ∀ e ∈ A.es, 0 ≤ e.1 ∧ e.1 < 8
theorem over_none {es : List (Int × Bool)} {x : Int} (h : ∀ e ∈ es, e.1 ≠ x) : over es x = none := by
  induction es with
  | nil => rfl
  | cons e r ih => rw [over, if_neg (h e (by simp)), ih (fun e' he' => h e' (by simp [he']))]

/-- A counter of the shop's: its place. -/
theorem shp_place {c n : Int} (h0 : 0 ≤ c) (h1 : c < 6) (h : shp c = n) : c = n * 2 + c % 2 ∧ 0 ≤ c % 2 ∧ c % 2 < 2 := by
  rw [shp_eq h0 h1] at h
  omega
theorem shp_of {c : Int} (h0 : 0 ≤ shp c) : 0 ≤ c ∧ c < 6 := by
  have := @shp_neg c
  omega

/-- What is left to be looked through when k holds of a deal that is over were: those ahead that are not its own, and all others. -/
def left (deal : Int) (l : List H3) (k : Nat) : List H3 := (l.take k).filter (fun h => h.1 != deal) ++ l.drop k
theorem left_zero (deal : Int) (l : List H3) : left deal l 0 = l := rfl
theorem left_all (deal : Int) (l : List H3) (k : Nat) (hk : l.length ≤ k) : left deal l k = l.filter (fun h => h.1 != deal) := by
  unfold left
  rw [List.take_of_length_le hk, List.drop_of_length_le hk, List.append_nil]
theorem left_other {deal : Int} {l : List H3} {k : Nat} {h : H3} (e : l[k]? = some h) (hd : h.1 ≠ deal) : left deal l (k + 1) = left deal l k := by
  unfold left
  rw [take_snoc e, List.filter_append, drop_cons e]
  simp [hd]
theorem left_own {deal : Int} {l : List H3} {k : Nat} {h : H3} (e : l[k]? = some h) (hd : h.1 = deal) (c : Int) : outs (left deal l k) c = outs (left deal l (k + 1)) c + outOf h c ∧ inns (left deal l k) c = inns (left deal l (k + 1)) c + innOf h c := by
  unfold left
  rw [take_snoc e, List.filter_append, drop_cons e]
  simp only [outs_append, inns_append, outs, inns]
  simp [hd, outs, inns]
  omega

/-- One hold of a deal that is over, on the counters: the code is none, and the counters may be. -/
theorem end_one {v o i n o' i' : Int} (done : Bool) (hc : chk v o i = 0) (hd : dlt n = 0) (ho : o = o' + (if n < 0 then -n else 0)) (hi : i = i' + (if n < 0 then 0 else n)) (ho' : 0 ≤ o') (hi' : 0 ≤ i') :
    EndIs v o i n done (v + if done = true then n else 0) o' i' 0 ∧ chk (v + if done = true then n else 0) o' i' = 0 := by
  obtain ⟨c1, c2, c3, c4, c5, c6⟩ := chk_ok hc
  obtain ⟨d1, d2, d3⟩ := dlt_ok hd
  have hb := both_of hc hd
  by_cases hn : n < 0
  · rw [if_pos hn] at ho hi
    have h1 := endIs_less done hb hn (by omega)
    have e1 : o + n = o' := by omega
    have e2 : i' = i := by omega
    subst e2
    rw [e1] at h1
    cases done
    · simp only [Bool.false_eq_true, if_false, Int.add_zero] at h1 ⊢
      exact ⟨h1, chk_of (by omega) (by omega) (by omega) (by omega) (by omega) (by omega)⟩
    · simp only [if_true] at h1 ⊢
      exact ⟨h1, chk_of (by omega) (by omega) (by omega) (by omega) (by omega) (by omega)⟩
  · rw [if_neg hn] at ho hi
    have h1 := endIs_more done hb (by omega) (by omega)
    have e1 : i - n = i' := by omega
    have e2 : o' = o := by omega
    subst e2
    rw [e1] at h1
    cases done
    · simp only [Bool.false_eq_true, if_false, Int.add_zero] at h1 ⊢
      exact ⟨h1, chk_of (by omega) (by omega) (by omega) (by omega) (by omega) (by omega)⟩
    · simp only [if_true] at h1 ⊢
      exact ⟨h1, chk_of (by omega) (by omega) (by omega) (by omega) (by omega) (by omega)⟩

end Go.Proofs.Ytbgnajcmhmpjlab
