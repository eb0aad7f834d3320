/- The plain mathematics of package broker: deals, what is heard, quit and forgotten of them, and what is due. No program is named here. -/
import Derived.Test.YtndggiefgpdiiacPMath3
import Derived.Test.YtndggiefgpdiiacMMath
namespace Go.Proofs.Ytndggiefgpdiiac
open Go.RowKit

/-- A deal: its wants, its state, the places of its wants that are held, the shops where it is over. -/
structure Dl where
  w : List (Int × Int)
  st : Int
  yes : List Int
  ov : List Int
/-- A broker's book: its deals; those that are done, as they were decided. -/
structure Bok where
  L : List Dl
  ord : List Int
def dealAt (B : Bok) (n : Int) : Option Dl := if n < 0 then none else B.L[n.toNat]?
def stR (B : Bok) (n : Int) : Int := match dealAt B n with
  | some D => D.st
  | none => -1
def wantsR (B : Bok) (n : Int) : List (Int × Int) := match dealAt B n with
  | some D => D.w
  | none => []
def putD (B : Bok) (n : Int) (D : Dl) : Bok := { B with L := B.L.set n.toNat D }
/-- Begin: the number, the code, and the book behind it. -/
def beginR (B : Bok) (l : List (Int × Int)) : Int × Int × Bok := if (chkW l).1 = 0 then (if 8 ≤ B.L.length then (0, 6, B) else ((B.L.length : Int), 0, { B with L := B.L ++ [⟨l, 0, [], []⟩] })) else (0, (chkW l).1, B)
def quitR (B : Bok) (n : Int) : Int × Bok := match dealAt B n with
  | none => (7, B)
  | some D => if D.st = 0 then (0, putD B n { D with st := 2 }) else (8, B)
/-- The place of a want. -/
def wantAt (l : List (Int × Int)) (c d : Int) : Option Nat := l.findIdx? (fun x => x.1 == c && x.2 == d)
def addI (l : List Int) (i : Int) : List Int := if i ∈ l then l else l ++ [i]
def hearR (B : Bok) (m : Ml) : Bok := match dealAt B m.deal with
  | none => B
  | some D => if D.st = 0 then (if m.kind = 2 ∧ shp m.c = m.shop then (match wantAt D.w m.c m.d with
      | none => B
      | some i => if m.yes = true then (if (addI D.yes i).length = D.w.length then { putD B m.deal { D with yes := addI D.yes i, st := 1 } with ord := B.ord ++ [m.deal] } else putD B m.deal { D with yes := addI D.yes i }) else putD B m.deal { D with st := 2 }) else B)
    else (if m.kind = 4 ∧ m.shop ∈ shopsL D.w ∧ m.shop ∉ D.ov then putD B m.deal { D with ov := D.ov ++ [m.shop] } else B)
/-- The asks of a deal from its k-th want on. -/
def asksR (n : Int) (yes : List Int) : Nat → List (Int × Int) → List Ml
  | _, [] => []
  | k, x :: r => if (k : Int) ∈ yes then asksR n yes (k + 1) r else ⟨1, n, shp x.1, x.1, x.2, false⟩ :: asksR n yes (k + 1) r
def endsR (n : Int) (D : Dl) : List Ml := ((shopsL D.w).filter (fun s => decide (s ∉ D.ov))).map (fun s => ⟨3, n, s, 0, 0, D.st == 1⟩)
def dueD (n : Int) (D : Dl) : List Ml := if D.st = 0 then asksR n D.yes 0 D.w else endsR n D
def duesR : Nat → List Dl → List Ml
  | _, [] => []
  | k, D :: r => dueD (k : Int) D ++ duesR (k + 1) r
def dueR (B : Bok) : List Ml := duesR 0 B.L
def crashD (D : Dl) : Dl := { D with st := if D.st = 0 then 2 else D.st, yes := [], ov := [] }
def crashR (B : Bok) : Bok := { B with L := B.L.map crashD }

theorem dealAt_nat (B : Bok) (k : Nat) : dealAt B (k : Int) = B.L[k]? := by
  unfold dealAt
  rw [if_neg (by omega)]
  rfl
theorem dealAt_some {B : Bok} {n : Int} {D : Dl} (h : dealAt B n = some D) : ∃ k : Nat, n = (k : Int) ∧ k < B.L.length ∧ B.L[k]? = some D := by
  unfold dealAt at h
  split at h
  · cases h
  · exact ⟨n.toNat, by omega, (List.getElem?_eq_some_iff.1 h).1, h⟩
theorem dealAt_mem {B : Bok} {n : Int} {D : Dl} (h : dealAt B n = some D) : D ∈ B.L := by
  obtain ⟨k, _, _, hk⟩ := dealAt_some h
  exact List.mem_of_getElem? hk
theorem mem_dealAt {B : Bok} {D : Dl} (h : D ∈ B.L) : ∃ k : Nat, k < B.L.length ∧ dealAt B (k : Int) = some D := by
  obtain ⟨k, hk, e⟩ := List.getElem_of_mem h
  exact ⟨k, hk, by rw [dealAt_nat, List.getElem?_eq_getElem hk, e]⟩
theorem dealAt_put {B : Bok} {n : Int} {D0 : Dl} (h : dealAt B n = some D0) (D : Dl) (j : Int) : dealAt (putD B n D) j = if j = n then some D else dealAt B j := by
  obtain ⟨k, rfl, hk, _⟩ := dealAt_some h
  unfold dealAt putD
  simp only [Int.toNat_natCast]
  by_cases e : j = (k : Int)
  · subst e
    rw [if_pos rfl, if_neg (by omega)]
    simp [hk]
  · rw [if_neg e]
    by_cases hj : j < 0
    · rw [if_pos hj, if_pos hj]
    · rw [if_neg hj, if_neg hj, List.getElem?_set_ne (by omega)]
theorem put_ord (B : Bok) (n : Int) (D : Dl) : (putD B n D).ord = B.ord := rfl
theorem put_len (B : Bok) (n : Int) (D : Dl) : (putD B n D).L.length = B.L.length := by simp [putD]
theorem stR_some {B : Bok} {n : Int} {D : Dl} (h : dealAt B n = some D) : stR B n = D.st := by unfold stR; rw [h]
theorem wantsR_some {B : Bok} {n : Int} {D : Dl} (h : dealAt B n = some D) : wantsR B n = D.w := by unfold wantsR; rw [h]
theorem wantAt_some {l : List (Int × Int)} {c d : Int} {i : Nat} (h : wantAt l c d = some i) : l[i]? = some (c, d) := by
  unfold wantAt at h
  obtain ⟨hi, hp, _⟩ := List.findIdx?_eq_some_iff_getElem.1 h
  rw [List.getElem?_eq_getElem hi]
  simp only [Bool.and_eq_true, beq_iff_eq] at hp
  congr 1
  exact Prod.ext hp.1 hp.2
theorem wantAt_none {l : List (Int × Int)} {c d : Int} (h : wantAt l c d = none) : (c, d) ∉ l := by
  unfold wantAt at h
  rw [List.findIdx?_eq_none_iff] at h
  intro hm
  have := h _ hm
  simp at this
/-- What is heard comes to nothing, to a want that is held, to a deal that is done, or not, or to a shop where it is over. -/
theorem hearR_cases (B : Bok) (m : Ml) : hearR B m = B ∨
    (∃ (D : Dl) (i : Nat), dealAt B m.deal = some D ∧ D.st = 0 ∧ m.kind = 2 ∧ shp m.c = m.shop ∧ D.w[i]? = some (m.c, m.d) ∧ ((m.yes = false ∧ hearR B m = putD B m.deal { D with st := 2 }) ∨ (m.yes = true ∧ (addI D.yes i).length ≠ D.w.length ∧ hearR B m = putD B m.deal { D with yes := addI D.yes i }) ∨ (m.yes = true ∧ (addI D.yes i).length = D.w.length ∧ hearR B m = { putD B m.deal { D with yes := addI D.yes i, st := 1 } with ord := B.ord ++ [m.deal] }))) ∨
    (∃ D : Dl, dealAt B m.deal = some D ∧ D.st ≠ 0 ∧ m.kind = 4 ∧ m.shop ∈ shopsL D.w ∧ m.shop ∉ D.ov ∧ hearR B m = putD B m.deal { D with ov := D.ov ++ [m.shop] }) := by
  unfold hearR
  cases hd : dealAt B m.deal with
  | none => exact .inl rfl
  | some D =>
    simp only
    by_cases h0 : D.st = 0
    · rw [if_pos h0]
      by_cases h1 : m.kind = 2 ∧ shp m.c = m.shop
      · rw [if_pos h1]
        cases hw : wantAt D.w m.c m.d with
        | none => exact .inl rfl
        | some i =>
          simp only
          right; left
          refine ⟨D, i, rfl, h0, h1.1, h1.2, wantAt_some hw, ?_⟩
          cases hy : m.yes with
          | false => left; exact ⟨rfl, by simp⟩
          | true =>
            right
            by_cases hl : (addI D.yes i).length = D.w.length
            · right; exact ⟨rfl, hl, by rw [if_pos rfl, if_pos hl]⟩
            · left; exact ⟨rfl, hl, by rw [if_pos rfl, if_neg hl]⟩
      · rw [if_neg h1]; exact .inl rfl
    · rw [if_neg h0]
      by_cases h1 : m.kind = 4 ∧ m.shop ∈ shopsL D.w ∧ m.shop ∉ D.ov
      · rw [if_pos h1]
        right; right
        exact ⟨D, rfl, h0, h1.1, h1.2.1, h1.2.2, rfl⟩
      · rw [if_neg h1]; exact .inl rfl
theorem addI_mem {l : List Int} {i j : Int} : j ∈ addI l i ↔ j ∈ l ∨ j = i := by
  unfold addI
  split
  · rename_i h
    constructor
    · exact .inl
    · rintro (h1 | rfl)
      · exact h1
      · exact h
  · simp
theorem addI_nodup {l : List Int} (h : l.Nodup) (i : Int) : (addI l i).Nodup := by
  unfold addI
  split
  · exact h
  · rename_i hi
    refine List.nodup_append.2 ⟨h, by simp, ?_⟩
    intro a ha b hb
    rw [List.mem_singleton.1 hb]
    intro e
    subst e
    exact hi ha
theorem length_le_of_below : ∀ {k : Nat} {l : List Int}, l.Nodup → (∀ x ∈ l, 0 ≤ x ∧ x < (k : Int)) → l.length ≤ k := by
  intro k
  induction k with
  | zero =>
    intro l _ hb
    cases l with
    | nil => simp
    | cons x r => have := hb x (by simp); omega
  | succ k ih =>
    intro l hn hb
    have h1 := ih (l := l.erase (k : Int)) (hn.erase _) (fun x hx => by
      have hx' := List.mem_of_mem_erase hx
      have h2 := hb x hx'
      have : x ≠ (k : Int) := fun e => by subst e; exact (List.Nodup.not_mem_erase hn) hx
      omega)
    have h2 := List.length_erase (a := (k : Int)) (l := l)
    split at h2 <;> omega
/-- Places that stand once each, all below k, and k of them: all. -/
theorem all_of_length {l : List Int} {k : Nat} (hn : l.Nodup) (hb : ∀ x ∈ l, 0 ≤ x ∧ x < (k : Int)) (hl : l.length = k) : ∀ i : Nat, i < k → (i : Int) ∈ l := by
  induction k generalizing l with
  | zero => intro i hi; omega
  | succ k ih =>
    have hk : (k : Int) ∈ l := by
      apply Classical.byContradiction
      intro hk
      have hb' : ∀ x ∈ l, 0 ≤ x ∧ x < (k : Int) := fun x hx => by
        have h1 := hb x hx
        have : x ≠ (k : Int) := fun e => hk (e ▸ hx)
        omega
      have := length_le_of_below hn hb'
      omega
    intro i hi
    by_cases e : i = k
    · rw [e]; exact hk
    · have h1 := ih (l := l.erase (k : Int)) (hn.erase _) (fun x hx => by
        have hx' := List.mem_of_mem_erase hx
        have h2 := hb x hx'
        have : x ≠ (k : Int) := fun e => by subst e; exact (List.Nodup.not_mem_erase hn) hx
        omega) (by rw [List.length_erase_of_mem hk, hl]; omega) i (by omega)
      exact List.mem_of_mem_erase h1

end Go.Proofs.Ytndggiefgpdiiac
