/- The plain mathematics of package post: mail on its way as a list; what Send, Take and Double come to. No program is named here. -/
import Derived.Test.YtbgnajcmhmpjlabPMath
namespace Go.Proofs.Ytbgnajcmhmpjlab
open Go.RowKit

/-- A mail: kind, deal, shop, the want's counter and delta, yes? -/
structure Ml where
  kind : Int
  deal : Int
  shop : Int
  c : Int
  d : Int
  yes : Bool
def Ml.cells (x : Ml) : List Value := [.int .i64 x.kind, .int .i64 x.deal, .int .i64 x.shop, .int .i64 x.c, .int .i64 x.d, .bool x.yes]
def noMl : Ml := ⟨0, 0, 0, 0, 0, false⟩
def eqM (a b : Ml) : Bool := a.kind == b.kind && (a.deal == b.deal && (a.shop == b.shop && ((a.c == b.c && a.d == b.d) && a.yes == b.yes)))
theorem eqM_iff {a b : Ml} : eqM a b = true ↔ a = b := by
  rcases a with ⟨a1, a2, a3, a4, a5, a6⟩
  rcases b with ⟨b1, b2, b3, b4, b5, b6⟩
  unfold eqM
  simp
  intro _ _ _
  exact and_assoc
/-- The place of the number n among so many: as a number without sign, round by how many there are. -/
def rnd (n : Int) (k : Nat) : Nat := (n % 18446744073709551616).toNat % k
theorem rnd_lt (n : Int) {k : Nat} (h : 0 < k) : rnd n k < k := Nat.mod_lt _ h
/-- Send: is it on its way, and all that is. -/
def sendR (l : List Ml) (m : Ml) : Bool × List Ml := if 40 ≤ l.length then (false, l) else (true, l ++ [m])
/-- Take: the mail, is there one, and all that is left. -/
def takeR (l : List Ml) (n : Int) : Ml × Bool × List Ml := match l[rnd n l.length]? with
  | some m => (m, true, l.eraseIdx (rnd n l.length))
  | none => (noMl, false, l)
def dblR (l : List Ml) (n : Int) : Bool × List Ml := match l[rnd n l.length]? with
  | some m => sendR l m
  | none => (false, l)
theorem takeR_nil (n : Int) : takeR [] n = (noMl, false, []) := rfl
theorem dblR_nil (n : Int) : dblR [] n = (false, []) := rfl
theorem rnd_some {l : List Ml} (n : Int) (h : l ≠ []) : ∃ m, l[rnd n l.length]? = some m :=
  ⟨_, List.getElem?_eq_getElem (rnd_lt n (List.length_pos_iff.2 h))⟩
theorem takeR_some {l : List Ml} {n : Int} {m : Ml} (h : l[rnd n l.length]? = some m) : takeR l n = (m, true, l.eraseIdx (rnd n l.length)) := by unfold takeR; rw [h]
theorem dblR_some {l : List Ml} {n : Int} {m : Ml} (h : l[rnd n l.length]? = some m) : dblR l n = sendR l m := by unfold dblR; rw [h]
theorem erase_split (l : List Ml) (k : Nat) : l.eraseIdx k = l.take k ++ l.drop (k + 1) := List.eraseIdx_eq_take_drop_succ l k
theorem erase_perm {l : List Ml} {k : Nat} {m : Ml} (h : l[k]? = some m) : l.Perm (m :: l.eraseIdx k) := by
  have e : l = l.take k ++ m :: l.drop (k + 1) := by rw [← drop_cons h, List.take_append_drop]
  rw [erase_split]
  exact (List.Perm.of_eq e).trans List.perm_middle
theorem sendR_len (l : List Ml) (m : Ml) (h : l.length ≤ 40) : (sendR l m).2.length ≤ 40 := by
  unfold sendR
  split
  · exact h
  · simp; omega
theorem dblR_len (l : List Ml) (n : Int) (h : l.length ≤ 40) : (dblR l n).2.length ≤ 40 := by
  unfold dblR
  split
  · exact sendR_len l _ h
  · exact h
theorem takeR_len (l : List Ml) (n : Int) (h : l.length ≤ 40) : (takeR l n).2.2.length ≤ 40 := by
  unfold takeR
  split
  · have := List.length_eraseIdx_le l (rnd n l.length)
    show (l.eraseIdx (rnd n l.length)).length ≤ 40
    omega
  · exact h
/-- What was sent and doubled, less what was taken, is what is on its way, in whatever order. -/
theorem perm_take {l left : List Ml} {n : Int} {m : Ml} {k : Nat} (hp : left.Perm l) (h : l[rnd n l.length]? = some m) (hk : left[k]? = some m) : (left.eraseIdx k).Perm (takeR l n).2.2 := by
  rw [takeR_some h]
  have e1 := erase_perm hk
  have e2 := erase_perm h
  exact List.Perm.cons_inv ((e1.symm.trans hp).trans e2)
theorem perm_send {l left : List Ml} {m : Ml} (hp : left.Perm l) : (left ++ [m]).Perm (l ++ [m]) := hp.append_right _
theorem perm_mem {l left : List Ml} {n : Int} {m : Ml} (hp : left.Perm l) (h : l[rnd n l.length]? = some m) : m ∈ left := hp.mem_iff.2 (List.mem_of_getElem? h)

end Go.Proofs.Ytbgnajcmhmpjlab
