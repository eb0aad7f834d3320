/- How the document's booth lies in memory, against the same book as a shop. -/
import Derived.Test.YtbgnajcmhmpjlabSGet
namespace Go.Proofs.Ytbgnajcmhmpjlab
open Go.RowKit

structure BoothRaw (w : World) (q : Nat) (no v0 v1 : Int) (hv ov dv : Value) : Prop where
  lt : q < w.heap.size
  c0 : w.cell? ⟨q, 0, none⟩ = some (.int .i64 no)
  c1 : w.cell? ⟨q, 1, none⟩ = some (.int .i64 v0)
  c2 : w.cell? ⟨q, 2, none⟩ = some (.int .i64 v1)
  c3 : w.cell? ⟨q, 3, none⟩ = some hv
  c4 : w.cell? ⟨q, 4, none⟩ = some ov
  c5 : w.cell? ⟨q, 5, none⟩ = some dv
  loose : ∀ k, w.frozen? ⟨q, k, none⟩ = false
theorem BoothRaw.save {O : Nat → Prop} {w w1 : World} {q : Nat} {no v0 v1 : Int} {hv ov dv : Value} (h : BoothRaw w q no v0 v1 hv ov dv) (hb : Save O w w1) (hn : ¬ O q) : BoothRaw w1 q no v0 v1 hv ov dv := by
  have hl := h.lt
  have hs := hb.size
  have e : ∀ o, w1.cell? ⟨q, o, none⟩ = w.cell? ⟨q, o, none⟩ := fun o => hb.cell (p := ⟨q, o, none⟩) hl hn
  exact ⟨by omega, (e _).trans h.c0, (e _).trans h.c1, (e _).trans h.c2, (e _).trans h.c3, (e _).trans h.c4, (e _).trans h.c5, fun k => (hb.frozen (p := ⟨q, k, none⟩) hl hn).trans (h.loose k)⟩
theorem BoothRaw.next {w w1 : World} {q : Nat} {no v0 v1 : Int} {hv ov dv : Value} (h : BoothRaw w q no v0 v1 hv ov dv) (hb : Below w.heap.size w w1) : BoothRaw w1 q no v0 v1 hv ov dv :=
  h.save (O := fun _ => False) (.of_below hb) (fun q => q)

/-- The deals that are over, and whether they were done, as numbers. -/
def ovL (es : List (Int × Bool)) : List Int := es.map (fun e => e.1)
def dnL (es : List (Int × Bool)) : List Int := es.map (fun e => if e.2 = true then 1 else 0)
def nums (l : List Int) : List Value := l.map (Value.int .i64)

/-- A booth whose book is A, in blocks of O. -/
structure BoothIn (O : Nat → Prop) (w : World) (q : Nat) (A : Bk) : Prop where
  own : ∀ k, O k → k < w.heap.size
  mine : O q
  raw : ∃ hv ov dv, BoothRaw w q A.no A.v0 A.v1 hv ov dv ∧ w.ownsRow (q + 1) 92 3 hv A.hs.length (flat3 A.hs) ∧ w.ownsRow (q + 1) 3 1 ov A.es.length (nums (ovL A.es)) ∧ w.ownsRow (q + 1) 3 1 dv A.es.length (nums (dnL A.es))
    ∧ (∀ k, hv.ownBlock = some k → O k) ∧ (∀ k, ov.ownBlock = some k → O k) ∧ (∀ k, dv.ownBlock = some k → O k)
    ∧ (∀ k, hv.ownBlock = some k → ov.ownBlock ≠ some k) ∧ (∀ k, hv.ownBlock = some k → dv.ownBlock ≠ some k) ∧ (∀ k, ov.ownBlock = some k → dv.ownBlock ≠ some k)
theorem BoothIn.save {O O' : Nat → Prop} {w w1 : World} {q : Nat} {A : Bk} (h : BoothIn O w q A) (hb : Save O' w w1) (hn : ∀ k, O k → ¬ O' k) : BoothIn O w1 q A := by
  obtain ⟨hv, ov, dv, h1, h2, h3, h4, h5, h6, h7, h8⟩ := h.raw
  exact ⟨fun k hk => Nat.lt_of_lt_of_le (h.own k hk) hb.size, h.mine, hv, ov, dv, h1.save hb (hn q h.mine), own_save h2 hb (fun k hk => hn k (h5 k hk)), own_save h3 hb (fun k hk => hn k (h6 k hk)), own_save h4 hb (fun k hk => hn k (h7 k hk)), h5, h6, h7, h8⟩
theorem BoothIn.next {O : Nat → Prop} {w w1 : World} {q : Nat} {A : Bk} (h : BoothIn O w q A) (hb : Below w.heap.size w w1) : BoothIn O w1 q A :=
  h.save (O' := fun _ => False) (.of_below hb) (fun _ _ q => q)

theorem over_at {es : List (Int × Bool)} {x : Int} {k : Nat} {b : Bool} (h : es[k]? = some (x, b)) (ha : ∀ e ∈ es.take k, e.1 ≠ x) : over es x = some b := by
  have e : es = es.take k ++ (x, b) :: es.drop (k + 1) := by rw [← drop_cons h, List.take_append_drop]
  rw [e, over_append, over_none ha]
  simp [over]

set_option maxHeartbeats 2000000 in
set_option maxRecDepth 100000 in
theorem bover_any (O : Nat → Prop) (A : Bk) (q : Nat) (deal : Int) (w : World) (h : BoothIn O w q A) (hlen : A.es.length < 2 ^ 40) :
    Calls Try.prog 99 #[.pointer (some ⟨q, 0, none⟩), .int .i64 deal] w fun e w' => e = .returned (.tuple #[.bool (ovB A.es deal), .bool (dnB A.es deal)]) ∧ Below w.heap.size w w' := by
  obtain ⟨hv, ov, dv, hR, _, ho, hd, _⟩ := h.raw
  obtain ⟨go, capo, rfl, hO, _⟩ := nums_of_own ho
  obtain ⟨gd, capd, rfl, hD, _⟩ := nums_of_own hd
  have c4 := hR.c4
  have c5 := hR.c5
  have hlt := hR.lt
  generalize A.es = es at *
  clear h hR ho hd
  go_enter Try.func99, Try.ntmps99
  go_wp2_with fail
  go_loopg [6] es.length (fun g i wr => ∃ k : Nat, k ≤ es.length ∧ g = es.length - k ∧ i = .int .i64 k ∧ Hid (∀ e ∈ es.take k, e.1 ≠ deal) ∧ w = wr)
  case atStart => exact ⟨0, Nat.zero_le _, rfl, rfl, by simp [Hid], rfl⟩
  case round =>
    obtain ⟨k, hk, rfl, rfl, HE, rfl⟩ := hrel
    by_cases hkl : k < es.length
    · obtain ⟨⟨a, b⟩, hkx⟩ : ∃ x, es[k]? = some x := ⟨_, List.getElem?_eq_getElem hkl⟩
      obtain ⟨b1, o1, rfl, hb1, p1⟩ := hO k a (by unfold ovL; rw [List.getElem?_map, hkx]; rfl)
      obtain ⟨b2, o2, rfl, hb2, p2⟩ := hD k (if b = true then 1 else 0) (by unfold dnL; rw [List.getElem?_map, hkx]; rfl)
      have j0 : (0 : Int) ≤ (k : Int) := by omega
      have j1 : (k : Int) < (es.length : Int) := by omega
      have j2 : (es.length : Int) < 2 ^ 40 := by omega
      clear hO hD
      by_cases he : a = deal
      · subst he
        have HO : Hid (over es a = some b) := over_at hkx HE.out
        cases b
        · simp only [Bool.false_eq_true, if_false] at p2
          go_wp2_with fail
          go_quiet (fail)
          go_wp2_with fail
          exact bodyPost_ret (v := .tuple #[.bool true, .bool false]) (by simp [results, Try.results99, go_sem]) rfl ⟨by unfold ovB dnB; rw [HO.out]; rfl, bdrewN (Below.refl _ _) _⟩
        · simp only [if_true] at p2
          go_wp2_with fail
          go_quiet (fail)
          go_wp2_with fail
          exact bodyPost_ret (v := .tuple #[.bool true, .bool true]) (by simp [results, Try.results99, go_sem]) rfl ⟨by unfold ovB dnB; rw [HO.out]; rfl, bdrewN (Below.refl _ _) _⟩
      · have he' : (a == deal) = false := by simpa using he
        have HE2 : Hid (∀ e ∈ es.take (k + 1), e.1 ≠ deal) := by
          intro e hm
          rw [take_snoc hkx, List.mem_append, List.mem_singleton] at hm
          rcases hm with hm | rfl
          · exact HE.out e hm
          · exact he
        clear he
        go_wp2_with fail
        go_roundg (es.length - (k + 1))
        case measure => omega
        case rel => exact ⟨k + 1, by omega, rfl, by simp, HE2, rfl⟩
    · have hkk : k = es.length := by omega
      subst hkk
      have HO : Hid (over es deal = none) := over_none (fun e hm => HE.out e (by rw [List.take_of_length_le (Nat.le_refl _)]; exact hm))
      go_wp2_with fail
      exact bodyPost_ret (v := .tuple #[.bool false, .bool false]) (by simp [results, Try.results99, go_sem]) rfl ⟨by unfold ovB dnB; rw [HO.out]; rfl, Below.refl _ _⟩

end Go.Proofs.Ytbgnajcmhmpjlab
