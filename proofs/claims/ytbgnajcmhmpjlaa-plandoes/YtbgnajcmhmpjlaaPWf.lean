/- The contract of WantsFault. -/
import Derived.Test.YtbgnajcmhmpjlaaPW2
namespace Go.Proofs.Ytbgnajcmhmpjlaa
open Go.RowKit

/-- An answer of two numbers, at a loop's head. -/
structure ASt (B : Nat) (w : World) (wr : World) : Prop where
  c0 : wr.cell? ⟨B, 0, none⟩ = some (.int .i64 0)
  c1 : wr.cell? ⟨B, 1, none⟩ = some (.int .i64 0)
  f0 : ∀ k, wr.frozen? ⟨B, k, none⟩ = false
  below : Below B w wr
  lt : B < wr.heap.size

theorem ASt.next {B : Nat} {w wr wx : World} (h : ASt B w wr) (hb : Below wr.heap.size wr wx) : ASt B w wx := by
  have hlt := h.lt
  refine ⟨((bcell hb).1 _ _ (by omega)).trans h.c0, ((bcell hb).1 _ _ (by omega)).trans h.c1, loose B hb (by omega) h.f0, after h.below hb (by omega), ?_⟩
  have := hb.size
  omega
theorem ASt.answer {B : Nat} {w wr : World} (h : ASt B w wr) (x y : Value) : Below B w ((wr.setCell ⟨B, 0, none⟩ x).setCell ⟨B, 1, none⟩ y) := (h.below.setCell (Nat.le_refl _) _).setCell (Nat.le_refl _) _

set_option maxHeartbeats 2000000 in
theorem wantsFault_any (la : Option Addr) (ll lc : Nat) (l : List (Int × Int)) (w : World) (hl : WantsAt w la l) (hll : l.length = ll) :
    Calls Try.prog 34 #[.slice la ll lc] w fun e w' => e = .returned (.agg #[.int .i64 (chkW l).1, .int .i64 (chkW l).2]) ∧ Below w.heap.size w w' := by
  by_cases h0 : ll = 0
  · have e1 : chkW l = (2, -1) := by unfold chkW; rw [if_pos (by omega)]
    rw [e1]
    have k0 : ((ll : Int) == 0) = true := by simp [h0]
    clear hl e1 hll h0
    go_enter Try.func34, Try.ntmps34
    go_wp2_with fail
    refine (fF_any _ _ _).mono ?_
    rintro e w1 ⟨rfl, hb1⟩
    have hA : ASt w.heap.size w w1 := (ASt.mk (by simp [go_sem]) (by simp [go_sem]) (by simp [go_sem]) (by go_grown) (by simp)).next hb1
    have r0 := hA.c0
    have r1 := hA.c1
    have rf := hA.f0
    clear hb1
    go_wp2_with fail
    exact bodyPost_ret (v := .agg #[.int .i64 2, .int .i64 (-1)]) (by simp [results, Try.results34, go_sem, r0, r1]) rfl ⟨rfl, hA.answer _ _⟩
  have k0 : ((ll : Int) == 0) = false := by simpa using h0
  by_cases h1 : 4 < ll
  · have e1 : chkW l = (3, -1) := by unfold chkW; rw [if_neg (by omega), if_pos (by omega)]
    rw [e1]
    have k1 : (4 : Int) < (ll : Int) := by omega
    clear hl e1 hll h0
    go_enter Try.func34, Try.ntmps34
    go_wp2_with fail
    refine (fF_any _ _ _).mono ?_
    rintro e w1 ⟨rfl, hb1⟩
    have hA : ASt w.heap.size w w1 := (ASt.mk (by simp [go_sem]) (by simp [go_sem]) (by simp [go_sem]) (by go_grown) (by simp)).next hb1
    have r0 := hA.c0
    have r1 := hA.c1
    have rf := hA.f0
    clear hb1
    go_wp2_with fail
    exact bodyPost_ret (v := .agg #[.int .i64 3, .int .i64 (-1)]) (by simp [results, Try.results34, go_sem, r0, r1]) rfl ⟨rfl, hA.answer _ _⟩
  have e1 : chkW l = scanW (l.take 0) (l.drop 0) := by unfold chkW; rw [if_neg (by omega), if_neg (by omega)]; simp
  rw [e1]
  have k1 : (ll : Int) ≤ 4 := by omega
  clear e1 h0
  go_enter Try.func34, Try.ntmps34
  go_wp2_with fail
  go_loopg [3] ll (fun g i wr => ∃ k : Nat, k ≤ ll ∧ g = ll - k ∧ i = .int .i64 k ∧ Hid (scanW (l.take 0) (l.drop 0) = scanW (l.take k) (l.drop k)) ∧ ASt w.heap.size w wr)
  case atStart =>
    exact ⟨0, Nat.zero_le _, rfl, rfl, rfl, by simp [go_sem], by simp [go_sem], by simp [go_sem], by go_grown, by simp⟩
  case round =>
    obtain ⟨k, hk, rfl, rfl, HE, hS⟩ := hrel
    by_cases hlt : k < ll
    · obtain ⟨⟨c, d⟩, hkl⟩ : ∃ x, l[k]? = some x := ⟨_, List.getElem?_eq_getElem (by omega)⟩
      obtain ⟨bl, ol, rfl, hbl, hcl, hdl⟩ := hl k c d hkl
      have j0 : (0 : Int) ≤ (k : Int) := by omega
      have j1 : (k : Int) < (ll : Int) := by omega
      have hcl' : wr.cell? ⟨bl, ol + k * 2, none⟩ = some (.int .i64 c) := (hS.below.cell (p := ⟨bl, ol + k * 2, none⟩) hbl).trans hcl
      have hdl' : wr.cell? ⟨bl, ol + k * 2 + 1, none⟩ = some (.int .i64 d) := (hS.below.cell (p := ⟨bl, ol + k * 2 + 1, none⟩) hbl).trans hdl
      have HC : Hid _ := hcl
      clear hcl hdl
      go_wp2_with fail
      refine (wantFault_any _ _ _).mono ?_
      rintro e w1 ⟨rfl, hb1⟩
      have hS1 : ASt w.heap.size w w1 := hS.next hb1
      clear hb1 hS hcl' hdl'
      have hlt1 := hS1.lt
      by_cases hw : wnt c d = 0
      · have hw' : (wnt c d != 0) = false := by simp [hw]
        have HW : Hid _ := hw
        clear hw
        go_wp2_with fail
        go_loopg [5] k (fun g i wx => ∃ m : Nat, m ≤ k ∧ g = k - m ∧ i = .int .i64 m ∧ Hid ((l.take m).any (fun y => y.1 == c) = false) ∧ ASt w.heap.size w wx)
        case atStart => exact ⟨0, Nat.zero_le _, rfl, rfl, by simp [Hid], hS1⟩
        case round =>
          rename_i wx
          obtain ⟨m, hm, rfl, rfl, HM, hS2⟩ := hrel
          by_cases hlt2 : m < k
          · obtain ⟨⟨c', d'⟩, hml⟩ : ∃ x, l[m]? = some x := ⟨_, List.getElem?_eq_getElem (by omega)⟩
            obtain ⟨bl2, ol2, hq, hbl2, hcm, -⟩ := hl m c' d' hml
            obtain ⟨rfl, rfl⟩ : bl = bl2 ∧ ol = ol2 := by simpa using hq
            have p0 : wr.cell? ⟨bl, ol + k * 2, none⟩ = some (.int .i64 c) := (hS2.below.cell (p := ⟨bl, ol + k * 2, none⟩) hbl).trans HC.out
            have p1 : wr.cell? ⟨bl, ol + m * 2, none⟩ = some (.int .i64 c') := (hS2.below.cell (p := ⟨bl, ol + m * 2, none⟩) hbl).trans hcm
            have i0 : (0 : Int) ≤ (m : Int) := by omega
            have i1 : (m : Int) < (k : Int) := by omega
            have i2 : (m : Int) < (ll : Int) := by omega
            clear hcm hq hl
            by_cases he : c' = c
            · have he' : (c' == c) = true := by simp [he]
              have ht : (l.take k).any (fun y => y.1 == c) = true := by
                rw [List.any_eq_true]
                exact ⟨(c', d'), List.mem_of_getElem? (i := m) (by rw [List.getElem?_take_of_lt hlt2]; exact hml), he'⟩
              have HE2 : Hid _ := HE.out.trans (scan_twice hkl HW.out ht)
              clear he ht
              go_wp2_with fail
              go_quiet (fail)
              go_wp2_with fail
              refine (fF_any _ _ _).mono ?_
              rintro e w2 ⟨rfl, hb2⟩
              have hS3 := (hS2.next (bdrewN (Below.refl _ _) _)).next hb2
              clear hb2 p0 p1
              have r0 := hS3.c0
              have r1 := hS3.c1
              have rf := hS3.f0
              go_wp2_with fail
              exact bodyPost_ret (v := .agg #[.int .i64 4, .int .i64 k]) (by simp [results, Try.results34, go_sem, r0, r1]) rfl ⟨by rw [HE2.out], hS3.answer _ _⟩
            · have he' : (c' == c) = false := by simpa using he
              have HM2 : Hid _ := (any_next hml c).trans (by rw [HM.out, he', Bool.or_false])
              clear he
              go_wp2_with fail
              go_quiet (fail)
              go_wp2_with fail
              go_roundg (k - (m + 1))
              case measure => omega
              case rel => exact ⟨m + 1, by omega, rfl, by simp, HM2, hS2.next (bdrewN (Below.refl _ _) _)⟩
          · have hmk : m = k := by omega
            subst hmk
            have HE2 : Hid _ := HE.out.trans (scan_next hkl HW.out HM.out)
            go_wp2_with fail
            go_roundg (ll - (m + 1))
            case measure => omega
            case rel => exact ⟨m + 1, by omega, rfl, by simp, HE2, hS2⟩
      · have HE2 : Hid _ := HE.out.trans (scan_bad hkl hw)
        have hw' : (wnt c d != 0) = true := by simpa using hw
        clear hw HE
        go_wp2_with fail
        refine (fF_any _ _ _).mono ?_
        rintro e w2 ⟨rfl, hb2⟩
        have hS2 := hS1.next hb2
        clear hb2
        have r0 := hS2.c0
        have r1 := hS2.c1
        have rf := hS2.f0
        go_wp2_with fail
        exact bodyPost_ret (v := .agg #[.int .i64 (wnt c d), .int .i64 k]) (by simp [results, Try.results34, go_sem, r0, r1]) rfl ⟨by rw [HE2.out], hS2.answer _ _⟩
    · have hkk : k = ll := by omega
      subst hkk
      have r0 := hS.c0
      have r1 := hS.c1
      have rf := hS.f0
      go_wp2_with fail
      exact bodyPost_ret (v := .agg #[.int .i64 0, .int .i64 0]) (by simp [results, Try.results34, go_sem, r0, r1]) rfl ⟨by rw [HE.out, List.drop_of_length_le (l := l) (by omega), scanW], hS.answer _ _⟩

end Go.Proofs.Ytbgnajcmhmpjlaa
