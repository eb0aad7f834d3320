/- The contract of the closure that tells what is held of other deals. -/
import Derived.Test.YtbgnajcmhmpjlaaSArr
import Derived.BigQuiet
namespace Go.Proofs.Ytbgnajcmhmpjlaa
open Go.RowKit

set_option maxHeartbeats 4000000 in
set_option maxRecDepth 100000 in
theorem others_any {w0 w : World} {Z : Nat → Prop} {p sb xb : Nat} {A : Bk} (x : Stp) (hL : Live w0 Z w p A) (hs : BoxAt w sb [.pointer (some ⟨p, 0, none⟩)]) (hx : BoxAt w xb x.cells) (hlen : A.hs.length < 400) :
    Calls Try.prog 50 #[.pointer (some ⟨sb, 0, none⟩), .pointer (some ⟨xb, 0, none⟩)] w fun e w' => (∃ ga cap, e = .returned (.slice ga (kept x.deal A.hs A.hs.length).length cap) ∧ HoldsAt w' ga (kept x.deal A.hs A.hs.length) ∧ ∀ a, ga = some a → w.heap.size ≤ a.block ∧ a.block < w'.heap.size) ∧ Below w.heap.size w w' := by
  obtain ⟨i0, hi, hz0, hz1, hz2⟩ := info_parts infoHold
  have s0 := hs.2 0 _ rfl
  have HL : Hid (A.hs.length < 400) := hlen
  have HX : Hid (BoxAt w xb x.cells) := hx
  clear hs hlen hx
  go_enter Try.func50, Try.ntmps50
  go_wp2_with fail
  refine Calls.mono (holds_live hL (by have := HL.out; omega)) ?_
  rintro e w1 ⟨⟨gh, caph, rfl, hH, _⟩, _, hb1⟩
  have HH : Hid (HoldsAt w1 gh A.hs) := hH
  have HX1 : Hid (BoxAt w1 xb x.cells) := HX.out.next hb1
  have HB1 : Hid (Below w.heap.size w w1) := hb1
  clear hH hL s0 hb1 HX
  go_wp2_with fail
  go_loopg [3, 5] A.hs.length (fun g s3 s5 wr => ∃ (j : Nat) (v3 : Value), j ≤ A.hs.length ∧ g = A.hs.length - j ∧ v3 = s3 ∧ s5 = .int .i64 j ∧ wr.ownsRow w1.heap.size 76 3 v3 (kept x.deal A.hs j).length (flat3 (kept x.deal A.hs j)) ∧ Below w1.heap.size w1 wr)
  case atStart => exact ⟨0, _, Nat.zero_le _, rfl, rfl, rfl, World.ownsRow_nil _ _ _ _, Below.refl _ _⟩
  case round =>
    obtain ⟨j, v3, hj, rfl, rfl, rfl, hown, hb2⟩ := hrel
    have HOw : Hid (wr.ownsRow w1.heap.size 76 3 v3 (kept x.deal A.hs j).length (flat3 (kept x.deal A.hs j))) := hown
    clear hown
    by_cases hjl : j < A.hs.length
    · obtain ⟨⟨a, c, d⟩, hjx⟩ : ∃ y, A.hs[j]? = some y := ⟨_, List.getElem?_eq_getElem hjl⟩
      obtain ⟨bl, ol, rfl, hbl, h0, h1, h2⟩ := HH.out j a c d hjx
      have p0 : wr.cell? ⟨bl, ol + j * 3, none⟩ = some (.int .i64 a) := (hb2.cell (p := ⟨bl, _, none⟩) hbl).trans h0
      have p1 : wr.cell? ⟨bl, ol + j * 3 + 1, none⟩ = some (.int .i64 c) := (hb2.cell (p := ⟨bl, _, none⟩) hbl).trans h1
      have p2 : wr.cell? ⟨bl, ol + j * 3 + 2, none⟩ = some (.int .i64 d) := (hb2.cell (p := ⟨bl, _, none⟩) hbl).trans h2
      have y1 : wr.cell? ⟨xb, 1, none⟩ = some (.int .i64 x.deal) := (hb2.cell (p := ⟨xb, 1, none⟩) HX1.out.1).trans (HX1.out.2 1 _ rfl)
      have j0 : (0 : Int) ≤ (j : Int) := by omega
      have j1 : (j : Int) < (A.hs.length : Int) := by omega
      have j2 : (A.hs.length : Int) < 400 := by have := HL.out; omega
      have HJ : Hid (j < A.hs.length) := hjl
      clear h0 h1 h2 hbl hj hjl
      by_cases ha : a = x.deal
      · have ha' : (a == x.deal) = true := by simpa using ha
        have HKp : Hid (kept x.deal A.hs (j + 1) = kept x.deal A.hs j) := kept_own hjx ha
        clear ha hjx
        go_wp2_with fail
        go_quiet (fail)
        go_wp2_with fail
        go_roundg (A.hs.length - (j + 1))
        case measure => have := HJ.out; omega
        case rel => exact ⟨j + 1, v3, HJ.out, rfl, rfl, by simp, by rw [HKp.out]; exact own_next HOw.out (bdrewN (Below.refl _ _) _), bdrewN hb2 _⟩
      · have ha' : (a == x.deal) = false := by simpa using ha
        have HKp : Hid (kept x.deal A.hs (j + 1) = kept x.deal A.hs j ++ [(a, c, d)]) := kept_other hjx ha
        have HKn : Hid ((kept x.deal A.hs j).length < 400) := by have := kept_le x.deal A.hs j; have := HJ.out; have := HL.out; show _ < _; omega
        have hr4 : IntKind.i64.wrap ((j : Int) + 1) = (j : Int) + 1 := by go_unwrap
        clear ha hjx
        go_wp2_with fail
        go_quiet (fail)
        have hdr : Below wr.heap.size wr (wr.drewN nq) := bdrewN (Below.refl _ _) nq
        have hb3 : Below w1.heap.size w1 (wr.drewN nq) := bdrewN hb2 nq
        have HOw3 : Hid (World.ownsRow (wr.drewN nq) w1.heap.size 76 3 v3 (kept x.deal A.hs j).length (flat3 (kept x.deal A.hs j))) := own_next HOw.out hdr
        have p0' : (wr.drewN nq).cell? ⟨bl, ol + j * 3, none⟩ = some (.int .i64 a) := by simpa [go_sem] using p0
        have p1' : (wr.drewN nq).cell? ⟨bl, ol + j * 3 + 1, none⟩ = some (.int .i64 c) := by simpa [go_sem] using p1
        have p2' : (wr.drewN nq).cell? ⟨bl, ol + j * 3 + 2, none⟩ = some (.int .i64 d) := by simpa [go_sem] using p2
        generalize wr.drewN nq = W2 at hb3 HOw3 p0' p1' p2' ⊢
        have HSz : Hid (w1.heap.size ≤ W2.heap.size) := hb3.size
        clear hb2 HOw p0 p1 p2 y1 hdr
        go_wp2_with (at_builtin; refine list_append_two rfl (.tmp 22) (.tmp 27) 64 rfl w1.heap.size 76 i0 (.agg #[.int .i64 0, .int .i64 0, .int .i64 0]) 3 24 Try.underlying64 hi hz0 hz1 hz2 rfl (by decide) v3 _ _ rfl (own_next HOw3.out (by go_grown)) ⟨W2.heap.size, 0, none⟩ 1 1 [.int .i64 a, .int .i64 c, .int .i64 d] rfl rfl (hold_lies (by simp [go_sem]) (by simp [go_sem]) (by simp [go_sem])) hold_cell (by have := HKn.out; unfold maxLen; omega) (by have := HKn.out; omega) (by have := HSz.out; simp; omega) (by decide) ?_; intro v8 w8 hown8 hgrow8 _)
        have hb8 : Below w1.heap.size w1 w8 := by
          have hx1 : Below w1.heap.size w1 (W2.alloc (.cells #[.int .i64 a, .int .i64 c, .int .i64 d] 76)) := hb3.alloc HSz.out _
          exact hx1.grown hgrow8 (by have := HSz.out; simp; omega) (fun k e => (HOw3.out.lt k e).1)
        have HO8 : Hid (w8.ownsRow w1.heap.size 76 3 v8 ((kept x.deal A.hs j).length + 1) (flat3 (kept x.deal A.hs j) ++ [.int .i64 a, .int .i64 c, .int .i64 d])) := hown8
        clear hown8 hgrow8
        go_roundg (A.hs.length - (j + 1))
        case measure => have := HJ.out; omega
        case rel =>
          refine ⟨j + 1, v8, HJ.out, rfl, rfl, by simp, ?_, hb8⟩
          have e1 : (kept x.deal A.hs (j + 1)).length = (kept x.deal A.hs j).length + 1 := by rw [HKp.out]; simp
          have e2 : flat3 (kept x.deal A.hs (j + 1)) = flat3 (kept x.deal A.hs j) ++ [.int .i64 a, .int .i64 c, .int .i64 d] := by rw [HKp.out]; exact flat3_snoc _ _ _ _
          rw [e1, e2]
          exact HO8.out
    · have hjj : j = A.hs.length := by omega
      subst hjj
      clear hj hjl
      obtain ⟨ga, cap, rfl, hA, _⟩ := holds_of_own HOw.out
      have HA : Hid (HoldsAt wr ga (kept x.deal A.hs A.hs.length)) := hA
      clear hA
      go_wp2_with fail
      go_ret
      refine ⟨⟨ga, ⟨cap, rfl⟩, HA.out, fun a e => ?_⟩, after HB1.out hb2 HB1.out.size⟩
      subst e
      have h1 := HOw.out.lt a.block rfl
      have := HB1.out.size
      exact ⟨by omega, h1.2⟩

end Go.Proofs.Ytbgnajcmhmpjlaa
