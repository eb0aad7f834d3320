/- The contract of NewBooth. -/
import Derived.Test.YtbgnajcmhmpjlabBBox
import Derived.Test.YtbgnajcmhmpjlabSNew
namespace Go.Proofs.Ytbgnajcmhmpjlab
open Go.RowKit

/-- What NewBooth answers. -/
def NewBIs (no : Int) (ws : Nat → Int) (w : World) (e : Ending) (w' : World) : Prop := if newOk no ws = true then ∃ q O, e = .returned (.pointer (some ⟨q, 0, none⟩)) ∧ BoothIn O w' q (book0 no ws) ∧ ∀ k, O k → w.heap.size ≤ k else e = .returned (.pointer none)
theorem newBIs_nil {no : Int} {ws : Nat → Int} {w w' : World} {e : Ending} (h : newOk no ws = false) (he : e = .returned (.pointer none)) : NewBIs no ws w e w' := by
  unfold NewBIs
  rw [if_neg (by rw [h]; decide)]
  exact he
/-- The values when k of them were laid. -/
def LaidB (a b : Int) (k : Nat) (v0 v1 : Int) : Prop := (k = 0 ∧ v0 = 0 ∧ v1 = 0) ∨ (k = 1 ∧ v0 = a ∧ v1 = 0 ∧ 0 ≤ a ∧ a ≤ 100) ∨ (k = 2 ∧ v0 = a ∧ v1 = b ∧ 0 ≤ a ∧ a ≤ 100 ∧ 0 ≤ b ∧ b ≤ 100)
theorem braw_new (w : World) (no : Int) (t : TypeId) : BoothRaw (w.alloc (.cells #[.int .i64 no, .int .i64 0, .int .i64 0, .slice none 0 0, .slice none 0 0, .slice none 0 0] t)) w.heap.size no 0 0 (.slice none 0 0) (.slice none 0 0) (.slice none 0 0) :=
  ⟨by simp, by simp [go_sem], by simp [go_sem], by simp [go_sem], by simp [go_sem], by simp [go_sem], by simp [go_sem], by simp [go_sem]⟩
theorem BoothRaw.set1 {w : World} {q : Nat} {no v0 v1 : Int} {hv ov dv : Value} (h : BoothRaw w q no v0 v1 hv ov dv) (a : Int) : BoothRaw (w.setCell ⟨q, 1, none⟩ (.int .i64 a)) q no a v1 hv ov dv :=
  ⟨by simpa using h.lt, (cell_set_off (by omega)).trans h.c0, cell_set_same h.c1, (cell_set_off (by omega)).trans h.c2, (cell_set_off (by omega)).trans h.c3, (cell_set_off (by omega)).trans h.c4, (cell_set_off (by omega)).trans h.c5, by simpa [go_sem] using h.loose⟩
theorem BoothRaw.set2 {w : World} {q : Nat} {no v0 v1 : Int} {hv ov dv : Value} (h : BoothRaw w q no v0 v1 hv ov dv) (a : Int) : BoothRaw (w.setCell ⟨q, 2, none⟩ (.int .i64 a)) q no v0 a hv ov dv :=
  ⟨by simpa using h.lt, (cell_set_off (by omega)).trans h.c0, (cell_set_off (by omega)).trans h.c1, cell_set_same h.c2, (cell_set_off (by omega)).trans h.c3, (cell_set_off (by omega)).trans h.c4, (cell_set_off (by omega)).trans h.c5, by simpa [go_sem] using h.loose⟩

set_option maxHeartbeats 4000000 in
set_option maxRecDepth 100000 in
theorem bnew_any (no : Int) (ws : Nat → Int) (w : World) :
    Calls Try.prog 62 #[.int .i64 no, .agg #[.int .i64 (ws 0), .int .i64 (ws 1), .int .i64 (ws 2), .int .i64 (ws 3), .int .i64 (ws 4), .int .i64 (ws 5)]] w fun e w' => NewBIs no ws w e w' ∧ Below w.heap.size w w' := by
  by_cases h0 : no < 0
  · have HN : Hid (newOk no ws = false) := by
      show _ = _
      rw [← Bool.not_eq_true, newOk_iff]; omega
    go_enter Try.func62, Try.ntmps62
    go_wp2_with fail
    go_ret
    exact ⟨newBIs_nil HN.out rfl, by go_grown⟩
  · by_cases h3 : 3 ≤ no
    · have HN : Hid (newOk no ws = false) := by
        show _ = _
        rw [← Bool.not_eq_true, newOk_iff]; omega
      have h0' : 0 ≤ no := by omega
      clear h0
      go_enter Try.func62, Try.ntmps62
      go_wp2_with fail
      go_ret
      exact ⟨newBIs_nil HN.out rfl, by go_grown⟩
    · have h0' : 0 ≤ no := by omega
      have h3' : no < 3 := by omega
      obtain ⟨a, ha⟩ : ∃ a, a = ws (no * 2).toNat := ⟨_, rfl⟩
      obtain ⟨b, hb⟩ : ∃ b, b = ws (no * 2 + 1).toNat := ⟨_, rfl⟩
      have HNo : Hid (newOk no ws = true ↔ 0 ≤ a ∧ a ≤ 100 ∧ 0 ≤ b ∧ b ≤ 100) := by
        show _ ↔ _
        rw [newOk_iff, ha, hb]; constructor
        · intro h; exact h.2.2
        · intro h; exact ⟨h0', h3', h⟩
      have HA : Hid _ := ha
      have HB : Hid _ := hb
      clear ha hb
      go_enter Try.func62, Try.ntmps62
      go_wp2_with fail
      have hX0 := BoxAt.new w [.int .i64 (ws 0), .int .i64 (ws 1), .int .i64 (ws 2), .int .i64 (ws 3), .int .i64 (ws 4), .int .i64 (ws 5)] 23
      have hb0 : Below w.heap.size w (w.alloc (.cells #[.int .i64 (ws 0), .int .i64 (ws 1), .int .i64 (ws 2), .int .i64 (ws 3), .int .i64 (ws 4), .int .i64 (ws 5)] 23)) := (Below.refl _ _).alloc (Nat.le_refl _) _
      have hz0 : (w.alloc (.cells #[.int .i64 (ws 0), .int .i64 (ws 1), .int .i64 (ws 2), .int .i64 (ws 3), .int .i64 (ws 4), .int .i64 (ws 5)] 23)).heap.size = w.heap.size + 1 := by simp
      generalize (w.alloc (.cells #[.int .i64 (ws 0), .int .i64 (ws 1), .int .i64 (ws 2), .int .i64 (ws 3), .int .i64 (ws 4), .int .i64 (ws 5)] 23)) = W0 at hX0 hb0 hz0 ⊢
      have hR0 := braw_new W0 no 44
      have hn0 : Below W0.heap.size W0 (W0.alloc (.cells #[.int .i64 no, .int .i64 0, .int .i64 0, .slice none 0 0, .slice none 0 0, .slice none 0 0] 44)) := (Below.refl _ _).alloc (Nat.le_refl _) _
      have hX1 := hX0.next hn0
      have hb1 := after hb0 hn0 hb0.size
      rw [hz0] at hR0
      generalize (W0.alloc (.cells #[.int .i64 no, .int .i64 0, .int .i64 0, .slice none 0 0, .slice none 0 0, .slice none 0 0] 44)) = W1 at hR0 hX1 hb1 ⊢
      clear hn0 hX0 hb0
      generalize hp : w.heap.size + 1 = p at hR0 hz0 ⊢
      have hpw : w.heap.size < p := by omega
      have hpn : w.heap.size ≠ p := by omega
      clear hp
      go_loopg [6, 7] 2 (fun g s6 _ wr => ∃ (k : Nat) (v0 v1 : Int), k ≤ 2 ∧ g = 2 - k ∧ s6 = .int .i64 k ∧ Hid (LaidB a b k v0 v1) ∧ BoothRaw wr p no v0 v1 (.slice none 0 0) (.slice none 0 0) (.slice none 0 0) ∧ BoxAt wr w.heap.size [.int .i64 (ws 0), .int .i64 (ws 1), .int .i64 (ws 2), .int .i64 (ws 3), .int .i64 (ws 4), .int .i64 (ws 5)] ∧ Below w.heap.size w wr)
      case atStart => exact ⟨0, 0, 0, by omega, rfl, rfl, .inl ⟨rfl, rfl, rfl⟩, hR0, hX1, hb1⟩
      case round =>
        obtain ⟨k, v0, v1, hk, rfl, rfl, HL, hR, hX, hB⟩ := hrel
        clear hR0 hX1 hb1 hz0
        have hlt := hR.lt
        have hlx := hX.1
        have hf := hR.loose
        rcases HL.out with ⟨rfl, rfl, rfl⟩ | ⟨rfl, rfl, rfl, a0, a1⟩ | ⟨rfl, rfl, rfl, a0, a1, b0, b1⟩
        · have hno : no = 0 ∨ no = 1 ∨ no = 2 := by omega
          have hx : Hid (∃ j, (no * 2).toNat = j ∧ wr.cell? ⟨w.heap.size, j, none⟩ = some (.int .i64 a)) := by
            refine ⟨_, rfl, ?_⟩
            rw [HA.out]
            rcases hno with rfl | rfl | rfl
            · exact hX.2 0 _ rfl
            · exact hX.2 2 _ rfl
            · exact hX.2 4 _ rfl
          obtain ⟨j, hj, hx⟩ := hx.out
          have c1 := hR.c1
          by_cases hc : 0 ≤ a ∧ a ≤ 100
          · obtain ⟨t0, t1⟩ := hc
            have HT : Hid (0 ≤ a ∧ a ≤ 100) := ⟨t0, t1⟩
            rcases hno with rfl | rfl | rfl
            all_goals
              simp at hj
              subst hj
              go_wp2_with fail
              go_roundg 1
              case measure => omega
              case rel => exact ⟨1, _, _, by omega, rfl, by simp, .inr (.inl ⟨rfl, rfl, rfl, HT.out.1, HT.out.2⟩), hR.set1 a, ⟨by simpa using hlx, fun j u hj => by rw [cell_set_block hpn]; exact hX.2 j u hj⟩, hB.setCell (p := ⟨p, 1, none⟩) (Nat.le_of_lt hpw) _⟩
          · have HT : Hid (newOk no ws = false) := by
              show _ = _
              rw [← Bool.not_eq_true, HNo.out]
              exact fun h => hc ⟨h.1, h.2.1⟩
            have hor : a < 0 ∨ (0 ≤ a ∧ 100 < a) := by omega
            clear hc
            rcases hno with rfl | rfl | rfl
            all_goals
              simp at hj
              subst hj
              rcases hor with t0 | ⟨t0, t1⟩
              all_goals
                go_wp2_with fail
                go_ret
                exact ⟨newBIs_nil HT.out rfl, hB⟩
        · have hno : no = 0 ∨ no = 1 ∨ no = 2 := by omega
          have HAB : Hid (0 ≤ v0 ∧ v0 ≤ 100) := ⟨a0, a1⟩
          clear a0 a1
          have hx : Hid (∃ j, (no * 2 + 1).toNat = j ∧ wr.cell? ⟨w.heap.size, j, none⟩ = some (.int .i64 b)) := by
            refine ⟨_, rfl, ?_⟩
            rw [HB.out]
            rcases hno with rfl | rfl | rfl
            · exact hX.2 1 _ rfl
            · exact hX.2 3 _ rfl
            · exact hX.2 5 _ rfl
          obtain ⟨j, hj, hx⟩ := hx.out
          have c2 := hR.c2
          by_cases hc : 0 ≤ b ∧ b ≤ 100
          · obtain ⟨t0, t1⟩ := hc
            have HT : Hid (0 ≤ b ∧ b ≤ 100) := ⟨t0, t1⟩
            rcases hno with rfl | rfl | rfl
            all_goals
              simp at hj
              subst hj
              go_wp2_with fail
              go_roundg 0
              case measure => omega
              case rel => exact ⟨2, _, _, by omega, rfl, by simp, .inr (.inr ⟨rfl, rfl, rfl, HAB.out.1, HAB.out.2, HT.out.1, HT.out.2⟩), hR.set2 b, ⟨by simpa using hlx, fun j u hj => by rw [cell_set_block hpn]; exact hX.2 j u hj⟩, hB.setCell (p := ⟨p, 2, none⟩) (Nat.le_of_lt hpw) _⟩
          · have HT : Hid (newOk no ws = false) := by
              show _ = _
              rw [← Bool.not_eq_true, HNo.out]
              exact fun h => hc ⟨h.2.2.1, h.2.2.2⟩
            have hor : b < 0 ∨ (0 ≤ b ∧ 100 < b) := by omega
            clear hc
            rcases hno with rfl | rfl | rfl
            all_goals
              simp at hj
              subst hj
              rcases hor with t0 | ⟨t0, t1⟩
              all_goals
                go_wp2_with fail
                go_ret
                exact ⟨newBIs_nil HT.out rfl, hB⟩
        · have HT : Hid (newOk no ws = true) := HNo.out.2 ⟨a0, a1, b0, b1⟩
          clear a0 a1 b0 b1
          go_wp2_with fail
          go_ret
          refine ⟨?_, hB⟩
          unfold NewBIs
          rw [if_pos HT.out]
          have nn : ∀ k, ¬ (Value.slice none 0 0).ownBlock = some k := fun k e => by simp [Value.ownBlock] at e
          refine ⟨p, fun k => k = p, rfl, ⟨fun k e => by subst e; exact hlt, rfl, .slice none 0 0, .slice none 0 0, .slice none 0 0, ?_, World.ownsRow_nil _ _ _ _, World.ownsRow_nil _ _ _ _, World.ownsRow_nil _ _ _ _, fun k e => absurd e (nn k), fun k e => absurd e (nn k), fun k e => absurd e (nn k), fun k e => absurd e (nn k), fun k e => absurd e (nn k), fun k e => absurd e (nn k)⟩, fun k e => by subst e; exact Nat.le_of_lt hpw⟩
          show BoothRaw wr p no (ws (no * 2).toNat) (ws (no * 2 + 1).toNat) _ _ _
          rw [← HA.out, ← HB.out]
          exact hR

end Go.Proofs.Ytbgnajcmhmpjlab
