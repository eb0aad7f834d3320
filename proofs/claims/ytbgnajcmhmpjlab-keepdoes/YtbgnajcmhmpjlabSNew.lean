/- The contract of shop.New. -/
import Derived.Test.YtbgnajcmhmpjlabSHold
namespace Go.Proofs.Ytbgnajcmhmpjlab
open Go.RowKit

/-- The book that a shop begins with. -/
def book0 (no : Int) (ws : Nat → Int) : Bk := { no := no, v0 := ws (no * 2).toNat, v1 := ws (no * 2 + 1).toNat, hs := [], es := [] }
/-- May there be such a shop? -/
def newOk (no : Int) (ws : Nat → Int) : Bool := decide (0 ≤ no) && decide (no < 3) && decide (0 ≤ ws (no * 2).toNat) && decide (ws (no * 2).toNat ≤ 100) && decide (0 ≤ ws (no * 2 + 1).toNat) && decide (ws (no * 2 + 1).toNat ≤ 100)
theorem newOk_iff (no : Int) (ws : Nat → Int) : newOk no ws = true ↔ 0 ≤ no ∧ no < 3 ∧ 0 ≤ ws (no * 2).toNat ∧ ws (no * 2).toNat ≤ 100 ∧ 0 ≤ ws (no * 2 + 1).toNat ∧ ws (no * 2 + 1).toNat ≤ 100 := by
  unfold newOk
  simp [Bool.and_eq_true, and_assoc]
theorem chk_val (v : Int) : chk v 0 0 = (if v < 0 then 1 else if 100 < v then 1 else 0) := by
  unfold chk
  repeat' split
  all_goals omega

/-- What New answers. -/
def NewIs (no : Int) (ws : Nat → Int) (w : World) (e : Ending) (w' : World) : Prop := if newOk no ws = true then ∃ p O, e = .returned (.pointer (some ⟨p, 0, none⟩)) ∧ ShopIn O w' p (book0 no ws) ∧ ∀ k, O k → w.heap.size ≤ k else e = .returned (.pointer none)
theorem newIs_nil {no : Int} {ws : Nat → Int} {w w' : World} {e : Ending} (h : newOk no ws = false) (he : e = .returned (.pointer none)) : NewIs no ws w e w' := by
  unfold NewIs
  rw [if_neg (by rw [h]; decide)]
  exact he
/-- The counters when k of them were laid. -/
def Laid (a b : Int) (k : Nat) (c : Nat → Int) : Prop := (k = 0 ∧ c = noW) ∨ (k = 1 ∧ c = upd noW 0 a ∧ 0 ≤ a ∧ a ≤ 100) ∨ (k = 2 ∧ c = upd (upd noW 0 a) 3 b ∧ 0 ≤ a ∧ a ≤ 100 ∧ 0 ≤ b ∧ b ≤ 100)
theorem raw_new (w : World) (no : Int) (t : TypeId) : ShopRaw (w.alloc (.cells #[.int .i64 no, .int .i64 0, .int .i64 0, .int .i64 0, .int .i64 0, .int .i64 0, .int .i64 0, .slice none 0 0, .bool false, .bool false, .bool false, .bool false, .bool false, .bool false, .bool false, .bool false, .bool false, .bool false, .bool false, .bool false, .bool false, .bool false, .bool false, .bool false] t)) w.heap.size no noW (.slice none 0 0) (fun _ => false) (fun _ => false) := by
  refine ⟨by simp, by simp [go_sem], fun j hj => ?_, by simp [go_sem], fun d hd => ?_, fun d hd => ?_, by simp [go_sem]⟩
  · have : j = 0 ∨ j = 1 ∨ j = 2 ∨ j = 3 ∨ j = 4 ∨ j = 5 := by omega
    rcases this with rfl | rfl | rfl | rfl | rfl | rfl <;> simp [go_sem, noW]
  · have : d = 0 ∨ d = 1 ∨ d = 2 ∨ d = 3 ∨ d = 4 ∨ d = 5 ∨ d = 6 ∨ d = 7 := by omega
    rcases this with rfl | rfl | rfl | rfl | rfl | rfl | rfl | rfl <;> simp [go_sem]
  · have : d = 0 ∨ d = 1 ∨ d = 2 ∨ d = 3 ∨ d = 4 ∨ d = 5 ∨ d = 6 ∨ d = 7 := by omega
    rcases this with rfl | rfl | rfl | rfl | rfl | rfl | rfl | rfl <;> simp [go_sem]

set_option maxHeartbeats 4000000 in
set_option maxRecDepth 100000 in
theorem snew_any (no : Int) (ws : Nat → Int) (w : World) :
    Calls Try.prog 65 #[.int .i64 no, .agg #[.int .i64 (ws 0), .int .i64 (ws 1), .int .i64 (ws 2), .int .i64 (ws 3), .int .i64 (ws 4), .int .i64 (ws 5)]] w fun e w' => NewIs no ws w e w' ∧ Below w.heap.size w w' := by
  by_cases h0 : no < 0
  · have HN : Hid (newOk no ws = false) := by
      show _ = _
      rw [← Bool.not_eq_true, newOk_iff]; omega
    go_enter Try.func65, Try.ntmps65
    go_wp2_with fail
    go_ret
    exact ⟨newIs_nil HN.out rfl, by go_grown⟩
  · by_cases h3 : 3 ≤ no
    · have HN : Hid (newOk no ws = false) := by
        show _ = _
        rw [← Bool.not_eq_true, newOk_iff]; omega
      have h0' : 0 ≤ no := by omega
      clear h0
      go_enter Try.func65, Try.ntmps65
      go_wp2_with fail
      go_ret
      exact ⟨newIs_nil HN.out rfl, by go_grown⟩
    · have h0' : 0 ≤ no := by omega
      have h3' : no < 3 := by omega
      obtain ⟨a, ha⟩ : ∃ a, a = ws (no * 2).toNat := ⟨_, rfl⟩
      obtain ⟨b, hb⟩ : ∃ b, b = ws (no * 2 + 1).toNat := ⟨_, rfl⟩
      have HNo : Hid (newOk no ws = true ↔ 0 ≤ a ∧ a ≤ 100 ∧ 0 ≤ b ∧ b ≤ 100) := by
        show _ ↔ _
        rw [newOk_iff, ha, hb]; constructor
        · intro h; exact h.2.2
        · intro h; exact ⟨h0', h3', h⟩
      have HA : Hid _ := ha
      have HB : Hid _ := hb
      clear ha hb
      go_enter Try.func65, Try.ntmps65
      go_wp2_with fail
      have hX0 := BoxAt.new w [.int .i64 (ws 0), .int .i64 (ws 1), .int .i64 (ws 2), .int .i64 (ws 3), .int .i64 (ws 4), .int .i64 (ws 5)] 23
      have hb0 : Below w.heap.size w (w.alloc (.cells #[.int .i64 (ws 0), .int .i64 (ws 1), .int .i64 (ws 2), .int .i64 (ws 3), .int .i64 (ws 4), .int .i64 (ws 5)] 23)) := (Below.refl _ _).alloc (Nat.le_refl _) _
      have hz0 : (w.alloc (.cells #[.int .i64 (ws 0), .int .i64 (ws 1), .int .i64 (ws 2), .int .i64 (ws 3), .int .i64 (ws 4), .int .i64 (ws 5)] 23)).heap.size = w.heap.size + 1 := by simp
      generalize (w.alloc (.cells #[.int .i64 (ws 0), .int .i64 (ws 1), .int .i64 (ws 2), .int .i64 (ws 3), .int .i64 (ws 4), .int .i64 (ws 5)] 23)) = W0 at hX0 hb0 hz0 ⊢
      have hR0 := raw_new W0 no 121
      have hn0 : Below W0.heap.size W0 (W0.alloc (.cells #[.int .i64 no, .int .i64 0, .int .i64 0, .int .i64 0, .int .i64 0, .int .i64 0, .int .i64 0, .slice none 0 0, .bool false, .bool false, .bool false, .bool false, .bool false, .bool false, .bool false, .bool false, .bool false, .bool false, .bool false, .bool false, .bool false, .bool false, .bool false, .bool false] 121)) := (Below.refl _ _).alloc (Nat.le_refl _) _
      have hX1 := hX0.next hn0
      have hb1 := after hb0 hn0 hb0.size
      rw [hz0] at hR0
      generalize (W0.alloc (.cells #[.int .i64 no, .int .i64 0, .int .i64 0, .int .i64 0, .int .i64 0, .int .i64 0, .int .i64 0, .slice none 0 0, .bool false, .bool false, .bool false, .bool false, .bool false, .bool false, .bool false, .bool false, .bool false, .bool false, .bool false, .bool false, .bool false, .bool false, .bool false, .bool false] 121)) = W1 at hR0 hX1 hb1 ⊢
      clear hn0 hX0 hb0
      generalize hp : w.heap.size + 1 = p at hR0 hz0 ⊢
      have HP : Hid _ := hp
      have hpw : w.heap.size < p := by omega
      have hpn : w.heap.size ≠ p := by omega
      clear hp
      go_loopg [6, 16] 2 (fun g _ s16 wr => ∃ (k : Nat) (c : Nat → Int), k ≤ 2 ∧ g = 2 - k ∧ s16 = .int .i64 k ∧ Hid (Laid a b k c) ∧ ShopRaw wr p no c (.slice none 0 0) (fun _ => false) (fun _ => false) ∧ BoxAt wr w.heap.size [.int .i64 (ws 0), .int .i64 (ws 1), .int .i64 (ws 2), .int .i64 (ws 3), .int .i64 (ws 4), .int .i64 (ws 5)] ∧ Below w.heap.size w wr)
      case atStart => exact ⟨0, noW, by omega, rfl, rfl, .inl ⟨rfl, rfl⟩, hR0, hX1, hb1⟩
      case round =>
        obtain ⟨k, c, hk, rfl, rfl, HL, hR, hX, hB⟩ := hrel
        clear hR0 hX1 hb1 hz0
        have hlt := hR.lt
        have hlx := hX.1
        rcases HL.out with ⟨rfl, rfl⟩ | ⟨rfl, rfl, a0, a1⟩ | ⟨rfl, rfl, a0, a1, b0, b1⟩
        · have c0 : wr.cell? ⟨p, 1, none⟩ = some (.int .i64 0) := hR.cs 0 (by omega)
          have c1 : wr.cell? ⟨p, 2, none⟩ = some (.int .i64 0) := hR.cs 1 (by omega)
          have c2 : wr.cell? ⟨p, 3, none⟩ = some (.int .i64 0) := hR.cs 2 (by omega)
          have hf := hR.loose
          have hno : no = 0 ∨ no = 1 ∨ no = 2 := by omega
          have hx : Hid (∃ j, (no * 2).toNat = j ∧ wr.cell? ⟨w.heap.size, j, none⟩ = some (.int .i64 a)) := by
            refine ⟨_, rfl, ?_⟩
            rw [HA.out]
            rcases hno with rfl | rfl | rfl
            · exact hX.2 0 _ rfl
            · exact hX.2 2 _ rfl
            · exact hX.2 4 _ rfl
          obtain ⟨j, hj, hx⟩ := hx.out
          have HCh : Hid (∀ W : World, _) := fun W => check_any a 0 0 W
          rcases hno with rfl | rfl | rfl
          all_goals
            simp at hj
            subst hj
            go_wp2_with fail
            go_region
            have hR2 := (hR.setC 0 (by omega) a).next ((Below.refl _ _).drew)
            have hX2 : BoxAt (wr.setCell ⟨p, 1 + 0, none⟩ (.int .i64 a)).drew w.heap.size [.int .i64 (ws 0), .int .i64 (ws 1), .int .i64 (ws 2), .int .i64 (ws 3), .int .i64 (ws 4), .int .i64 (ws 5)] :=
              ⟨by simpa using hlx, fun j u hj => by
                show (wr.setCell ⟨p, 1 + 0, none⟩ (.int .i64 a)).cell? _ = _
                rw [cell_set_block hpn]; exact hX.2 j u hj⟩
            have hB2 : Below w.heap.size w (wr.setCell ⟨p, 1 + 0, none⟩ (.int .i64 a)).drew := (hB.setCell (p := ⟨p, 1 + 0, none⟩) (Nat.le_of_lt hpw) _).drew
            simp only [Nat.reduceAdd] at hR2 hX2 hB2
            generalize (wr.setCell ⟨p, 1, none⟩ (.int .i64 a)).drew = W2 at hR2 hX2 hB2 ⊢
            have d0 : W2.cell? ⟨p, 1, none⟩ = some (.int .i64 a) := hR2.cs 0 (by omega)
            have d1 : W2.cell? ⟨p, 1+1, none⟩ = some (.int .i64 0) := hR2.cs (0+1) (by omega)
            have d2 : W2.cell? ⟨p, 1+2, none⟩ = some (.int .i64 0) := hR2.cs (0+2) (by omega)
            simp only [Nat.reduceAdd] at d1 d2
            clear hR hX hB c0 c1 c2 hf hx hlt hlx
            go_wp2_with fail
            refine Calls.mono (HCh.out _) ?_
            rintro e w3 ⟨rfl, hb3⟩
            have hR3 := hR2.next hb3
            have hX3 := hX2.next hb3
            have hB3 := after hB2 hb3 hB2.size
            clear hR2 hX2 hB2 d0 d1 d2 hb3
            by_cases hc : chk a 0 0 = 0
            · have hc' : (chk a 0 0 != 0) = false := by simp [hc]
              obtain ⟨t0, t1, _⟩ := chk_ok hc
              have HT : Hid (0 ≤ a ∧ a ≤ 100) := ⟨t0, t1⟩
              clear hc t0 t1
              go_wp2_with fail
              go_roundg 1
              case measure => omega
              case rel => exact ⟨1, _, by omega, rfl, by simp, .inr (.inl ⟨rfl, rfl, HT.out.1, HT.out.2⟩), hR3, hX3, hB3⟩
            · have hc' : (chk a 0 0 != 0) = true := by simpa using hc
              have HT : Hid (¬ (0 ≤ a ∧ a ≤ 100)) := fun h => hc (chk_of h.1 h.2 (by omega) h.1 (by omega) (by omega))
              clear hc
              go_wp2_with fail
              go_ret
              refine ⟨newIs_nil ?_ rfl, hB3⟩
              rw [← Bool.not_eq_true, HNo.out]
              exact fun h => HT.out ⟨h.1, h.2.1⟩
        · have c0 : wr.cell? ⟨p, 4, none⟩ = some (.int .i64 0) := hR.cs 3 (by omega)
          have c1 : wr.cell? ⟨p, 5, none⟩ = some (.int .i64 0) := hR.cs 4 (by omega)
          have c2 : wr.cell? ⟨p, 6, none⟩ = some (.int .i64 0) := hR.cs 5 (by omega)
          have HAB : Hid (0 ≤ a ∧ a ≤ 100) := ⟨a0, a1⟩
          clear a0 a1
          have hf := hR.loose
          have hno : no = 0 ∨ no = 1 ∨ no = 2 := by omega
          have hx : Hid (∃ j, (no * 2 + 1).toNat = j ∧ wr.cell? ⟨w.heap.size, j, none⟩ = some (.int .i64 b)) := by
            refine ⟨_, rfl, ?_⟩
            rw [HB.out]
            rcases hno with rfl | rfl | rfl
            · exact hX.2 1 _ rfl
            · exact hX.2 3 _ rfl
            · exact hX.2 5 _ rfl
          obtain ⟨j, hj, hx⟩ := hx.out
          have HCh : Hid (∀ W : World, _) := fun W => check_any b 0 0 W
          rcases hno with rfl | rfl | rfl
          all_goals
            simp at hj
            subst hj
            go_wp2_with fail
            go_region
            have hR2 := (hR.setC 3 (by omega) b).next ((Below.refl _ _).drew)
            have hX2 : BoxAt (wr.setCell ⟨p, 1 + 3, none⟩ (.int .i64 b)).drew w.heap.size [.int .i64 (ws 0), .int .i64 (ws 1), .int .i64 (ws 2), .int .i64 (ws 3), .int .i64 (ws 4), .int .i64 (ws 5)] :=
              ⟨by simpa using hlx, fun j u hj => by
                show (wr.setCell ⟨p, 1 + 3, none⟩ (.int .i64 b)).cell? _ = _
                rw [cell_set_block hpn]; exact hX.2 j u hj⟩
            have hB2 : Below w.heap.size w (wr.setCell ⟨p, 1 + 3, none⟩ (.int .i64 b)).drew := (hB.setCell (p := ⟨p, 1 + 3, none⟩) (Nat.le_of_lt hpw) _).drew
            simp only [Nat.reduceAdd] at hR2 hX2 hB2
            generalize (wr.setCell ⟨p, 4, none⟩ (.int .i64 b)).drew = W2 at hR2 hX2 hB2 ⊢
            have d0 : W2.cell? ⟨p, 4, none⟩ = some (.int .i64 b) := hR2.cs 3 (by omega)
            have d1 : W2.cell? ⟨p, 4+1, none⟩ = some (.int .i64 0) := hR2.cs (3+1) (by omega)
            have d2 : W2.cell? ⟨p, 4+2, none⟩ = some (.int .i64 0) := hR2.cs (3+2) (by omega)
            simp only [Nat.reduceAdd] at d1 d2
            clear hR hX hB c0 c1 c2 hf hx hlt hlx
            go_wp2_with fail
            refine Calls.mono (HCh.out _) ?_
            rintro e w3 ⟨rfl, hb3⟩
            have hR3 := hR2.next hb3
            have hX3 := hX2.next hb3
            have hB3 := after hB2 hb3 hB2.size
            clear hR2 hX2 hB2 d0 d1 d2 hb3
            by_cases hc : chk b 0 0 = 0
            · have hc' : (chk b 0 0 != 0) = false := by simp [hc]
              obtain ⟨t0, t1, _⟩ := chk_ok hc
              have HT : Hid (0 ≤ b ∧ b ≤ 100) := ⟨t0, t1⟩
              clear hc t0 t1
              go_wp2_with fail
              go_roundg 0
              case measure => omega
              case rel => exact ⟨2, _, by omega, rfl, by simp, .inr (.inr ⟨rfl, rfl, HAB.out.1, HAB.out.2, HT.out.1, HT.out.2⟩), hR3, hX3, hB3⟩
            · have hc' : (chk b 0 0 != 0) = true := by simpa using hc
              have HT : Hid (¬ (0 ≤ b ∧ b ≤ 100)) := fun h => hc (chk_of h.1 h.2 (by omega) h.1 (by omega) (by omega))
              clear hc
              go_wp2_with fail
              go_ret
              refine ⟨newIs_nil ?_ rfl, hB3⟩
              rw [← Bool.not_eq_true, HNo.out]
              exact fun h => HT.out ⟨h.2.2.1, h.2.2.2⟩
        · have HT : Hid (newOk no ws = true) := HNo.out.2 ⟨a0, a1, b0, b1⟩
          clear a0 a1 b0 b1
          go_wp2_with fail
          go_ret
          refine ⟨?_, hB⟩
          unfold NewIs
          rw [if_pos HT.out]
          refine ⟨p, fun k => k = p, rfl, ⟨fun k e => by subst e; exact hlt, rfl, .slice none 0 0, ?_, World.ownsRow_nil _ _ _ _, fun k e => by simp [Value.ownBlock] at e⟩, fun k e => by subst e; exact Nat.le_of_lt hpw⟩
          refine hR.congr (fun j hj => ?_) (fun _ _ => rfl) (fun _ _ => rfl)
          have h6 : j = 0 ∨ j = 1 ∨ j = 2 ∨ j = 3 ∨ j = 4 ∨ j = 5 := by omega
          rcases h6 with rfl | rfl | rfl | rfl | rfl | rfl
          · exact HA.out
          · rfl
          · rfl
          · exact HB.out
          · rfl
          · rfl

end Go.Proofs.Ytbgnajcmhmpjlab
