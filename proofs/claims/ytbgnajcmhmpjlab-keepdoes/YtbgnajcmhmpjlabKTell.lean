/- The contract of a keeper's tell. -/
import Derived.Test.YtbgnajcmhmpjlabKChk
import Derived.Deep.RegionHeld3
import Derived.Deep.CutBlock
namespace Go.Proofs.Ytbgnajcmhmpjlab
open Go.RowKit

/-- The keeper's shop has made a step. -/
theorem keep_moved {O Os Os' : Nat → Prop} {w w1 : World} {q p : Nat} {no : Int} {ws : Nat → Int} {rv : Value} {rs : List Stp} {A' : Bk} (hI : ∀ k, O k → k < w.heap.size) (hm : O q) (hR : KeepRaw w q p no ws rv) (hsub : ∀ k, Os k → O k) (hq : ¬ Os q)
    (hrow : w.ownsRow (q + 1) 51 5 rv rs.length (flat5 rs)) (hrb : ∀ k, rv.ownBlock = some k → O k ∧ ¬ Os k) (h3 : ShopIn Os' w1 p A') (h4 : Save Os w w1) (h5 : Moved Os Os' w) :
    KeepIn (fun k => O k ∨ Os' k) w1 q no ws ⟨A', rs⟩ ∧ Save O w w1 ∧ Moved O (fun k => O k ∨ Os' k) w := by
  have hout : ∀ k, k < w.heap.size → ¬ Os k → ¬ Os' k := fun k hk hn hk' => (h5 k hk').elim hn (fun h => by omega)
  refine ⟨⟨fun k hk => ?_, .inl hm, Os', p, rv, hR.save h4 hq, h3, fun k hk => .inr hk, hout q hR.lt hq, own_save hrow h4 (fun k hk => (hrb k hk).2), fun k hk => ⟨.inl (hrb k hk).1, hout k (hI k (hrb k hk).1) (hrb k hk).2⟩⟩, h4.mono (fun k _ hk => hsub k hk), fun k hk => ?_⟩
  · rcases hk with hk | hk
    · exact Nat.lt_of_lt_of_le (hI k hk) h4.size
    · exact h3.own k hk
  · rcases hk with hk | hk
    · exact .inl hk
    · exact (h5 k hk).imp (hsub k) id

set_option maxHeartbeats 2000000 in
theorem ktell_any (O : Nat → Prop) (no : Int) (ws : Nat → Int) (K : Kb) (q : Nat) (r : Stp) (w : World) (h : KeepIn O w q no ws K) (hG : Good K.A) (hl : K.A.hs.length < 2 ^ 40) :
    Calls Try.prog 66 #[.pointer (some ⟨q, 0, none⟩), recV r] w fun e w' => e = .returned (.int .i64 (tellR K.A r).1) ∧ ∃ O', KeepIn O' w' q no ws ⟨(tellR K.A r).2, K.rs⟩ ∧ Save O w w' ∧ Moved O O' w := by
  have HC : Hid (∀ W : World, Calls Try.prog 90 #[.agg #[.int .i64 r.what, .int .i64 r.deal, .int .i64 r.c, .int .i64 r.d, .bool r.done]] W fun e w' => e = .returned (.int .i64 (rchk r)) ∧ Below W.heap.size W w') := kchk_any r
  have HI : Hid (KeepIn O w q no ws K) := h
  unfold recV
  by_cases hc : rchk r = 0
  · obtain ⟨Os, p, rv, hR, hS, hsub, hqs, hrow, hrb⟩ := h.raw
    have HM : Hid (∀ (W w1 : World) (Os' : Nat → Prop) (A' : Bk), Below w.heap.size w W → ShopIn Os' w1 p A' → Save Os W w1 → Moved Os Os' W → ∃ O', KeepIn O' w1 q no ws ⟨A', K.rs⟩ ∧ Save O w w1 ∧ Moved O O' w) := by
      intro W w1 Os' A' hW h3 h4 h5
      have hI := h.next hW
      obtain ⟨k1, k2, k3⟩ := keep_moved (rs := K.rs) (O := O) (fun k hk => Nat.lt_of_lt_of_le (h.own k hk) hW.size) h.mine (hR.save (O := fun _ => False) (.of_below hW) (fun q => q)) hsub hqs (own_next hrow hW) hrb h3 h4 h5
      exact ⟨_, k1, (Save.of_below hW).trans k2 (fun j _ hj => hj), fun k hk => (k3 k hk).imp id (fun q => Nat.le_trans hW.size q)⟩
    have hql := hR.lt
    have c0 := hR.c0
    have hno0 := hG.no0
    have hno3 := hG.no3
    have HCq : Hid (∀ W w1 : World, Below w.heap.size w W → Save Os W w1 → w1.cell? ⟨q, 0, none⟩ = some (.pointer (some ⟨p, 0, none⟩))) := fun W w1 hW h4 => (h4.cell (p := ⟨q, 0, none⟩) (Nat.lt_of_lt_of_le hql hW.size) hqs).trans ((hW.cell (p := ⟨q, 0, none⟩) hql).trans c0)
    have HOs : Hid (∀ k, Os k → k < w.heap.size) := hS.own
    have HZ : Hid (rchk r = 0) := hc
    by_cases h1 : r.what = 1
    · have HH : Hid (∀ W : World, Below w.heap.size w W → Calls Try.prog 91 #[.pointer (some ⟨p, 0, none⟩), .int .i64 r.deal, .agg #[.int .i64 r.c, .int .i64 r.d]] W fun e w' => e = .returned (.int .i64 (tellR K.A r).1) ∧ ∃ O', ShopIn O' w' p (tellR K.A r).2 ∧ Save Os W w' ∧ Moved Os O' W) := by
        intro W hW
        rw [tellR_hold hc h1]
        exact shold_any Os K.A p r.deal r.c r.d W (hS.next hW) hno0 hno3 hl
      have h1' : (r.what == 1) = true := by simpa using h1
      clear h hR hS hsub hrow hrb hG hl hc h1
      go_enter Try.func66, Try.ntmps66
      go_wp2_with fail
      refine Calls.mono (HC.out _) ?_
      rw [HZ.out]
      rintro e w1 ⟨rfl, hb1⟩
      have hX := (BoxAt.new w [.int .i64 r.what, .int .i64 r.deal, .int .i64 r.c, .int .i64 r.d, .bool r.done] 51).next hb1
      have hW1 : Below w.heap.size w w1 := after (by go_grown) hb1 (by simp)
      have y0 := hX.2 0 _ rfl
      have y1 := hX.2 1 _ rfl
      have y2 := hX.2 2 _ rfl
      have y3 := hX.2 3 _ rfl
      have hlx := hX.1
      have c1 : w1.cell? ⟨q, 0, none⟩ = some (.pointer (some ⟨p, 0, none⟩)) := (hW1.cell (p := ⟨q, 0, none⟩) hql).trans c0
      have hq1 : q < w1.heap.size := Nat.lt_of_lt_of_le hql hW1.size
      clear hX hb1 c0
      have hnx : ¬ Os w.heap.size := fun hh => by have := HOs.out _ hh; omega
      have HK : Hid (∀ w', Below w1.heap.size w1 w' → w'.cell? ⟨q, 0, none⟩ = some (.pointer (some ⟨p, 0, none⟩)) ∧ w'.cell? ⟨w.heap.size, 1, none⟩ = some (.int .i64 r.deal) ∧ w'.cell? ⟨w.heap.size, 2, none⟩ = some (.int .i64 r.c) ∧ w'.cell? ⟨w.heap.size, 3, none⟩ = some (.int .i64 r.d)) := fun w' hb => ⟨((bcell hb).1 _ _ hq1).trans c1, ((bcell hb).1 _ _ hlx).trans y1, ((bcell hb).1 _ _ hlx).trans y2, ((bcell hb).1 _ _ hlx).trans y3⟩
      have HK2 : Hid (∀ W w', Below w1.heap.size w1 W → Save Os W w' → w'.cell? ⟨q, 0, none⟩ = some (.pointer (some ⟨p, 0, none⟩)) ∧ w'.cell? ⟨w.heap.size, 1, none⟩ = some (.int .i64 r.deal) ∧ w'.cell? ⟨w.heap.size, 2, none⟩ = some (.int .i64 r.c) ∧ w'.cell? ⟨w.heap.size, 3, none⟩ = some (.int .i64 r.d)) := fun W w' hb hs => by
        obtain ⟨k0, k1, k2, k3⟩ := HK.out W hb
        have hz := hb.size
        exact ⟨(hs.cell (p := ⟨q, 0, none⟩) (Nat.lt_of_lt_of_le hq1 hz) hqs).trans k0, (hs.cell (p := ⟨w.heap.size, 1, none⟩) (Nat.lt_of_lt_of_le hlx hz) hnx).trans k1, (hs.cell (p := ⟨w.heap.size, 2, none⟩) (Nat.lt_of_lt_of_le hlx hz) hnx).trans k2, (hs.cell (p := ⟨w.heap.size, 3, none⟩) (Nat.lt_of_lt_of_le hlx hz) hnx).trans k3⟩
      go_upto_region 5 with fail
      go_region_held3 (fun w' => w'.cell? ⟨q, 0, none⟩ = some (.pointer (some ⟨p, 0, none⟩)) ∧ w'.cell? ⟨w.heap.size, 1, none⟩ = some (.int .i64 r.deal) ∧ w'.cell? ⟨w.heap.size, 2, none⟩ = some (.int .i64 r.c) ∧ w'.cell? ⟨w.heap.size, 3, none⟩ = some (.int .i64 r.d))
        (first | exact HK9 | exact HK.out _ (by go_grown))
        (first | (go_at_call 91; refine Calls.mono (HH.out _ (after hW1 (by go_grown) hW1.size)) ?_; rintro e w9 ⟨rfl, O9, h91, h92, h93⟩; have HK9 := HK2.out _ w9 (by go_grown) h92; have HE9 := HM.out _ w9 O9 _ (after hW1 (by go_grown) hW1.size) h91 h92 h93; clear h91 h92 h93))
      all_goals
        go_wp2_with fail
        go_ret
        exact ⟨rfl, HE9⟩
    · have HH : Hid (∀ W : World, Below w.heap.size w W → Calls Try.prog 92 #[.pointer (some ⟨p, 0, none⟩), .int .i64 r.deal, .bool r.done] W fun e w' => e = .returned (.int .i64 (tellR K.A r).1) ∧ ∃ O', ShopIn O' w' p (tellR K.A r).2 ∧ Save Os W w' ∧ Moved Os O' W) := by
        intro W hW
        rw [tellR_end hc h1]
        exact send_any Os K.A p r.deal r.done W (hS.next hW) hG hl
      have h1' : (r.what == 1) = false := by simpa using h1
      clear h hR hS hsub hrow hrb hG hl hc h1
      go_enter Try.func66, Try.ntmps66
      go_wp2_with fail
      refine Calls.mono (HC.out _) ?_
      rw [HZ.out]
      rintro e w1 ⟨rfl, hb1⟩
      have hX := (BoxAt.new w [.int .i64 r.what, .int .i64 r.deal, .int .i64 r.c, .int .i64 r.d, .bool r.done] 51).next hb1
      have hW1 : Below w.heap.size w w1 := after (by go_grown) hb1 (by simp)
      have y0 := hX.2 0 _ rfl
      have y1 := hX.2 1 _ rfl
      have y4 := hX.2 4 _ rfl
      have hlx := hX.1
      have c1 : w1.cell? ⟨q, 0, none⟩ = some (.pointer (some ⟨p, 0, none⟩)) := (hW1.cell (p := ⟨q, 0, none⟩) hql).trans c0
      have hq1 : q < w1.heap.size := Nat.lt_of_lt_of_le hql hW1.size
      clear hX hb1 c0
      have hnx : ¬ Os w.heap.size := fun hh => by have := HOs.out _ hh; omega
      have HK : Hid (∀ w', Below w1.heap.size w1 w' → w'.cell? ⟨q, 0, none⟩ = some (.pointer (some ⟨p, 0, none⟩)) ∧ w'.cell? ⟨w.heap.size, 1, none⟩ = some (.int .i64 r.deal) ∧ w'.cell? ⟨w.heap.size, 4, none⟩ = some (.bool r.done)) := fun w' hb => ⟨((bcell hb).1 _ _ hq1).trans c1, ((bcell hb).1 _ _ hlx).trans y1, ((bcell hb).1 _ _ hlx).trans y4⟩
      have HK2 : Hid (∀ W w', Below w1.heap.size w1 W → Save Os W w' → w'.cell? ⟨q, 0, none⟩ = some (.pointer (some ⟨p, 0, none⟩)) ∧ w'.cell? ⟨w.heap.size, 1, none⟩ = some (.int .i64 r.deal) ∧ w'.cell? ⟨w.heap.size, 4, none⟩ = some (.bool r.done)) := fun W w' hb hs => by
        obtain ⟨k0, k1, k4⟩ := HK.out W hb
        have hz := hb.size
        exact ⟨(hs.cell (p := ⟨q, 0, none⟩) (Nat.lt_of_lt_of_le hq1 hz) hqs).trans k0, (hs.cell (p := ⟨w.heap.size, 1, none⟩) (Nat.lt_of_lt_of_le hlx hz) hnx).trans k1, (hs.cell (p := ⟨w.heap.size, 4, none⟩) (Nat.lt_of_lt_of_le hlx hz) hnx).trans k4⟩
      go_upto_region 6 with fail
      go_region_held3 (fun w' => w'.cell? ⟨q, 0, none⟩ = some (.pointer (some ⟨p, 0, none⟩)) ∧ w'.cell? ⟨w.heap.size, 1, none⟩ = some (.int .i64 r.deal) ∧ w'.cell? ⟨w.heap.size, 4, none⟩ = some (.bool r.done))
        (first | exact HK9 | exact HK.out _ (by go_grown))
        (first | (go_at_call 92; refine Calls.mono (HH.out _ (after hW1 (by go_grown) hW1.size)) ?_; rintro e w9 ⟨rfl, O9, h91, h92, h93⟩; have HK9 := HK2.out _ w9 (by go_grown) h92; have HE9 := HM.out _ w9 O9 _ (after hW1 (by go_grown) hW1.size) h91 h92 h93; clear h91 h92 h93))
      all_goals
        go_wp2_with fail
        go_ret
        exact ⟨rfl, HE9⟩
  · have hc' : (rchk r != 0) = true := by simpa using hc
    have HE : Hid (tellR K.A r = (rchk r, K.A)) := tellR_bad hc
    clear h hG hl hc
    go_enter Try.func66, Try.ntmps66
    go_wp2_with fail
    refine Calls.mono (HC.out _) ?_
    rintro e w1 ⟨rfl, hb1⟩
    have hW1 : Below w.heap.size w w1 := after (by go_grown) hb1 (by simp)
    go_wp2_with fail
    go_ret
    rw [HE.out]
    exact ⟨rfl, O, HI.out.next hW1, .of_below hW1, .refl _ _⟩

end Go.Proofs.Ytbgnajcmhmpjlab
