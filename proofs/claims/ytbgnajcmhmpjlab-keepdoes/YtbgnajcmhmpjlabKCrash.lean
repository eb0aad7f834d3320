/- The contract of a keeper's Crash: its book is as it was. -/
import Derived.Test.YtbgnajcmhmpjlabKLive
namespace Go.Proofs.Ytbgnajcmhmpjlab
open Go.RowKit

theorem rep_again {no : Int} {ws : Nat → Int} {K : Kb} {w w' : World} {e : Ending} (hok : newOk no ws = true) (hG : GoodK (book0 no ws) K) (h : RepIs no ws K.rs w e w') : ∃ p O, e = .returned (.tuple #[.pointer (some ⟨p, 0, none⟩), .agg #[.int .i64 0, .int .i64 0]]) ∧ ShopIn O w' p K.A ∧ ∀ k, O k → w.heap.size ≤ k := by
  unfold RepIs at h
  rw [if_pos hok, hG.fault, if_pos rfl, hG.run] at h
  exact h

set_option maxHeartbeats 4000000 in
set_option maxRecDepth 100000 in
theorem kcrash_any (O : Nat → Prop) (no : Int) (ws : Nat → Int) (K : Kb) (q : Nat) (w : World) (h : KeepIn O w q no ws K) (hG : GoodK (book0 no ws) K) (hok : newOk no ws = true) (hr : K.rs.length < 1000000) :
    Calls Try.prog 26 #[.pointer (some ⟨q, 0, none⟩)] w fun e w' => e = .returned (.tuple #[]) ∧ ∃ O', KeepIn O' w' q no ws K ∧ Save O w w' ∧ Moved O O' w := by
  obtain ⟨Os, p, rv, hR, hS, hsub, hqs, hrow, hrb⟩ := h.raw
  obtain ⟨ga, cap, rfl, hA, hrn⟩ := steps_of_own hrow
  have HC : Hid (∀ W : World, Below w.heap.size w W → Calls Try.prog 16 #[.int .i64 no, .agg #[.int .i64 (ws 0), .int .i64 (ws 1), .int .i64 (ws 2), .int .i64 (ws 3), .int .i64 (ws 4), .int .i64 (ws 5)], .slice ga K.rs.length cap] W fun e w' => (∃ p O, e = .returned (.tuple #[.pointer (some ⟨p, 0, none⟩), .agg #[.int .i64 0, .int .i64 0]]) ∧ ShopIn O w' p K.A ∧ ∀ k, O k → W.heap.size ≤ k) ∧ Below W.heap.size W w') := fun W hW => (krep_any no ws ga K.rs.length cap K.rs W (hA.below hW (Nat.le_refl _)) rfl hr).mono (fun e w' h => ⟨rep_again hok hG h.1, h.2⟩)
  have HF : Hid (∀ (W w9 : World) (p9 : Nat) (O9 : Nat → Prop), Below w.heap.size w W → Below W.heap.size W w9 → ShopIn O9 w9 p9 K.A → (∀ k, O9 k → W.heap.size ≤ k) → ∃ O', KeepIn O' (w9.setCell ⟨q, 0, none⟩ (.pointer (some ⟨p9, 0, none⟩))) q no ws K ∧ Save O w (w9.setCell ⟨q, 0, none⟩ (.pointer (some ⟨p9, 0, none⟩))) ∧ Moved O O' w) := by
    intro W w9 p9 O9 hW h9 hI9 hO9
    have hw9 : Below w.heap.size w w9 := after hW h9 hW.size
    have hs : w.heap.size ≤ W.heap.size := hW.size
    have hql := hR.lt
    have hno : ∀ k, k < w.heap.size → ¬ O9 k := fun k hk hk' => by have := hO9 k hk'; omega
    refine ⟨fun k => O k ∨ O9 k, ⟨fun k hk => ?_, .inl h.mine, O9, p9, .slice ga K.rs.length cap, (hR.save (O := fun _ => False) (.of_below hw9) (fun e => e)).set0 p9, ?_, fun k hk => .inr hk, hno q hql, ?_, fun k hk => ⟨.inl (hrb k hk).1, hno k (h.own k (hrb k hk).1)⟩⟩, (Save.of_below hw9).setCell (p := ⟨q, 0, none⟩) (fun _ => h.mine) _, fun k hk => ?_⟩
    · show k < (w9.setCell _ _).heap.size
      rw [show (w9.setCell (⟨q, 0, none⟩ : Addr) (.pointer (some ⟨p9, 0, none⟩))).heap.size = w9.heap.size by simp]
      rcases hk with hk | hk
      · exact Nat.lt_of_lt_of_le (h.own k hk) hw9.size
      · exact hI9.own k hk
    · exact hI9.save (O' := fun k => k = q) (Save.setCell (O := fun k => k = q) (Save.refl _ _) (p := ⟨q, 0, none⟩) (fun _ => rfl) _) (fun k hk e => hno q hql (e ▸ hk))
    · exact ownsRow_setCell_below (own_next hrow hw9) (Nat.lt_succ_self q) _
    · rcases hk with hk | hk
      · exact .inl hk
      · exact .inr (Nat.le_trans hs (hO9 k hk))
  have hql := hR.lt
  have c0 := hR.c0
  have c1 := hR.c1
  have k0 : w.cell? ⟨q, 2, none⟩ = some (.int .i64 (ws 0)) := hR.cw 0 (by omega)
  have k1 : w.cell? ⟨q, 3, none⟩ = some (.int .i64 (ws 1)) := hR.cw 1 (by omega)
  have k2 : w.cell? ⟨q, 4, none⟩ = some (.int .i64 (ws 2)) := hR.cw 2 (by omega)
  have k3 : w.cell? ⟨q, 5, none⟩ = some (.int .i64 (ws 3)) := hR.cw 3 (by omega)
  have k4 : w.cell? ⟨q, 6, none⟩ = some (.int .i64 (ws 4)) := hR.cw 4 (by omega)
  have k5 : w.cell? ⟨q, 7, none⟩ = some (.int .i64 (ws 5)) := hR.cw 5 (by omega)
  have c8 := hR.c8
  have fl := hR.loose
  clear h hG hok hR hS hsub hqs hrow hrb hA hrn hr
  have HK : Hid (∀ w', Below w.heap.size w w' → w'.cell? ⟨q, 1, none⟩ = some (.int .i64 no) ∧ w'.cell? ⟨q, 2, none⟩ = some (.int .i64 (ws 0)) ∧ w'.cell? ⟨q, 3, none⟩ = some (.int .i64 (ws 1)) ∧ w'.cell? ⟨q, 4, none⟩ = some (.int .i64 (ws 2)) ∧ w'.cell? ⟨q, 5, none⟩ = some (.int .i64 (ws 3)) ∧ w'.cell? ⟨q, 6, none⟩ = some (.int .i64 (ws 4)) ∧ w'.cell? ⟨q, 7, none⟩ = some (.int .i64 (ws 5)) ∧ w'.cell? ⟨q, 8, none⟩ = some (.slice ga K.rs.length cap)) := fun w' hb => ⟨((bcell hb).1 _ _ hql).trans c1, ((bcell hb).1 _ _ hql).trans k0, ((bcell hb).1 _ _ hql).trans k1, ((bcell hb).1 _ _ hql).trans k2, ((bcell hb).1 _ _ hql).trans k3, ((bcell hb).1 _ _ hql).trans k4, ((bcell hb).1 _ _ hql).trans k5, ((bcell hb).1 _ _ hql).trans c8⟩
  have HKs : Hid (∀ (w' : World) (u : Value), (w'.cell? ⟨q, 1, none⟩ = some (.int .i64 no) ∧ w'.cell? ⟨q, 2, none⟩ = some (.int .i64 (ws 0)) ∧ w'.cell? ⟨q, 3, none⟩ = some (.int .i64 (ws 1)) ∧ w'.cell? ⟨q, 4, none⟩ = some (.int .i64 (ws 2)) ∧ w'.cell? ⟨q, 5, none⟩ = some (.int .i64 (ws 3)) ∧ w'.cell? ⟨q, 6, none⟩ = some (.int .i64 (ws 4)) ∧ w'.cell? ⟨q, 7, none⟩ = some (.int .i64 (ws 5)) ∧ w'.cell? ⟨q, 8, none⟩ = some (.slice ga K.rs.length cap)) → (w'.setCell ⟨q, 0, none⟩ u).cell? ⟨q, 1, none⟩ = some (.int .i64 no) ∧ (w'.setCell ⟨q, 0, none⟩ u).cell? ⟨q, 2, none⟩ = some (.int .i64 (ws 0)) ∧ (w'.setCell ⟨q, 0, none⟩ u).cell? ⟨q, 3, none⟩ = some (.int .i64 (ws 1)) ∧ (w'.setCell ⟨q, 0, none⟩ u).cell? ⟨q, 4, none⟩ = some (.int .i64 (ws 2)) ∧ (w'.setCell ⟨q, 0, none⟩ u).cell? ⟨q, 5, none⟩ = some (.int .i64 (ws 3)) ∧ (w'.setCell ⟨q, 0, none⟩ u).cell? ⟨q, 6, none⟩ = some (.int .i64 (ws 4)) ∧ (w'.setCell ⟨q, 0, none⟩ u).cell? ⟨q, 7, none⟩ = some (.int .i64 (ws 5)) ∧ (w'.setCell ⟨q, 0, none⟩ u).cell? ⟨q, 8, none⟩ = some (.slice ga K.rs.length cap)) := fun w' u h => ⟨(cell_set_off (by omega)).trans h.1, (cell_set_off (by omega)).trans h.2.1, (cell_set_off (by omega)).trans h.2.2.1, (cell_set_off (by omega)).trans h.2.2.2.1, (cell_set_off (by omega)).trans h.2.2.2.2.1, (cell_set_off (by omega)).trans h.2.2.2.2.2.1, (cell_set_off (by omega)).trans h.2.2.2.2.2.2.1, (cell_set_off (by omega)).trans h.2.2.2.2.2.2.2⟩
  go_enter Try.func26, Try.ntmps26
  go_region_held3 (fun w' => w'.cell? ⟨q, 1, none⟩ = some (.int .i64 no) ∧ w'.cell? ⟨q, 2, none⟩ = some (.int .i64 (ws 0)) ∧ w'.cell? ⟨q, 3, none⟩ = some (.int .i64 (ws 1)) ∧ w'.cell? ⟨q, 4, none⟩ = some (.int .i64 (ws 2)) ∧ w'.cell? ⟨q, 5, none⟩ = some (.int .i64 (ws 3)) ∧ w'.cell? ⟨q, 6, none⟩ = some (.int .i64 (ws 4)) ∧ w'.cell? ⟨q, 7, none⟩ = some (.int .i64 (ws 5)) ∧ w'.cell? ⟨q, 8, none⟩ = some (.slice ga K.rs.length cap))
    (first | exact HK9 | exact HKs.out _ _ HK9 | exact HK.out _ (by go_grown))
    (first | (go_at_call 16; refine Calls.mono (HC.out _ (by go_grown)) ?_; rintro e w9 ⟨⟨p9, O9, rfl, hI9, hO9⟩, hb9⟩; have hw9 : Below w.heap.size w w9 := after (by go_grown) hb9 (by simp); have HK9 := HK.out _ hw9; have e9 : w9.cell? ⟨q, 0, none⟩ = some (.pointer (some ⟨p, 0, none⟩)) := (hw9.cell (p := ⟨q, 0, none⟩) hql).trans c0; have f9 : ∀ k, w9.frozen? ⟨q, k, none⟩ = false := loose q hw9 hql fl; have HE9 := HF.out _ w9 p9 O9 (by go_grown) hb9 hI9 hO9; clear hI9 hO9 hb9))
  all_goals
    go_wp2_with fail
    exact bodyPost_end (v := .tuple #[]) (by simp [results, Try.results26, go_sem]) rfl ⟨rfl, HE9⟩

end Go.Proofs.Ytbgnajcmhmpjlab
