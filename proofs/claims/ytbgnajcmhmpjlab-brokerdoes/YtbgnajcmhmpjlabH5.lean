/- For every list of steps: the statement BrokerDoes of the program returns true, and its arguments read as before (no condition). -/
import Derived.Test.YtbgnajcmhmpjlabRows
import Derived.Test.YtbgnajcmhmpjlabH4

/- The walk of BrokerDoes: it answers true, whatever it is given. -/
namespace Go.Proofs.Ytbgnajcmhmpjlab
open Go.RowKit

/-- A stronger word on the worlds of a region serves. -/
theorem wpAnyH_mono {P : Program} {md : Region.Mode} {ops : Array Oper} {Q : Exit → Act → World → Prop} {S S' : World → Prop} (hS : ∀ w, S' w → S w) : ∀ {fuel : Nat} {listed : Array Bool} {a : Act} {w : World}, wpAnyH P md ops Q S' fuel listed a w → wpAnyH P md ops Q S fuel listed a w
  | 0, _, _, _, h => h
  | _ + 1, _, _, _, h => ⟨h.1, fun i hi => wpOp_mono (fun _ _ h' => ⟨hS _ h'.1, wpAnyH_mono hS h'.2⟩) (h.2 i hi)⟩

set_option maxHeartbeats 8000000 in
set_option maxRecDepth 100000 in
theorem does_walk (la : Option Addr) (ll lc : Nat) (l : List BSp) (w : World) (hl : BStAt w la l) (hll : l.length = ll) :
    Calls Try.prog 12 #[.slice la ll lc] w fun e w' => e = .returned (.bool true) ∧ Below w.heap.size w w' := by
  have HL : Hid (BStAt w la l) := hl
  have HLl : Hid (l.length = ll) := hll
  go_enter Try.func12, Try.ntmps12
  go_wp2_with fail
  refine Calls.mono (rbegun_any w) ?_
  rintro e w1 ⟨rfl, hb1⟩
  have HL1 : Hid (BStAt w1 la l) := fun k x hk => by
    obtain ⟨b, off, sa, sc, e, hb, hw, hc⟩ := HL.out k x hk
    exact ⟨b, off, sa, sc, e, Nat.lt_of_lt_of_le hb hb1.size, hw.below hb1 (Nat.le_refl _), fun j v hj => ((bcell hb1).1 _ _ hb).trans (hc j v hj)⟩
  have HB1 : Hid (Below w.heap.size w w1) := hb1
  clear hl hll hb1 HL
  go_wp2_with fail
  refine Calls.mono (great_any la ll lc l w1 HL1.out HLl.out) ?_
  rintro e w1' ⟨⟨gr, rfl, hgr⟩, rfl⟩
  cases gr with
  | true =>
    go_wp2_with fail
    go_ret
    exact ⟨rfl, HB1.out⟩
  | false =>
    have h150 := hgr rfl
    have h150' : (ll : Int) ≤ 150 := by omega
    have H150 : Hid (ll ≤ 150) := h150
    clear hgr h150
    have HNw : Hid _ := new_rlv w1'
    go_wp2_with fail
    refine Calls.mono HNw.out ?_
    rintro e w2 ⟨q, rfl, hL2, _⟩
    clear HNw
    generalize w1' = w1 at *
    go_upto_region 6 with fail
    have hQ3 := RQ.of_live (hL2.less (Z' := fun _ => False) (fun k hk => hk.elim))
    generalize (w2.alloc (.cells #[.slice none 0 0, .slice none 0 0] 101)) = w3 at hQ3 ⊢
    generalize w2.heap.size = p at hQ3 ⊢
    clear hL2
    go_wp2_with fail
    go_loopg [5, 6, 7] ll (fun g s5 _ _ wr => ∃ (k : Nat) (B : Bok), k ≤ ll ∧ g = ll - k ∧ s5 = .int .i64 k ∧ RQ w1 (fun _ => False) wr q p B B)
    case atStart => exact ⟨0, ⟨[], []⟩, Nat.zero_le _, rfl, rfl, hQ3⟩
    case round =>
      obtain ⟨k, B, hk, rfl, rfl, hQ⟩ := hrel
      clear hQ3
      by_cases hlt : k < ll
      · have j0 : (0 : Int) ≤ (k : Int) := by omega
        have j1 : (k : Int) < (ll : Int) := by omega
        obtain ⟨x, hx⟩ : ∃ x, l[k]? = some x := ⟨_, List.getElem?_eq_getElem (by have := HLl.out; omega)⟩
        obtain ⟨b, off, sa, sc, rfl, hbl, hWx, hcx⟩ := HL1.out k x hx
        have HWx : Hid (WantsAt w1 sa x.w) := hWx
        have HK0 : Hid (∀ w', Below w1.heap.size w1 w' → w'.cell? ⟨b, off + k * 10, none⟩ = some (.int .i64 x.what) ∧ w'.cell? ⟨b, off + k * 10 + 1, none⟩ = some (.int .i64 x.n) ∧ w'.cell? ⟨b, off + k * 10 + 2, none⟩ = some (.slice sa x.w.length sc) ∧ w'.cell? ⟨b, off + k * 10 + 3, none⟩ = some (.int .i64 x.m.kind) ∧ w'.cell? ⟨b, off + k * 10 + 4, none⟩ = some (.int .i64 x.m.deal) ∧ w'.cell? ⟨b, off + k * 10 + 5, none⟩ = some (.int .i64 x.m.shop) ∧ w'.cell? ⟨b, off + k * 10 + 6, none⟩ = some (.int .i64 x.m.c) ∧ w'.cell? ⟨b, off + k * 10 + 7, none⟩ = some (.int .i64 x.m.d) ∧ w'.cell? ⟨b, off + k * 10 + 8, none⟩ = some (.bool x.m.yes) ∧ w'.cell? ⟨b, off + k * 10 + 9, none⟩ = some (.bool x.yes)) := fun w' hb => by
          have c : ∀ j v, (bcells x (.slice sa x.w.length sc))[j]? = some v → w'.cell? ⟨b, off + k * 10 + j, none⟩ = some v := fun j v hj => ((bcell hb).1 _ _ hbl).trans (hcx j v hj)
          exact ⟨c 0 _ rfl, c 1 _ rfl, c 2 _ rfl, c 3 _ rfl, c 4 _ rfl, c 5 _ rfl, c 6 _ rfl, c 7 _ rfl, c 8 _ rfl, c 9 _ rfl⟩
        have HQ : Hid (RQ w1 (fun _ => False) wr q p B B) := hQ
        have HBs : Hid (∀ W, Below wr.heap.size wr W → Calls Try.prog 48 #[.pointer (some ⟨q, 0, none⟩), .pointer (some ⟨p, 0, none⟩), .agg #[.int .i64 x.what, .int .i64 x.n, .slice sa x.w.length sc, .int .i64 x.m.kind, .int .i64 x.m.deal, .int .i64 x.m.shop, .int .i64 x.m.c, .int .i64 x.m.d, .bool x.m.yes, .bool x.yes]] W fun e w' => e = .returned (.bool true) ∧ Stepped w1 (fun _ => False) W w' q p B x) := fun W hW => bstep_any w1 (fun _ => False) q p B x sa sc W (HQ.out.next hW) HWx.out
        have HKL : Hid (k < ll) := hlt
        have HHe : Hid (Below w1.heap.size w1 wr.drew) := after hQ.below ((Below.refl _ _).drew) hQ.below.size
        clear hbl hWx hcx hx hk hlt hQ
        go_upto_region 9 with fail
        refine wp_region_held_drew (S := fun w' => w'.cell? ⟨b, off + k * 10, none⟩ = some (.int .i64 x.what) ∧ w'.cell? ⟨b, off + k * 10 + 1, none⟩ = some (.int .i64 x.n) ∧ w'.cell? ⟨b, off + k * 10 + 2, none⟩ = some (.slice sa x.w.length sc) ∧ w'.cell? ⟨b, off + k * 10 + 3, none⟩ = some (.int .i64 x.m.kind) ∧ w'.cell? ⟨b, off + k * 10 + 4, none⟩ = some (.int .i64 x.m.deal) ∧ w'.cell? ⟨b, off + k * 10 + 5, none⟩ = some (.int .i64 x.m.shop) ∧ w'.cell? ⟨b, off + k * 10 + 6, none⟩ = some (.int .i64 x.m.c) ∧ w'.cell? ⟨b, off + k * 10 + 7, none⟩ = some (.int .i64 x.m.d) ∧ w'.cell? ⟨b, off + k * 10 + 8, none⟩ = some (.bool x.m.yes) ∧ w'.cell? ⟨b, off + k * 10 + 9, none⟩ = some (.bool x.yes)) (by kernel_rfl) (HK0.out _ HHe.out) (fun hHeld => ?_)
        refine wpAnyH_take (i := 0) (v := ?_) (by (simp only [List.getElem?_toArray, List.getElem?_cons_zero]); exact rfl) (by kernel_rfl) (by kernel_rfl) (by kernel_rfl) (by intro _ _ _ h; exact h) (Or.inl ⟨by rfl, ?_⟩) (by assumption) ?_
        rotate_left
        focus
          intro w' hSw
          (try dsimp only at hSw)
          go_simp
          all_goals (with_reducible rfl)
        (try simp only [Act.put, List.setIfInBounds_toArray, List.set_cons_zero, List.set_cons_succ])
        refine wpAnyH_take (i := 1) (v := ?_) (by (simp only [List.getElem?_toArray, List.getElem?_cons_succ, List.getElem?_cons_zero]); exact rfl) (by kernel_rfl) (by kernel_rfl) (by kernel_rfl) (by intro _ _ _ h; exact h) (Or.inl ⟨by rfl, ?_⟩) (by assumption) ?_
        rotate_left
        focus
          intro w' hSw
          (try dsimp only at hSw)
          go_simp
          all_goals (with_reducible rfl)
        (try simp only [Act.put, List.setIfInBounds_toArray, List.set_cons_zero, List.set_cons_succ])
        refine wpAnyH_take (i := 2) (v := ?_) (by (simp only [List.getElem?_toArray, List.getElem?_cons_succ, List.getElem?_cons_zero]); exact rfl) (by kernel_rfl) (by kernel_rfl) (by kernel_rfl) (by intro _ _ _ h; exact h) (Or.inl ⟨by rfl, ?_⟩) (by assumption) ?_
        rotate_left
        focus
          intro w' hSw
          (try dsimp only at hSw)
          go_simp
          all_goals (with_reducible rfl)
        (try simp only [Act.put, List.setIfInBounds_toArray, List.set_cons_zero, List.set_cons_succ])
        refine wpAnyH_take (i := 3) (v := ?_) (by (simp only [List.getElem?_toArray, List.getElem?_cons_succ, List.getElem?_cons_zero]); exact rfl) (by kernel_rfl) (by kernel_rfl) (by kernel_rfl) (by intro _ _ _ h; exact h) (Or.inl ⟨by rfl, ?_⟩) (by assumption) ?_
        rotate_left
        focus
          intro w' hSw
          (try dsimp only at hSw)
          go_simp
          all_goals (with_reducible rfl)
        (try simp only [Act.put, List.setIfInBounds_toArray, List.set_cons_zero, List.set_cons_succ])
        refine wpAnyH_take (i := 4) (v := ?_) (by (simp only [List.getElem?_toArray, List.getElem?_cons_succ, List.getElem?_cons_zero]); exact rfl) (by kernel_rfl) (by kernel_rfl) (by kernel_rfl) (by intro _ _ _ h; exact h) (Or.inl ⟨by rfl, ?_⟩) (by assumption) ?_
        rotate_left
        focus
          intro w' hSw
          (try dsimp only at hSw)
          go_simp
          all_goals (with_reducible rfl)
        (try simp only [Act.put, List.setIfInBounds_toArray, List.set_cons_zero, List.set_cons_succ])
        refine wpAnyH_take (i := 5) (v := ?_) (by (simp only [List.getElem?_toArray, List.getElem?_cons_succ, List.getElem?_cons_zero]); exact rfl) (by kernel_rfl) (by kernel_rfl) (by kernel_rfl) (by intro _ _ _ h; exact h) (Or.inl ⟨by rfl, ?_⟩) (by assumption) ?_
        rotate_left
        focus
          intro w' hSw
          (try dsimp only at hSw)
          go_simp
          all_goals (with_reducible rfl)
        (try simp only [Act.put, List.setIfInBounds_toArray, List.set_cons_zero, List.set_cons_succ])
        refine wpAnyH_ready (rs := [6]) (by kernel_rfl) (by simp) ?_
        refine AllReadyH.cons rfl (fun K hK => ?_) AllReadyH.nil
        go_simp
        go_at_call 48
        refine Calls.mono (HBs.out _ ((Below.refl _ _).drew)) ?_
        rintro e w9 ⟨rfl, hT9⟩
        obtain ⟨hQ9, hS9⟩ := hT9
        have HQ9 : Hid (RQ w1 (fun _ => False) w9 q p (bstepR B x) (bstepR B x)) := hQ9
        clear hQ9 hS9
        generalize bstepR B x = C at HQ9
        obtain ⟨O1, O2, _, hC2, _⟩ := HQ9.out.inn
        obtain ⟨rv, ov, V, hRw, _⟩ := hC2.raw
        have hpl := hC2.lt
        have d0 := hRw.c0
        have d1 : w9.cell? ⟨p, 1, none⟩ = some ov := hRw.c1
        obtain ⟨ga, cap, rfl⟩ := own_sl hRw.row
        obtain ⟨go, capo, rfl, hNo, _⟩ := nums_of_own hRw.ord
        have HNo : Hid (NumsAt w9 go C.ord) := hNo
        have HK1 : Hid (∀ w', Below w9.heap.size w9 w' → w'.cell? ⟨p, 0, none⟩ = some (.slice ga C.L.length cap) ∧ w'.cell? ⟨p, 1, none⟩ = some (.slice go C.ord.length capo) ∧ Below w9.heap.size w9 w') := fun w' hb => ⟨((bcell hb).1 _ _ hpl).trans d0, ((bcell hb).1 _ _ hpl).trans d1, hb⟩
        have HLo : Hid (C.ord.length ≤ 8 ∧ (dueR C).length ≤ 32) := ⟨HQ9.out.invB.ordLen, due_room HQ9.out.invB⟩
        have ne1 : ((C.L.length : Int) != (C.L.length : Int)) = false := by simp
        clear hC2 hRw hNo d0 d1
        go_wp2_with fail
        refine hK.out _ _ (HK0.out _ (HQ9.out.below)) (fun hHeld => ?_)
        clear hK K hHeld
        refine wpAnyH_mono (S' := fun w' => w'.cell? ⟨p, 0, none⟩ = some (.slice ga C.L.length cap) ∧ w'.cell? ⟨p, 1, none⟩ = some (.slice go C.ord.length capo) ∧ Below w9.heap.size w9 w') (fun w' h => HK0.out w' (after HQ9.out.below h.2.2 HQ9.out.below.size)) ?_
        have hHeld := HK1.out _ (Below.refl _ _)
        (try simp only [Act.put, List.setIfInBounds_toArray, List.set_cons_zero, List.set_cons_succ])
        refine wpAnyH_take (i := 7) (v := ?_) (by (simp only [List.getElem?_toArray, List.getElem?_cons_succ, List.getElem?_cons_zero]); exact rfl) (by kernel_rfl) (by kernel_rfl) (by kernel_rfl) (by intro _ _ _ h; exact h) (Or.inl ⟨by rfl, ?_⟩) (by assumption) ?_
        rotate_left
        focus
          intro w' hSw
          (try dsimp only at hSw)
          go_simp
          all_goals (with_reducible rfl)
        (try simp only [Act.put, List.setIfInBounds_toArray, List.set_cons_zero, List.set_cons_succ])
        refine wpAnyH_take (i := 8) (v := ?_) (by (simp only [List.getElem?_toArray, List.getElem?_cons_succ, List.getElem?_cons_zero]); exact rfl) (by kernel_rfl) (by kernel_rfl) (by kernel_rfl) (by intro _ _ _ h; exact h) (Or.inl ⟨by rfl, ?_⟩) (by assumption) ?_
        rotate_left
        focus
          intro w' hSw
          (try dsimp only at hSw)
          go_simp
          all_goals (with_reducible rfl)
        (try simp only [Act.put, List.setIfInBounds_toArray, List.set_cons_zero, List.set_cons_succ])
        refine wpAnyH_take (i := 9) (v := ?_) (by (simp only [List.getElem?_toArray, List.getElem?_cons_succ, List.getElem?_cons_zero]); exact rfl) (by kernel_rfl) (by kernel_rfl) (by kernel_rfl) (by intro _ _ _ h; exact h) (Or.inl ⟨by rfl, ?_⟩) (by assumption) ?_
        rotate_left
        focus
          intro w' hSw
          (try dsimp only at hSw)
          go_simp
          all_goals (with_reducible rfl)
        (try simp only [Act.put, List.setIfInBounds_toArray, List.set_cons_zero, List.set_cons_succ])
        refine wpAnyH_take (i := 11) (v := ?_) (by (simp only [List.getElem?_toArray, List.getElem?_cons_succ, List.getElem?_cons_zero]); exact rfl) (by kernel_rfl) (by kernel_rfl) (by kernel_rfl) (by intro _ _ _ h; exact h) (Or.inl ⟨by rfl, ?_⟩) (by assumption) ?_
        rotate_left
        focus
          intro w' hSw
          (try dsimp only at hSw)
          go_simp
          all_goals (with_reducible rfl)
        (try simp only [Act.put, List.setIfInBounds_toArray, List.set_cons_zero, List.set_cons_succ])
        refine wpAnyH_take (i := 12) (v := ?_) (by (simp only [List.getElem?_toArray, List.getElem?_cons_succ, List.getElem?_cons_zero]); exact rfl) (by kernel_rfl) (by kernel_rfl) (by kernel_rfl) (by intro _ _ _ h; exact h) (Or.inl ⟨by rfl, ?_⟩) (by assumption) ?_
        rotate_left
        focus
          intro w' hSw
          (try dsimp only at hSw)
          go_simp
          all_goals (with_reducible rfl)
        (try simp only [Act.put, List.setIfInBounds_toArray, List.set_cons_zero, List.set_cons_succ])
        refine wpAnyH_take (i := 13) (v := ?_) (by (simp only [List.getElem?_toArray, List.getElem?_cons_succ, List.getElem?_cons_zero]); exact rfl) (by kernel_rfl) (by kernel_rfl) (by kernel_rfl) (by intro _ _ _ h; exact h) (Or.inl ⟨by rfl, ?_⟩) (by assumption) ?_
        rotate_left
        focus
          intro w' hSw
          (try dsimp only at hSw)
          go_simp
          all_goals (with_reducible rfl)
        (try simp only [Act.put, List.setIfInBounds_toArray, List.set_cons_zero, List.set_cons_succ])
        refine wpAnyH_take (i := 14) (v := ?_) (by (simp only [List.getElem?_toArray, List.getElem?_cons_succ, List.getElem?_cons_zero]); exact rfl) (by kernel_rfl) (by kernel_rfl) (by kernel_rfl) (by intro _ _ _ h; exact h) (Or.inl ⟨by rfl, ?_⟩) (by assumption) ?_
        rotate_left
        focus
          intro w' hSw
          (try dsimp only at hSw)
          go_simp
          all_goals (with_reducible rfl)
        (try simp only [Act.put, List.setIfInBounds_toArray, List.set_cons_zero, List.set_cons_succ])
        refine wpAnyH_take (i := 15) (v := ?_) (by (simp only [List.getElem?_toArray, List.getElem?_cons_succ, List.getElem?_cons_zero]); exact rfl) (by kernel_rfl) (by kernel_rfl) (by kernel_rfl) (by intro _ _ _ h; exact h) (Or.inl ⟨by rfl, ?_⟩) (by assumption) ?_
        rotate_left
        focus
          intro w' hSw
          (try dsimp only at hSw)
          go_simp
          all_goals (with_reducible rfl)
        (try simp only [Act.put, List.setIfInBounds_toArray, List.set_cons_zero, List.set_cons_succ])
        refine wpAnyH_ready (rs := [10]) (by kernel_rfl) (by simp) ?_
        refine AllReadyH.cons rfl (fun K hK => ?_) AllReadyH.nil
        go_simp
        go_at_call 49
        refine Calls.mono (len_rlv HQ9.out.brk) ?_
        rintro e w10 ⟨rfl, rfl⟩
        go_wp2_with fail
        refine hK.out _ _ (HK1.out _ (Below.refl _ _)) (fun hHeld => ?_)
        clear hK K
        (try simp only [Act.put, List.setIfInBounds_toArray, List.set_cons_zero, List.set_cons_succ])
        refine wpAnyH_take (i := 16) (v := ?_) (by (simp only [List.getElem?_toArray, List.getElem?_cons_succ, List.getElem?_cons_zero]); exact rfl) (by kernel_rfl) (by kernel_rfl) (by kernel_rfl) (by intro _ _ _ h; exact h) (Or.inl ⟨by rfl, ?_⟩) (by assumption) ?_
        rotate_left
        focus
          intro w' hSw
          (try dsimp only at hSw)
          go_simp
          all_goals (with_reducible rfl)
        (try simp only [Act.put, List.setIfInBounds_toArray, List.set_cons_zero, List.set_cons_succ])
        refine wpAnyH_take (i := 17) (v := ?_) (by (simp only [List.getElem?_toArray, List.getElem?_cons_succ, List.getElem?_cons_zero]); exact rfl) (by kernel_rfl) (by kernel_rfl) (by kernel_rfl) (by intro _ _ _ h; exact h) (Or.inl ⟨by rfl, ?_⟩) (by assumption) ?_
        rotate_left
        focus
          intro w' hSw
          (try dsimp only at hSw)
          go_simp
          all_goals (with_reducible rfl)
        (try simp only [Act.put, List.setIfInBounds_toArray, List.set_cons_zero, List.set_cons_succ])
        refine wpAnyH_take (i := 18) (v := ?_) (by (simp only [List.getElem?_toArray, List.getElem?_cons_succ, List.getElem?_cons_zero]); exact rfl) (by kernel_rfl) (by kernel_rfl) (by kernel_rfl) (by intro _ _ _ h; exact h) (Or.inl ⟨by rfl, ?_⟩) (by assumption) ?_
        rotate_left
        focus
          intro w' hSw
          (try dsimp only at hSw)
          go_simp
          all_goals (with_reducible rfl)
        (try simp only [Act.put, List.setIfInBounds_toArray, List.set_cons_zero, List.set_cons_succ])
        refine wpAnyH_take (i := 19) (v := ?_) (by (simp only [List.getElem?_toArray, List.getElem?_cons_succ, List.getElem?_cons_zero]); exact rfl) (by kernel_rfl) (by kernel_rfl) (by kernel_rfl) (by intro _ _ _ h; exact h) (Or.inl ⟨by rfl, ?_⟩) (by assumption) ?_
        rotate_left
        focus
          intro w' hSw
          (try dsimp only at hSw)
          go_simp
          all_goals (with_reducible rfl)
        (try simp only [Act.put, List.setIfInBounds_toArray, List.set_cons_zero, List.set_cons_succ])
        refine wpAnyH_take (i := 21) (v := ?_) (by (simp only [List.getElem?_toArray, List.getElem?_cons_succ, List.getElem?_cons_zero]); exact rfl) (by kernel_rfl) (by kernel_rfl) (by kernel_rfl) (by intro _ _ _ h; exact h) (Or.inl ⟨by rfl, ?_⟩) (by assumption) ?_
        rotate_left
        focus
          intro w' hSw
          (try dsimp only at hSw)
          go_simp
          all_goals (with_reducible rfl)
        (try simp only [Act.put, List.setIfInBounds_toArray, List.set_cons_zero, List.set_cons_succ])
        refine wpAnyH_take (i := 22) (v := ?_) (by (simp only [List.getElem?_toArray, List.getElem?_cons_succ, List.getElem?_cons_zero]); exact rfl) (by kernel_rfl) (by kernel_rfl) (by kernel_rfl) (by intro _ _ _ h; exact h) (Or.inl ⟨by rfl, ?_⟩) (by assumption) ?_
        rotate_left
        focus
          intro w' hSw
          (try dsimp only at hSw)
          go_simp
          all_goals (with_reducible rfl)
        (try simp only [Act.put, List.setIfInBounds_toArray, List.set_cons_zero, List.set_cons_succ])
        refine wpAnyH_take (i := 23) (v := ?_) (by (simp only [List.getElem?_toArray, List.getElem?_cons_succ, List.getElem?_cons_zero]); exact rfl) (by kernel_rfl) (by kernel_rfl) (by kernel_rfl) (by intro _ _ _ h; exact h) (Or.inl ⟨by rfl, ?_⟩) (by assumption) ?_
        rotate_left
        focus
          intro w' hSw
          (try dsimp only at hSw)
          go_simp
          all_goals (with_reducible rfl)
        (try simp only [Act.put, List.setIfInBounds_toArray, List.set_cons_zero, List.set_cons_succ])
        refine wpAnyH_take (i := 24) (v := ?_) (by (simp only [List.getElem?_toArray, List.getElem?_cons_succ, List.getElem?_cons_zero]); exact rfl) (by kernel_rfl) (by kernel_rfl) (by kernel_rfl) (by intro _ _ _ h; exact h) (Or.inl ⟨by rfl, ?_⟩) (by assumption) ?_
        rotate_left
        focus
          intro w' hSw
          (try dsimp only at hSw)
          go_simp
          all_goals (with_reducible rfl)
        (try simp only [Act.put, List.setIfInBounds_toArray, List.set_cons_zero, List.set_cons_succ])
        refine wpAnyH_ready (rs := [20]) (by kernel_rfl) (by simp) ?_
        refine AllReadyH.cons rfl (fun K hK => ?_) AllReadyH.nil
        go_simp
        go_at_call 51
        refine Calls.mono (done_rlv HQ9.out.brk) ?_
        rintro e w11 ⟨⟨vh, rfl, hrh⟩, hb11⟩
        obtain ⟨gh, caph, rfl, hNh, _⟩ := nums_of_own hrh
        have HNh : Hid (NumsAt w11 gh C.ord) := hNh
        have hw11 := hb11
        clear hrh hNh
        go_wp2_with fail
        refine hK.out _ _ (HK1.out _ hw11) (fun hHeld => ?_)
        clear hK K
        (try simp only [Act.put, List.setIfInBounds_toArray, List.set_cons_zero, List.set_cons_succ])
        refine wpAnyH_ready (rs := [25]) (by kernel_rfl) (by simp) ?_
        refine AllReadyH.cons rfl (fun K hK => ?_) AllReadyH.nil
        go_simp
        go_at_call 50
        refine Calls.mono (sameInts_any gh go _ _ caph capo C.ord C.ord w11 HNh.out (HNo.out.below hw11 (Nat.le_refl _)) rfl rfl (by have := HLo.out; omega)) ?_
        rintro e w12 ⟨rfl, hb12⟩
        have hw12 := after hw11 hb12 hw11.size
        rw [decide_eq_true (rfl : C.ord = C.ord)]
        go_wp2_with fail
        refine hK.out _ _ (HK1.out _ hw12) (fun hHeld => ?_)
        clear hK K
        (try simp only [Act.put, List.setIfInBounds_toArray, List.set_cons_zero, List.set_cons_succ])
        refine wpAnyH_take (i := 26) (v := ?_) (by (simp only [List.getElem?_toArray, List.getElem?_cons_succ, List.getElem?_cons_zero]); exact rfl) (by kernel_rfl) (by kernel_rfl) (by kernel_rfl) (by intro _ _ _ h; exact h) (Or.inl ⟨by rfl, ?_⟩) (by assumption) ?_
        rotate_left
        focus
          intro w' hSw
          (try dsimp only at hSw)
          go_simp
          all_goals (with_reducible rfl)
        (try simp only [Act.put, List.setIfInBounds_toArray, List.set_cons_zero, List.set_cons_succ])
        refine wpAnyH_take (i := 27) (v := ?_) (by (simp only [List.getElem?_toArray, List.getElem?_cons_succ, List.getElem?_cons_zero]); exact rfl) (by kernel_rfl) (by kernel_rfl) (by kernel_rfl) (by intro _ _ _ h; exact h) (Or.inl ⟨by rfl, ?_⟩) (by assumption) ?_
        rotate_left
        focus
          intro w' hSw
          (try dsimp only at hSw)
          go_simp
          all_goals (with_reducible rfl)
        (try simp only [Act.put, List.setIfInBounds_toArray, List.set_cons_zero, List.set_cons_succ])
        refine wpAnyH_take (i := 28) (v := ?_) (by (simp only [List.getElem?_toArray, List.getElem?_cons_succ, List.getElem?_cons_zero]); exact rfl) (by kernel_rfl) (by kernel_rfl) (by kernel_rfl) (by intro _ _ _ h; exact h) (Or.inl ⟨by rfl, ?_⟩) (by assumption) ?_
        rotate_left
        focus
          intro w' hSw
          (try dsimp only at hSw)
          go_simp
          all_goals (with_reducible rfl)
        (try simp only [Act.put, List.setIfInBounds_toArray, List.set_cons_zero, List.set_cons_succ])
        refine wpAnyH_take (i := 29) (v := ?_) (by (simp only [List.getElem?_toArray, List.getElem?_cons_succ, List.getElem?_cons_zero]); exact rfl) (by kernel_rfl) (by kernel_rfl) (by kernel_rfl) (by intro _ _ _ h; exact h) (Or.inl ⟨by rfl, ?_⟩) (by assumption) ?_
        rotate_left
        focus
          intro w' hSw
          (try dsimp only at hSw)
          go_simp
          all_goals (with_reducible rfl)
        (try simp only [Act.put, List.setIfInBounds_toArray, List.set_cons_zero, List.set_cons_succ])
        refine wpAnyH_take (i := 31) (v := ?_) (by (simp only [List.getElem?_toArray, List.getElem?_cons_succ, List.getElem?_cons_zero]); exact rfl) (by kernel_rfl) (by kernel_rfl) (by kernel_rfl) (by intro _ _ _ h; exact h) (Or.inl ⟨by rfl, ?_⟩) (by assumption) ?_
        rotate_left
        focus
          intro w' hSw
          (try dsimp only at hSw)
          go_simp
          all_goals (with_reducible rfl)
        (try simp only [Act.put, List.setIfInBounds_toArray, List.set_cons_zero, List.set_cons_succ])
        refine wpAnyH_ready (rs := [30]) (by kernel_rfl) (by simp) ?_
        refine AllReadyH.cons rfl (fun K hK => ?_) AllReadyH.nil
        go_simp
        go_at_call 52
        refine Calls.mono (due_rlv (HQ9.out.next hw12).brk) ?_
        rintro e w13 ⟨⟨vd, rfl, hrd⟩, hb13⟩
        obtain ⟨gd, capd, rfl, hMd, _⟩ := mails_of_own hrd
        have HMd : Hid (MailsAt w13 gd (dueR C)) := hMd
        have hw13 := after hw12 hb13 hw12.size
        clear hrd hMd
        go_wp2_with fail
        refine hK.out _ _ (HK1.out _ hw13) (fun hHeld => ?_)
        clear hK K
        (try simp only [Act.put, List.setIfInBounds_toArray, List.set_cons_zero, List.set_cons_succ])
        refine wpAnyH_ready (rs := [32]) (by kernel_rfl) (by simp) ?_
        refine AllReadyH.cons rfl (fun K hK => ?_) AllReadyH.nil
        go_simp
        go_at_call 53
        refine Calls.mono (rq_due' (HQ9.out.next hw13)) ?_
        rintro e w14 ⟨⟨ve, rfl, hre⟩, hb14⟩
        obtain ⟨ge, cape, rfl, hMe, _⟩ := mails_of_own hre
        have HMe : Hid (MailsAt w14 ge (dueR C)) := hMe
        have HMd4 : Hid (MailsAt w14 gd (dueR C)) := HMd.out.below hb14 (Nat.le_refl _)
        have hw14 := after hw13 hb14 hw13.size
        clear hre hMe
        go_wp2_with fail
        refine hK.out _ _ (HK1.out _ hw14) (fun hHeld => ?_)
        clear hK K
        (try simp only [Act.put, List.setIfInBounds_toArray, List.set_cons_zero, List.set_cons_succ])
        refine wpAnyH_ready (rs := [33]) (by kernel_rfl) (by simp) ?_
        refine AllReadyH.cons rfl (fun K hK => ?_) AllReadyH.nil
        go_simp
        go_at_call 39
        refine Calls.mono (sameMail_any gd ge _ _ capd cape (dueR C) (dueR C) w14 HMd4.out HMe.out rfl rfl (by have := HLo.out; omega)) ?_
        rintro e w15 ⟨⟨bb, rfl, hbb⟩, hb15⟩
        have hbt : bb = true := hbb.2 rfl
        subst hbt
        have hw15 := after hw14 hb15 hw14.size
        go_wp2_with fail
        refine hK.out _ _ (HK1.out _ hw15) (fun hHeld => ?_)
        clear hK K
        (try simp only [Act.put, List.setIfInBounds_toArray, List.set_cons_zero, List.set_cons_succ])
        refine wpAnyH_take (i := 34) (v := ?_) (by (simp only [List.getElem?_toArray, List.getElem?_cons_succ, List.getElem?_cons_zero]); exact rfl) (by kernel_rfl) (by kernel_rfl) (by kernel_rfl) (by intro _ _ _ h; exact h) (Or.inl ⟨by rfl, ?_⟩) (by assumption) ?_
        rotate_left
        focus
          intro w' hSw
          (try dsimp only at hSw)
          go_simp
          all_goals (with_reducible rfl)
        (try simp only [Act.put, List.setIfInBounds_toArray, List.set_cons_zero, List.set_cons_succ])
        refine wpAnyH_take (i := 35) (v := ?_) (by (simp only [List.getElem?_toArray, List.getElem?_cons_succ, List.getElem?_cons_zero]); exact rfl) (by kernel_rfl) (by kernel_rfl) (by kernel_rfl) (by intro _ _ _ h; exact h) (Or.inl ⟨by rfl, ?_⟩) (by assumption) ?_
        rotate_left
        focus
          intro w' hSw
          (try dsimp only at hSw)
          go_simp
          all_goals (with_reducible rfl)
        (try simp only [Act.put, List.setIfInBounds_toArray, List.set_cons_zero, List.set_cons_succ])
        refine wpAnyH_done (by kernel_rfl) ?_ _
        have HQ15 : Hid (RQ w1 (fun _ => False) w15 q p C C) := HQ9.out.next hw15
        clear HNo HK1 HLo ne1 HNh hb11 hw11 hb12 hw12 HMd hb13 hw13 HMe HMd4 hb14 hw14 hb15 hw15 HQ9 HBs HK0 HHe HQ
        go_wp2_with fail
        go_loopg [6, 7] (C.L.length + 2) (fun g s6 _ wx => ∃ j : Nat, j ≤ C.L.length + 2 ∧ g = C.L.length + 2 - j ∧ s6 = .int .i64 ((j : Int) - 1) ∧ RQ w1 (fun _ => False) wx q p C C)
        case atStart => exact ⟨0, Nat.zero_le _, rfl, rfl, HQ15.out⟩
        case round =>
          obtain ⟨j, hj, rfl, rfl, hQn⟩ := hrel
          clear HQ15
          obtain ⟨O1, O2, _, hC2, _⟩ := hQn.inn
          obtain ⟨rv, ov, V, hRw, _⟩ := hC2.raw
          have d0 := hRw.c0
          obtain ⟨ga, cap, rfl⟩ := own_sl hRw.row
          have h8 : (C.L.length : Int) ≤ 8 := by have := hQn.invB.len; omega
          have HQn : Hid (RQ w1 (fun _ => False) wr q p C C) := hQn
          by_cases hjl : j ≤ C.L.length + 1
          · have jl : (j : Int) - 1 ≤ (C.L.length : Int) := by omega
            have HJ : Hid (j ≤ C.L.length + 1) := hjl
            obtain ⟨n, hn⟩ : ∃ n : Int, n = (j : Int) - 1 := ⟨_, rfl⟩
            have HNn : Hid (n = (j : Int) - 1) := hn
            have hr4 : IntKind.i64.wrap (n + 1) = ((j + 1 : Nat) : Int) - 1 := by
              rw [show ((j + 1 : Nat) : Int) - 1 = n + 1 by omega]
              go_unwrap
            have hn1 : -1 ≤ n := by omega
            have hn2 : n ≤ (C.L.length : Int) := by omega
            rw [← hn]
            clear hn jl hjl hj
            have HSt : Hid _ := state_rlv n HQn.out.brk
            have HSt2 : Hid _ := rq_state' n HQn.out
            have HWn : Hid _ := wants_rlv n HQn.out.brk
            have hne : (stR C n != stR C n) = false := by simp
            have HFew : Hid ((wantsR C n).length ≤ 4) := by
              show _ ≤ _
              unfold wantsR
              cases hd : dealAt C n with
              | none => simp
              | some D => exact (HQn.out.invB.fit D (dealAt_mem hd)).few
            cases hd : dealAt C n with
            | none =>
              have HE : Hid (wantsR C n = []) := by show _ = _; unfold wantsR; rw [hd]
              have hout := dealAt_out hd
              have hcases : n < 0 ∨ (0 ≤ n ∧ (C.L.length : Int) ≤ n) := by omega
              clear hd hout hRw hC2 hQn
              rcases hcases with h0 | ⟨h0, h1⟩
              all_goals
                go_wp2_with fail
                refine Calls.mono HSt.out ?_
                rintro e w16 ⟨rfl, rfl⟩
                go_wp2_with fail
                refine Calls.mono HSt2.out ?_
                rintro e w17 ⟨rfl, rfl⟩
                go_wp2_with fail
                refine Calls.mono HWn.out ?_
                rintro e w18 ⟨⟨vw, rfl, hrw⟩, hb18⟩
                obtain ⟨gw, capw, rfl, hWw, _⟩ := wants_of_own hrw
                have HWw : Hid (WantsAt w18 gw (wantsR C n)) := hWw
                have HQ18 : Hid _ := HQn.out.next hb18
                clear hrw hWw hb18 d0
                go_wp2_with fail
                refine Calls.mono (sameWants_any gw none _ 0 capw 0 (wantsR C n) [] w18 HWw.out (by intro k c d h; simp at h) rfl rfl (by have := HFew.out; omega)) ?_
                rintro e w19 ⟨⟨bb, rfl, hbb⟩, hb19⟩
                have hbt : bb = true := hbb.2 HE.out
                subst hbt
                have HQ19 : Hid _ := HQ18.out.next hb19
                clear hbb hb19
                go_wp2_with fail
                go_roundg (C.L.length + 2 - (j + 1))
                case measure => have := HJ.out; omega
                case rel => exact ⟨j + 1, by have := HJ.out; omega, rfl, by rw [show ((j + 1 : Nat) : Int) - 1 = (j : Int) by omega], HQ19.out⟩
            | some D =>
              obtain ⟨m, hnm, hm, hmD⟩ := dealAt_some hd
              obtain ⟨g, cap', v, erv, hV, h4, _, _⟩ := hRw.deal4 hmD
              obtain ⟨rfl, rfl⟩ : ga = some ⟨g, 0, none⟩ ∧ cap = cap' := by simpa using erv
              obtain ⟨vw, vy, vo⟩ := v
              obtain ⟨rw_, _, _⟩ := hRw.deal m D ⟨vw, vy, vo⟩ hmD hV
              obtain ⟨gw2, capw2, e1, hWa, _⟩ := wants_of_own rw_
              simp only at e1
              subst e1
              have q0 := h4.c0
              have HWa : Hid (WantsAt wr gw2 D.w) := hWa
              have HE : Hid (wantsR C n = D.w) := wantsR_some hd
              have m0 : (0 : Int) ≤ n := by omega
              have m1 : n < (C.L.length : Int) := by omega
              have hnt : n.toNat = m := by omega
              rw [← hnt] at q0
              clear hd hRw hC2 hQn hmD erv hV h4 rw_ hWa hnm hnt
              go_wp2_with fail
              refine Calls.mono HSt.out ?_
              rintro e w16 ⟨rfl, rfl⟩
              go_wp2_with fail
              refine Calls.mono HSt2.out ?_
              rintro e w17 ⟨rfl, rfl⟩
              go_wp2_with fail
              refine Calls.mono HWn.out ?_
              rintro e w18 ⟨⟨vw, rfl, hrw⟩, hb18⟩
              obtain ⟨gw, capw, rfl, hWw, _⟩ := wants_of_own hrw
              have HWw : Hid (WantsAt w18 gw (wantsR C n)) := hWw
              have HQ18 : Hid _ := HQn.out.next hb18
              have HWa8 : Hid (WantsAt w18 gw2 D.w) := HWa.out.below hb18 (Nat.le_refl _)
              clear hrw hWw hb18 d0 q0
              go_wp2_with fail
              refine Calls.mono (sameWants_any gw gw2 _ _ capw capw2 (wantsR C n) D.w w18 HWw.out HWa8.out rfl rfl (by have := HFew.out; omega)) ?_
              rintro e w19 ⟨⟨bb, rfl, hbb⟩, hb19⟩
              have hbt : bb = true := hbb.2 HE.out
              subst hbt
              have HQ19 : Hid _ := HQ18.out.next hb19
              clear hbb hb19
              go_wp2_with fail
              go_roundg (C.L.length + 2 - (j + 1))
              case measure => have := HJ.out; omega
              case rel => exact ⟨j + 1, by have := HJ.out; omega, rfl, by rw [show ((j + 1 : Nat) : Int) - 1 = (j : Int) by omega], HQ19.out⟩
          · have jl : ¬ (j : Int) - 1 ≤ (C.L.length : Int) := by omega
            have hr4 : IntKind.i64.wrap ((k : Int) + 1) = (k : Int) + 1 := by go_unwrap
            clear hjl hj hRw hC2 hQn
            go_wp2_with fail
            go_roundg (ll - (k + 1))
            case measure => have := HKL.out; omega
            case rel => exact ⟨k + 1, C, HKL.out, rfl, by simp, HQn.out⟩
      · have hkk : ¬ (k : Int) < (ll : Int) := by omega
        have HB9 : Hid (Below w.heap.size w wr) := after HB1.out hQ.below HB1.out.size
        clear hQ hk hlt
        go_wp2_with fail
        go_ret
        exact ⟨rfl, HB9.out⟩

end Go.Proofs.Ytbgnajcmhmpjlab

namespace Go.Proofs.Ytbgnajcmhmpjlab
open Go.ChangeShapes Go.WideShapes Go.ChangeAt Go.RowKit Go.Deep

theorem Try.ownBrokerDoes : ownKnob Try.prog.godebug = none := by kernel_rfl
theorem Try.laidOutBrokerDoes : laidOutB Try.prog = true := by kernel_rfl

set_option maxRecDepth 100000 in
theorem brokerDoes_lifted (os : Os) (started : os.Started) (H : Type) (enc : TypeId × Value → H) :
    ReturnsInHanded {} Try.checked os 12 .any (Rows.brokerDoesSpec.pre6 enc Try.prog Try.f12 Rows.brokerDoesRow.domain false) (Rows.brokerDoesSpec.post enc Try.prog Try.f12 false true false false) := by
  refine returnsInHanded_of_change (C := Try.checked) Try.ownBrokerDoes started (by kernel_rfl) Try.func12
    (ChangeSpec.witness6 (enc := enc) (C := Try.checked) false ⟨#[], #[.slice none 0 0], []⟩ 8 (by kernel_rfl) (by kernel_rfl) (by kernel_rfl) (by kernel_rfl)) ?_
  intro W base args ds gs before hval0 hW _ _
  have hval : ∀ (j : Nat) t v, Try.f12.params[j]? = some t → args[j]? = some v → Value.okWide Try.prog W .any base t v := hval0
  have hW' := hW
  obtain ⟨p, q, hA0, hV, rfl, hfz, hnd⟩ := hW
  have hA : DataW.TrodAll enc Try.prog W 0 (fun _ => true) true Try.f12.params.toList args.toList ds p := hA0
  rw [Try.params12] at hA hval
  obtain ⟨v0, d0, rfl, rfl, h0⟩ := trodAll_one hA
  obtain ⟨rfl, rfl⟩ := trodVars_none hV
  have k0 := h0
  have lt0 : ∀ x ∈ p, x.block < W.heap.size := by obtain ⟨m, hm⟩ := k0; exact DataW.trod_lt m _ _ _ hm
  obtain ⟨a0, l0, c0, rfl⟩ := okWide_slice Try.underlying94 (hval 0 94 v0 rfl rfl)
  obtain ⟨l, hl, hll⟩ := open_bsteps h0
  clear hA0 hval0
  refine (does_walk a0 l0 c0 l W hl hll).mono fun e W' ⟨hret, hb⟩ => ?_
  subst hret
  exact ⟨_, rfl, _, _, _, [], _, [], hW', trodAll_mk1 (shut_bool Try.underlying4 true), trodAll_mk1 (Below.trod Try.laidOutBrokerDoes (by kernel_rfl) (of_decide_eq_true (by kernel_rfl)) k0 hb lt0), rfl, hb.frame _, fun h => by cases h⟩

theorem brokerDoes_holds : Rows.BrokerDoesSaid :=
  OpenClaim.holds_of_wide 12 Try.f12 rfl rfl rfl rfl rfl rfl rfl ⟨rfl, rfl, rfl, rfl, rfl⟩ rfl rfl rfl rfl rfl (by kernel_rfl) Try.func12 (by kernel_rfl)
    (of_decide_eq_true (by kernel_rfl)) (by unfold Func.isWrapper; first | (rw [if_pos (by decide +kernel)]; kernel_rfl) | (rw [if_neg (by decide +kernel)]; exact ⟨rfl, rfl⟩))
    (fun os started H enc _ => brokerDoes_lifted os started H enc)

#print axioms brokerDoes_holds
end Go.Proofs.Ytbgnajcmhmpjlab
