/- The walk of PostKeeps: it answers true, whatever steps it is given. -/
import Derived.Test.YtbgnajcmhmpjlabMBoth
import Derived.BigQuiet
namespace Go.Proofs.Ytbgnajcmhmpjlab
open Go.RowKit

/-- What the search has found among the first k: the place of a mail that is just so, or none yet. -/
def LastAt (L : List Ml) (m : Ml) (k : Nat) (j : Int) : Prop := (j = -1 ∧ ∀ y ∈ L.take k, eqM y m = false) ∨ ∃ i : Nat, j = i ∧ i < k ∧ L[i]? = some m
theorem last_zero (L : List Ml) (m : Ml) : LastAt L m 0 (-1) := .inl ⟨rfl, by intro y hy; simp at hy⟩
theorem last_hit {L : List Ml} {m y : Ml} {k : Nat} (h : L[k]? = some y) (he : eqM y m = true) : LastAt L m (k + 1) k := .inr ⟨k, rfl, Nat.lt_succ_self k, by rw [← eqM_iff.1 he]; exact h⟩
theorem last_miss {L : List Ml} {m y : Ml} {k : Nat} {j : Int} (hl : LastAt L m k j) (h : L[k]? = some y) (he : eqM y m = false) : LastAt L m (k + 1) j := by
  rcases hl with ⟨e, hn⟩ | ⟨i, e, hi, hs⟩
  · refine .inl ⟨e, ?_⟩
    rw [take_snoc h]
    intro z hz
    rcases List.mem_append.1 hz with hz | hz
    · exact hn z hz
    · rw [List.mem_singleton.1 hz]; exact he
  · exact .inr ⟨i, e, Nat.lt_succ_of_lt hi, hs⟩
theorem last_found {L : List Ml} {m : Ml} {j : Int} (hl : LastAt L m L.length j) (hm : m ∈ L) : ∃ i : Nat, j = i ∧ i < L.length ∧ L[i]? = some m := by
  rcases hl with ⟨_, hn⟩ | h
  · rw [List.take_of_length_le (Nat.le_refl _)] at hn
    have := hn m hm
    rw [eqM_iff.2 rfl] at this
    cases this
  · exact h

set_option maxHeartbeats 16000000 in
set_option maxRecDepth 100000 in
theorem mkeeps_walk (la : Option Addr) (ll lc : Nat) (l : List PSp) (w : World) (hl : PStepsAt w la l) (hll : l.length = ll) :
    Calls Try.prog 7 #[.slice la ll lc] w fun e w' => e = .returned (.bool true) ∧ Below w.heap.size w w' := by
  by_cases hbig : 200 < ll
  · have hbig' : (200 : Int) < (ll : Int) := by omega
    clear hl hll hbig
    go_enter Try.func7, Try.ntmps7
    go_wp2_with fail
    refine (mbegun_any _).mono ?_
    rintro e w1 ⟨rfl, hb1⟩
    go_wp2_with fail
    go_ret
    exact ⟨rfl, hb1⟩
  · have hbig' : ¬ (200 : Int) < (ll : Int) := by omega
    have HB : Hid (ll ≤ 200) := by show _ ≤ _; omega
    obtain ⟨i0, hi, hz0, hz1, hz2⟩ := info_parts infoMail
    clear hbig
    go_enter Try.func7, Try.ntmps7
    go_wp2_with fail
    refine (mbegun_any _).mono ?_
    rintro e w1 ⟨rfl, hb1⟩
    have HT : Hid (PStepsAt w la l) := hl
    clear hl
    go_wp2_with fail
    refine Calls.mono (pnew_live w1) ?_
    rintro e w2 ⟨p, rfl, hL2, _, _⟩
    have hL3 : MLive w (fun b => (Value.slice none 0 0).ownBlock = some b) w2 p [] := by
      obtain ⟨O, q1, q2⟩ := hL2.inn
      exact ⟨⟨O, q1, fun k hk => ⟨Nat.le_trans hb1.size (q2 k hk).1, fun e => by simp [Value.ownBlock] at e⟩⟩, after hb1 hL2.below hb1.size, fun k e => by simp [Value.ownBlock] at e⟩
    clear hL2 hb1
    go_wp2_with fail
    go_loopg [4, 5, 6, 7, 8, 9, 10, 11, 12, 13] ll (fun g s4 s5 _ _ _ _ _ _ _ _ wr => ∃ (k : Nat) (A L : List Ml) (lg : Option Addr) (lp : Nat), k ≤ ll ∧ g = ll - k ∧ s4 = .slice lg L.length lp ∧ s5 = .int .i64 k ∧ MLive w (fun b => (Value.slice lg L.length lp).ownBlock = some b) wr p A ∧ Hid (wr.ownsRow w.heap.size 71 6 (.slice lg L.length lp) L.length (flat6 L)) ∧ Hid (L.Perm A) ∧ Hid (A.length ≤ 40))
    case atStart => exact ⟨0, [], [], none, 0, Nat.zero_le _, rfl, rfl, rfl, hL3, World.ownsRow_nil _ _ _ _, List.Perm.refl _, Nat.zero_le _⟩
    case round =>
      obtain ⟨k, A, L, lg, lp, hk, rfl, rfl, rfl, hL1, HRow, HPerm, HLen⟩ := hrel
      clear hL3
      by_cases hlt : k < ll
      · obtain ⟨x, hkx⟩ : ∃ x, l[k]? = some x := ⟨_, List.getElem?_eq_getElem (by omega)⟩
        obtain ⟨bl, ol, rfl, hbl, hcell⟩ := HT.out k x hkx
        have hcell' : ∀ j v, x.cells[j]? = some v → wr.cell? ⟨bl, ol + k * 8 + j, none⟩ = some v := fun j v hj => (hL1.below.cell (p := ⟨bl, _, none⟩) hbl).trans (hcell j v hj)
        have p0 : wr.cell? ⟨bl, ol + k * 8, none⟩ = some (.int .i64 x.what) := hcell' 0 _ rfl
        have p1 : wr.cell? ⟨bl, ol + k * 8 + 1, none⟩ = some (.int .i64 x.n) := hcell' 1 _ rfl
        have p2 : wr.cell? ⟨bl, ol + k * 8 + 2, none⟩ = some (.int .i64 x.m.kind) := hcell' 2 _ rfl
        have p3 : wr.cell? ⟨bl, ol + k * 8 + 3, none⟩ = some (.int .i64 x.m.deal) := hcell' 3 _ rfl
        have p4 : wr.cell? ⟨bl, ol + k * 8 + 4, none⟩ = some (.int .i64 x.m.shop) := hcell' 4 _ rfl
        have p5 : wr.cell? ⟨bl, ol + k * 8 + 5, none⟩ = some (.int .i64 x.m.c) := hcell' 5 _ rfl
        have p6 : wr.cell? ⟨bl, ol + k * 8 + 6, none⟩ = some (.int .i64 x.m.d) := hcell' 6 _ rfl
        have p7 : wr.cell? ⟨bl, ol + k * 8 + 7, none⟩ = some (.bool x.m.yes) := hcell' 7 _ rfl
        have j0 : (0 : Int) ≤ (k : Int) := by omega
        have j1 : (k : Int) < (ll : Int) := by omega
        have j2 : (ll : Int) ≤ 200 := by have := HB.out; omega
        have HKN : Hid (k < ll) := hlt
        have HLL : Hid (L.length = A.length) := HPerm.out.length_eq
        clear hcell hcell' hkx hk hlt hbl
        go_upto_region 11 with fail
        have hX := BoxAt.new wr x.cells 73
        have hbn : Below wr.heap.size wr (wr.alloc (.cells x.cells.toArray 73)) := (Below.refl _ _).alloc (Nat.le_refl _) _
        have hL2 : MLive w (fun b => (Value.slice lg L.length lp).ownBlock = some b ∨ b = wr.heap.size) (wr.alloc (.cells x.cells.toArray 73)) p A := hL1.more hbn (fun b e => e.elim .inl (fun e => .inr (by subst e; simp)))
        have HRow1 : Hid ((wr.alloc (.cells x.cells.toArray 73)).ownsRow w.heap.size 71 6 (.slice lg L.length lp) L.length (flat6 L)) := own_next HRow.out hbn
        change MLive w _ (wr.alloc (.cells #[.int .i64 x.what, .int .i64 x.n, .int .i64 x.m.kind, .int .i64 x.m.deal, .int .i64 x.m.shop, .int .i64 x.m.c, .int .i64 x.m.d, .bool x.m.yes] _)) p A at hL2
        change BoxAt (wr.alloc (.cells #[.int .i64 x.what, .int .i64 x.n, .int .i64 x.m.kind, .int .i64 x.m.deal, .int .i64 x.m.shop, .int .i64 x.m.c, .int .i64 x.m.d, .bool x.m.yes] _)) _ _ at hX
        change Hid ((wr.alloc (.cells #[.int .i64 x.what, .int .i64 x.n, .int .i64 x.m.kind, .int .i64 x.m.deal, .int .i64 x.m.shop, .int .i64 x.m.c, .int .i64 x.m.d, .bool x.m.yes] _)).ownsRow _ _ _ _ _ _) at HRow1
        generalize (wr.alloc (.cells #[.int .i64 x.what, .int .i64 x.n, .int .i64 x.m.kind, .int .i64 x.m.deal, .int .i64 x.m.shop, .int .i64 x.m.c, .int .i64 x.m.d, .bool x.m.yes] 73)) = W1 at hX hL2 HRow1 ⊢
        generalize wr.heap.size = bx at hX hL2 ⊢
        clear hL1 p0 p1 p2 p3 p4 p5 p6 p7 hbn HRow
        go_wp2_with fail
        refine Calls.mono (len_mlive hL2) ?_
        rintro e W2 ⟨rfl, hb2⟩
        have hL3 := hL2.next hb2
        have hX3 := hX.next hb2
        have HRow2 : Hid (W2.ownsRow w.heap.size 71 6 (.slice lg L.length lp) L.length (flat6 L)) := own_next HRow1.out hb2
        clear hL2 hX HRow1 hb2
        have y0 : W2.cell? ⟨bx, 0, none⟩ = some (.int .i64 x.what) := hX3.2 0 _ rfl
        have a0 : (A.length : Int) ≤ 40 := by have := HLen.out; omega
        have HA : Hid (A.length < 1000) := by have := HLen.out; show _ < _; omega
        go_upto_block 2 with fail
        go_cut [4] (fun s4 wx => ∃ (L' : List Ml) (lg' : Option Addr) (lp' : Nat), s4 = .slice lg' L'.length lp' ∧ MLive w (fun b => (Value.slice lg' L'.length lp').ownBlock = some b) wx p (pstepR A x) ∧ Hid (wx.ownsRow w.heap.size 71 6 (.slice lg' L'.length lp') L'.length (flat6 L')) ∧ Hid (L'.Perm (pstepR A x)))
        case first =>
          obtain ⟨what, n, m⟩ := x
          dsimp only at *
          by_cases e0 : what = 0
          · subst e0
            have HP : Hid (pstepR A ⟨0, n, m⟩ = (sendR A m).2) := rfl
            have y2 : W2.cell? ⟨bx, 2, none⟩ = some (.int .i64 m.kind) := hX3.2 2 _ rfl
            have y3 : W2.cell? ⟨bx, 3, none⟩ = some (.int .i64 m.deal) := hX3.2 3 _ rfl
            have y4 : W2.cell? ⟨bx, 4, none⟩ = some (.int .i64 m.shop) := hX3.2 4 _ rfl
            have y5 : W2.cell? ⟨bx, 5, none⟩ = some (.int .i64 m.c) := hX3.2 5 _ rfl
            have y6 : W2.cell? ⟨bx, 6, none⟩ = some (.int .i64 m.d) := hX3.2 6 _ rfl
            have y7 : W2.cell? ⟨bx, 7, none⟩ = some (.bool m.yes) := hX3.2 7 _ rfl
            go_wp2_with fail
            refine Calls.mono (send_mlive m hL3 HA.out) ?_
            by_cases hfull : 40 ≤ A.length
            · rw [sendR_full hfull] at HP ⊢
              rintro e W4 ⟨rfl, hL4, hS4⟩
              have HRow4 : Hid (W4.ownsRow w.heap.size 71 6 (.slice lg L.length lp) L.length (flat6 L)) := own_save HRow2.out hS4 (fun k e q => q (.inl e))
              clear hL3 hX3 HRow2 y0 y2 y3 y4 y5 y6 y7 hfull hS4
              go_wp2_with fail
              go_meet
              case rel => rw [HP.out]; exact ⟨L, lg, lp, rfl, hL4.less (fun _ e => .inl e), HRow4, HPerm⟩
            · rw [sendR_room hfull] at HP ⊢
              rintro e W4 ⟨rfl, hL4, hS4⟩
              have HRow4 : Hid (W4.ownsRow w.heap.size 71 6 (.slice lg L.length lp) L.length (flat6 L)) := own_save HRow2.out hS4 (fun k e q => q (.inl e))
              have hX4 := hX3.save hS4 (fun q => q (.inr rfl))
              clear hL3 hX3 HRow2 y0 y2 y3 y4 y5 y6 y7 hfull hS4
              have z2 : W4.cell? ⟨bx, 2, none⟩ = some (.int .i64 m.kind) := hX4.2 2 _ rfl
              have z3 : W4.cell? ⟨bx, 3, none⟩ = some (.int .i64 m.deal) := hX4.2 3 _ rfl
              have z4 : W4.cell? ⟨bx, 4, none⟩ = some (.int .i64 m.shop) := hX4.2 4 _ rfl
              have z5 : W4.cell? ⟨bx, 5, none⟩ = some (.int .i64 m.c) := hX4.2 5 _ rfl
              have z6 : W4.cell? ⟨bx, 6, none⟩ = some (.int .i64 m.d) := hX4.2 6 _ rfl
              have z7 : W4.cell? ⟨bx, 7, none⟩ = some (.bool m.yes) := hX4.2 7 _ rfl
              have HW4 : Hid (w.heap.size ≤ W4.heap.size) := hL4.below.size
              go_wp2_with (at_builtin; refine list_append_two rfl (.tmp 40) (.tmp 43) 66 rfl w.heap.size 71 i0 (.agg #[.int .i64 0, .int .i64 0, .int .i64 0, .int .i64 0, .int .i64 0, .bool false]) 6 48 Try.underlying66 hi hz0 hz1 hz2 rfl (by decide) (.slice lg L.length lp) _ _ rfl (own_next HRow4.out (by go_grown)) ⟨W4.heap.size, 0, none⟩ 1 1 [.int .i64 m.kind, .int .i64 m.deal, .int .i64 m.shop, .int .i64 m.c, .int .i64 m.d, .bool m.yes] rfl rfl (mail_lies (by simp [go_sem]) (by simp [go_sem]) (by simp [go_sem]) (by simp [go_sem]) (by simp [go_sem]) (by simp [go_sem])) mail_cell (by have := HLL.out; have := HA.out; unfold maxLen; omega) (by have := HLL.out; have := HA.out; omega) (by have := HW4.out; simp; omega) (by decide) ?_; intro v8 w8 hown8 hgrow8 hwh8; obtain ⟨ga8, cap8, rfl⟩ := own_slice6 hown8; have HO8 : Hid (w8.ownsRow w.heap.size 71 6 (.slice ga8 (L.length + 1) cap8) (L.length + 1) (flat6 L ++ [.int .i64 m.kind, .int .i64 m.deal, .int .i64 m.shop, .int .i64 m.c, .int .i64 m.d, .bool m.yes])) := hown8; clear hown8; have HW8 : Hid _ := hwh8; clear hwh8)
              have hL8 : MLive w (fun b => (Value.slice ga8 (L.length + 1) cap8).ownBlock = some b) w8 p (A ++ [m]) := by
                refine (hL4.next (w1 := W4.alloc (.cells #[.int .i64 m.kind, .int .i64 m.deal, .int .i64 m.shop, .int .i64 m.c, .int .i64 m.d, .bool m.yes] 71)) (by go_grown)).grown hgrow8 (fun k e => ⟨.inl e, (HRow4.out.lt k e).1⟩) (fun k e => ?_)
                rcases HW8.out k e with h1 | h1
                · exact .inl (.inl h1)
                · exact .inr ⟨Nat.le_of_eq h1.symm, (HO8.out.lt k e).2⟩
              have HR8 : Hid (w8.ownsRow w.heap.size 71 6 (.slice ga8 (L ++ [m]).length cap8) (L ++ [m]).length (flat6 (L ++ [m]))) := by
                show World.ownsRow _ _ _ _ _ _ _
                rw [List.length_append, flat6_snoc]
                exact HO8.out
              go_meet
              case rel => rw [HP.out]; exact ⟨L ++ [m], ga8, cap8, by simp, by rw [List.length_append]; exact hL8, HR8, perm_send HPerm.out⟩
          · by_cases e1 : what = 1
            · subst e1
              clear e0
              have HP : Hid (pstepR A ⟨1, n, m⟩ = (takeR A n).2.2) := rfl
              have y1 : W2.cell? ⟨bx, 1, none⟩ = some (.int .i64 n) := hX3.2 1 _ rfl
              by_cases hne : A = []
              · subst hne
                go_wp2_with fail
                refine Calls.mono (take_mlive n hL3 HA.out) ?_
                rw [takeR_nil] at HP ⊢
                rintro e W4 ⟨rfl, hL4, hS4⟩
                have HRow4 : Hid (W4.ownsRow w.heap.size 71 6 (.slice lg L.length lp) L.length (flat6 L)) := own_save HRow2.out hS4 (fun k e q => q (.inl e))
                have hn0 : ((([] : List Ml).length : Int) != 0) = false := rfl
                clear hL3 hX3 HRow2 y0 y1 hS4
                unfold mlV noMl
                dsimp only
                go_wp2_with fail
                go_meet
                case rel => rw [HP.out]; exact ⟨L, lg, lp, rfl, (hL4.next (by go_grown)).less (fun _ e => .inl e), own_next HRow4.out (by go_grown), HPerm⟩
              · obtain ⟨m', hm'⟩ := rnd_some n hne
                go_wp2_with fail
                refine Calls.mono (take_mlive n hL3 HA.out) ?_
                have HMem : Hid (m' ∈ L) := perm_mem HPerm.out hm'
                have HPT : Hid (∀ i, L[i]? = some m' → (L.eraseIdx i).Perm (takeR A n).2.2) := fun i hi => perm_take HPerm.out hm' hi
                have HAl : Hid ((A.eraseIdx (rnd n A.length)).length = A.length - 1 ∧ 0 < A.length) := by
                  have h0 := List.length_pos_iff.2 hne
                  exact ⟨by rw [List.length_eraseIdx, if_pos (rnd_lt n h0)], h0⟩
                rw [takeR_some hm'] at HP HPT ⊢
                generalize A.eraseIdx (rnd n A.length) = A' at HP HPT HAl ⊢
                rintro e W4 ⟨rfl, hL4, hS4⟩
                have HRow4 : Hid (W4.ownsRow w.heap.size 71 6 (.slice lg L.length lp) L.length (flat6 L)) := own_save HRow2.out hS4 (fun k e q => q (.inl e))
                clear hL3 hX3 HRow2 y0 y1 hS4 hm' hne
                unfold mlV
                go_upto_region 18 with fail
                have hb4 : Below W4.heap.size W4 (W4.alloc (.cells #[.int .i64 m'.kind, .int .i64 m'.deal, .int .i64 m'.shop, .int .i64 m'.c, .int .i64 m'.d, .bool m'.yes] 71)) := (Below.refl _ _).alloc (Nat.le_refl _) _
                have hC4 := Box6.new W4 m'
                have hL5 := hL4.next hb4
                have HRow5 : Hid ((W4.alloc (.cells #[.int .i64 m'.kind, .int .i64 m'.deal, .int .i64 m'.shop, .int .i64 m'.c, .int .i64 m'.d, .bool m'.yes] 71)).ownsRow w.heap.size 71 6 (.slice lg L.length lp) L.length (flat6 L)) := own_next HRow4.out hb4
                generalize (W4.alloc (.cells #[.int .i64 m'.kind, .int .i64 m'.deal, .int .i64 m'.shop, .int .i64 m'.c, .int .i64 m'.d, .bool m'.yes] 71)) = W5 at *
                generalize W4.heap.size = b8 at hC4 ⊢
                clear hL4 HRow4 hb4
                have hb8 := hC4.lt
                obtain ⟨_, u0, u1, u2, u3, u4, u5, _⟩ := hC4
                have hMA : MailsAt W5 lg L := by
                  obtain ⟨ga, cap, e, h, _⟩ := mails_of_own HRow5.out
                  simp only [Value.slice.injEq] at e
                  rw [e.1]
                  exact h
                have HMA : Hid (MailsAt W5 lg L) := hMA
                have l0 : (L.length : Int) ≤ 40 := by have := HLL.out; have := HLen.out; omega
                clear hMA
                go_wp2_with fail
                go_loopg [10, 11] L.length (fun g s10 s11 wr => ∃ (j : Int) (kk : Nat), kk ≤ L.length ∧ g = L.length - kk ∧ s10 = .int .i64 j ∧ s11 = .int .i64 kk ∧ Hid (LastAt L m' kk j) ∧ Below W5.heap.size W5 wr)
                case atStart => exact ⟨-1, 0, Nat.zero_le _, rfl, rfl, rfl, last_zero L m', Below.refl _ _⟩
                case round =>
                  obtain ⟨j, kk, hkk, rfl, rfl, rfl, HLa, hS⟩ := hrel
                  by_cases hlt2 : kk < L.length
                  · obtain ⟨y, hy⟩ : ∃ y, L[kk]? = some y := ⟨_, List.getElem?_eq_getElem hlt2⟩
                    obtain ⟨b1, o1, rfl, hb1, r⟩ := HMA.out kk y hy
                    have q0 : wr.cell? ⟨b1, o1 + kk * 6, none⟩ = some (.int .i64 y.kind) := (hS.cell (p := ⟨b1, _, none⟩) hb1).trans (r 0 _ rfl)
                    have q1 : wr.cell? ⟨b1, o1 + kk * 6 + 1, none⟩ = some (.int .i64 y.deal) := (hS.cell (p := ⟨b1, _, none⟩) hb1).trans (r 1 _ rfl)
                    have q2 : wr.cell? ⟨b1, o1 + kk * 6 + 2, none⟩ = some (.int .i64 y.shop) := (hS.cell (p := ⟨b1, _, none⟩) hb1).trans (r 2 _ rfl)
                    have q3 : wr.cell? ⟨b1, o1 + kk * 6 + 3, none⟩ = some (.int .i64 y.c) := (hS.cell (p := ⟨b1, _, none⟩) hb1).trans (r 3 _ rfl)
                    have q4 : wr.cell? ⟨b1, o1 + kk * 6 + 4, none⟩ = some (.int .i64 y.d) := (hS.cell (p := ⟨b1, _, none⟩) hb1).trans (r 4 _ rfl)
                    have q5 : wr.cell? ⟨b1, o1 + kk * 6 + 5, none⟩ = some (.bool y.yes) := (hS.cell (p := ⟨b1, _, none⟩) hb1).trans (r 5 _ rfl)
                    have x0 := (hS.cell (p := ⟨b8, 0, none⟩) hb8).trans u0
                    have x1 := (hS.cell (p := ⟨b8, 1, none⟩) hb8).trans u1
                    have x2 := (hS.cell (p := ⟨b8, 2, none⟩) hb8).trans u2
                    have x3 := (hS.cell (p := ⟨b8, 3, none⟩) hb8).trans u3
                    have x4 := (hS.cell (p := ⟨b8, 4, none⟩) hb8).trans u4
                    have x5 := (hS.cell (p := ⟨b8, 5, none⟩) hb8).trans u5
                    have i0 : (0 : Int) ≤ (kk : Int) := by omega
                    have i1 : (kk : Int) < (L.length : Int) := by omega
                    have HKK : Hid (kk < L.length) := hlt2
                    clear r u0 u1 u2 u3 u4 u5 hlt2 hkk
                    cases hq : eqM y m' with
                    | true =>
                      have hq1 : ∀ W : World, (Op.equalIn 10000 71 (.agg #[.int .i64 y.kind, .int .i64 y.deal, .int .i64 y.shop, .int .i64 y.c, .int .i64 y.d, .bool y.yes]) (.agg #[.int .i64 m'.kind, .int .i64 m'.deal, .int .i64 m'.shop, .int .i64 m'.c, .int .i64 m'.d, .bool m'.yes])).run Try.prog W = .ok true W := fun W => by rw [eqMl, hq]
                      have HLa2 : Hid (LastAt L m' (kk + 1) (kk : Int)) := last_hit hy hq
                      clear hq hy
                      go_wp2_with fail
                      go_quiet (fail)
                      go_wp2_with fail
                      go_roundg (L.length - (kk + 1))
                      case measure => have := HKK.out; omega
                      case rel => exact ⟨(kk : Int), kk + 1, HKK.out, rfl, rfl, by simp, HLa2, bdrewN hS _⟩
                    | false =>
                      have hq1 : ∀ W : World, (Op.equalIn 10000 71 (.agg #[.int .i64 y.kind, .int .i64 y.deal, .int .i64 y.shop, .int .i64 y.c, .int .i64 y.d, .bool y.yes]) (.agg #[.int .i64 m'.kind, .int .i64 m'.deal, .int .i64 m'.shop, .int .i64 m'.c, .int .i64 m'.d, .bool m'.yes])).run Try.prog W = .ok false W := fun W => by rw [eqMl, hq]
                      have HLa2 : Hid (LastAt L m' (kk + 1) j) := last_miss HLa.out hy hq
                      clear hq hy
                      go_wp2_with fail
                      go_quiet (fail)
                      go_wp2_with fail
                      go_roundg (L.length - (kk + 1))
                      case measure => have := HKK.out; omega
                      case rel => exact ⟨j, kk + 1, HKK.out, rfl, rfl, by simp, HLa2, bdrewN hS _⟩
                  · have hkl : kk = L.length := by omega
                    subst hkl
                    obtain ⟨i, rfl, hi1, hsome⟩ := last_found HLa.out HMem.out
                    have HPe : Hid ((L.eraseIdx i).Perm A') := HPT.out i hsome
                    have hL6 := hL5.next hS
                    have HRow6 : Hid (wr.ownsRow w.heap.size 71 6 (.slice lg L.length lp) L.length (flat6 L)) := own_next HRow5.out hS
                    have hd : ((A'.length : Int) != (A.length : Int) - 1) = false := by have := HAl.out; simp; omega
                    have a1 : (0 : Int) < (A.length : Int) := by have := HAl.out; omega
                    have n0 : ¬ (i : Int) < 0 := by omega
                    clear hL5 HRow5 hS HMA HMem HPT HLa hsome u0 u1 u2 u3 u4 u5 hb8 hlt2 hkk
                    go_wp2_with fail
                    refine Calls.mono (len_mlive hL6) ?_
                    rintro e W7 ⟨rfl, hb7⟩
                    have hL7 := hL6.next hb7
                    have HRow7 : Hid (W7.ownsRow w.heap.size 71 6 (.slice lg L.length lp) L.length (flat6 L)) := own_next HRow6.out hb7
                    clear hL6 HRow6 hb7
                    obtain ⟨g, cap, eg⟩ := own_some HRow7.out (by omega)
                    simp only [Value.slice.injEq, true_and] at eg
                    obtain ⟨rfl, rfl⟩ := eg
                    obtain ⟨_, _, hnc, _, hcell7⟩ := own_row HRow7.out
                    have HT9 : Hid _ := (own_row (own_take HRow7.out rfl (Nat.le_of_lt hi1))).2.2.2.2
                    have HTl : Hid ((flat6 (L.take i)).length = i * 6) := by show _ = _; rw [flat6_length, List.length_take, Nat.min_eq_left (by omega)]
                    have HD : Hid _ := cells_drop hcell7 (show i + 1 ≤ L.length by omega)
                    have HDl : Hid ((flat6 (L.drop (i + 1))).length = (L.length - (i + 1)) * 6) := by show _ = _; rw [flat6_length, List.length_drop]
                    have HE : Hid (flat6 (L.take i) ++ flat6 (L.drop (i + 1)) = flat6 (L.eraseIdx i)) := by show _ = _; rw [erase_split, flat6_append]
                    have HEl : Hid ((L.eraseIdx i).length = L.length - 1) := by show _ = _; rw [List.length_eraseIdx, if_pos hi1]
                    have HLB : Hid (L.length < 1000) := by have := HLL.out; have := HA.out; show _ < _; omega
                    clear hcell7
                    have k0 : (0 : Int) ≤ (i : Int) + 1 := by omega
                    have k1 : (i : Int) + 1 ≤ (L.length : Int) := by omega
                    have k2 : (L.length : Int) ≤ (lp : Int) := by omega
                    have k3 : i + 1 ≤ L.length := hi1
                    have k4 : i + 1 ≤ lp := by omega
                    have k5 : i ≤ lp := by omega
                    have k6 : (i : Int) ≤ (lp : Int) := by omega
                    have k7 : (0 : Int) ≤ (i : Int) := by omega
                    have hr : IntKind.i64.wrap ((i : Int) + 1) = (i : Int) + 1 := by go_unwrap
                    go_upto_region 30 with fail
                    by_cases hcap : lp = i + 1
                    · subst hcap
                      have HD0 : Hid (L.drop (i + 1) = []) := List.drop_of_length_le (by omega)
                      have HE0 : Hid (flat6 (L.take i) ++ [] = flat6 (L.eraseIdx i)) := by have h := HE.out; rw [HD0.out] at h; exact h
                      have kk : (i : Int) ≤ (i : Int) + 1 := by omega
                      go_region_held3 (fun _ => True) (trivial)
                        (first | (refine step_append_six (by rfl) (.tmp 80) (.tmp 83) 66 (by rfl) W7.heap.size 71 i0 (.agg #[.int .i64 0, .int .i64 0, .int .i64 0, .int .i64 0, .int .i64 0, .bool false]) 6 48 Try.underlying66 hi hz0 hz1 hz2 rfl (by decide) (.slice none 0 0) 0 [] (by rfl) (World.ownsRow_nil _ _ _ _) ⟨g, 0, none⟩ i (i + 1) (flat6 (L.take i)) (by rfl) HTl.out (fun j u hj => by rw [addr_add]; exact HT9.out j u hj) (flat6_one _) (by have := HLB.out; unfold maxLen; omega) (by have := HLB.out; omega) (by simp) i (by omega) (flat6 (L.take i)) (by simp) ?_; intro v31 w31 hown31 hgrow31; have HO31 : Hid (w31.ownsRow W7.heap.size 71 6 v31 i (flat6 (L.take i))) := hown31; clear hown31; have hz31 : W7.heap.size ≤ w31.heap.size := Nat.le_trans (by simp) hgrow31.size; have HS31 : Hid (Save (fun _ => False) W7 w31) := (Save.of_below (by go_grown)).grown hgrow31 (fun k e _ => by simp [Value.ownBlock] at e); clear hgrow31) | (refine step_append_six (by rfl) (.tmp 84) (.tmp 88) 66 (by rfl) W7.heap.size 71 i0 (.agg #[.int .i64 0, .int .i64 0, .int .i64 0, .int .i64 0, .int .i64 0, .bool false]) 6 48 Try.underlying66 hi hz0 hz1 hz2 rfl (by decide) v31 i (flat6 (L.take i)) (by rfl) HO31.out ⟨g, 0, none⟩ 0 0 [] (by rfl) rfl (fun j u hj => by simp at hj) (fun u hu => by simp at hu) (by have := HLB.out; unfold maxLen; omega) (by have := HLB.out; omega) hz31 (L.length - 1) (by omega) (flat6 (L.eraseIdx i)) HE0.out ?_; intro v38 w38 hown38 hgrow38; obtain ⟨ga38, cap38, rfl⟩ := own_slice6 hown38; have HO38 : Hid (w38.ownsRow W7.heap.size 71 6 (.slice ga38 (L.length - 1) cap38) (L.length - 1) (flat6 (L.eraseIdx i))) := hown38; clear hown38; have HS38 : Hid (Below W7.heap.size W7 w38) := (HS31.out.grown hgrow38 (fun k e hk => by have := (HO31.out.lt k e).1; omega)).below (fun _ _ q => q) (Nat.le_refl _); clear hgrow38))
                      all_goals
                        have hL8 : MLive w (fun b => (Value.slice ga38 (L.length - 1) cap38).ownBlock = some b) w38 p A' := hL7.more HS38.out (fun b e => .inr (HO38.out.lt b e))
                        have HR8 : Hid (w38.ownsRow w.heap.size 71 6 (.slice ga38 (L.eraseIdx i).length cap38) (L.eraseIdx i).length (flat6 (L.eraseIdx i))) := by
                          show World.ownsRow _ _ _ _ _ _ _
                          rw [HEl.out]
                          exact own_up HO38.out hL7.below.size
                        go_wp2_with fail
                        go_meet
                        case rel => rw [HP.out]; exact ⟨L.eraseIdx i, ga38, cap38, by rw [HEl.out], by rw [HEl.out]; exact hL8, HR8, HPe⟩
                    · go_region_held3 (fun _ => True) (trivial)
                        (first | (refine step_append_six (by rfl) (.tmp 80) (.tmp 83) 66 (by rfl) W7.heap.size 71 i0 (.agg #[.int .i64 0, .int .i64 0, .int .i64 0, .int .i64 0, .int .i64 0, .bool false]) 6 48 Try.underlying66 hi hz0 hz1 hz2 rfl (by decide) (.slice none 0 0) 0 [] (by rfl) (World.ownsRow_nil _ _ _ _) ⟨g, 0, none⟩ i lp (flat6 (L.take i)) (by rfl) HTl.out (fun j u hj => by rw [addr_add]; exact HT9.out j u hj) (flat6_one _) (by have := HLB.out; unfold maxLen; omega) (by have := HLB.out; omega) (by simp) i (by omega) (flat6 (L.take i)) (by simp) ?_; intro v31 w31 hown31 hgrow31; have HO31 : Hid (w31.ownsRow W7.heap.size 71 6 v31 i (flat6 (L.take i))) := hown31; clear hown31; have hz31 : W7.heap.size ≤ w31.heap.size := Nat.le_trans (by simp) hgrow31.size; have HD31 : Hid (∀ j u, (flat6 (L.drop (i + 1)))[j]? = some u → w31.cell? ((⟨g, (i + 1) * 6, none⟩ : Addr).add j) = some u) := fun j u hj => hgrow31.cell (HD.out j u hj) (by simp [Value.ownBlock]); have HS31 : Hid (Save (fun _ => False) W7 w31) := (Save.of_below (by go_grown)).grown hgrow31 (fun k e _ => by simp [Value.ownBlock] at e); clear hgrow31) | (refine step_append_six (by rfl) (.tmp 84) (.tmp 88) 66 (by rfl) W7.heap.size 71 i0 (.agg #[.int .i64 0, .int .i64 0, .int .i64 0, .int .i64 0, .int .i64 0, .bool false]) 6 48 Try.underlying66 hi hz0 hz1 hz2 rfl (by decide) v31 i (flat6 (L.take i)) (by rfl) HO31.out ⟨g, (i + 1) * 6, none⟩ (L.length - (i + 1)) (lp - (i + 1)) (flat6 (L.drop (i + 1))) (by rfl) HDl.out HD31.out (flat6_one _) (by have := HLB.out; unfold maxLen; omega) (by have := HLB.out; omega) hz31 (L.length - 1) (by omega) (flat6 (L.eraseIdx i)) HE.out ?_; intro v38 w38 hown38 hgrow38; obtain ⟨ga38, cap38, rfl⟩ := own_slice6 hown38; have HO38 : Hid (w38.ownsRow W7.heap.size 71 6 (.slice ga38 (L.length - 1) cap38) (L.length - 1) (flat6 (L.eraseIdx i))) := hown38; clear hown38; have HS38 : Hid (Below W7.heap.size W7 w38) := (HS31.out.grown hgrow38 (fun k e hk => by have := (HO31.out.lt k e).1; omega)).below (fun _ _ q => q) (Nat.le_refl _); clear hgrow38))
                      all_goals
                        have hL8 : MLive w (fun b => (Value.slice ga38 (L.length - 1) cap38).ownBlock = some b) w38 p A' := hL7.more HS38.out (fun b e => .inr (HO38.out.lt b e))
                        have HR8 : Hid (w38.ownsRow w.heap.size 71 6 (.slice ga38 (L.eraseIdx i).length cap38) (L.eraseIdx i).length (flat6 (L.eraseIdx i))) := by
                          show World.ownsRow _ _ _ _ _ _ _
                          rw [HEl.out]
                          exact own_up HO38.out hL7.below.size
                        go_wp2_with fail
                        go_meet
                        case rel => rw [HP.out]; exact ⟨L.eraseIdx i, ga38, cap38, by rw [HEl.out], by rw [HEl.out]; exact hL8, HR8, HPe⟩
            · by_cases e2 : what = 2
              · subst e2
                clear e0 e1
                have HP : Hid (pstepR A ⟨2, n, m⟩ = (dblR A n).2) := rfl
                have y1 : W2.cell? ⟨bx, 1, none⟩ = some (.int .i64 n) := hX3.2 1 _ rfl
                go_wp2_with fail
                refine Calls.mono (lown_mlive hL3 HA.out) ?_
                rintro e W4 ⟨⟨v, rfl, hown4⟩, hb4⟩
                obtain ⟨va, vc, rfl⟩ := own_slice6 hown4
                have hX4 := hX3.next hb4
                have hL4 : MLive w (fun b => ((Value.slice lg L.length lp).ownBlock = some b ∨ b = bx) ∨ (Value.slice va A.length vc).ownBlock = some b) W4 p A := hL3.more hb4 (fun b e => e.elim .inl (fun e => .inr (hown4.lt b e)))
                have HRow4 : Hid (W4.ownsRow w.heap.size 71 6 (.slice lg L.length lp) L.length (flat6 L)) := own_next HRow2.out hb4
                have HV4 : Hid (W4.ownsRow W2.heap.size 71 6 (.slice va A.length vc) A.length (flat6 A)) := hown4
                clear hL3 hX3 HRow2 y0 y1 hb4 hown4
                have y1 : W4.cell? ⟨bx, 1, none⟩ = some (.int .i64 n) := hX4.2 1 _ rfl
                go_wp2_with fail
                refine Calls.mono (dbl_mlive n hL4 HA.out) ?_
                by_cases hne : A = []
                · subst hne
                  rw [dblR_nil] at HP ⊢
                  rintro e W5 ⟨rfl, hL5, hS5⟩
                  have HRow5 : Hid (W5.ownsRow w.heap.size 71 6 (.slice lg L.length lp) L.length (flat6 L)) := own_save HRow4.out hS5 (fun k e q => q (.inl (.inl e)))
                  clear hL4 hX4 HRow4 y1 hS5
                  go_wp2_with fail
                  go_meet
                  case rel => rw [HP.out]; exact ⟨L, lg, lp, rfl, hL5.less (fun _ e => .inl (.inl e)), HRow5, HPerm⟩
                · obtain ⟨m', hm'⟩ := rnd_some n hne
                  rw [dblR_some hm'] at HP ⊢
                  by_cases hfull : 40 ≤ A.length
                  · rw [sendR_full hfull] at HP ⊢
                    rintro e W5 ⟨rfl, hL5, hS5⟩
                    have HRow5 : Hid (W5.ownsRow w.heap.size 71 6 (.slice lg L.length lp) L.length (flat6 L)) := own_save HRow4.out hS5 (fun k e q => q (.inl (.inl e)))
                    clear hL4 hX4 HRow4 y1 hS5 hfull
                    go_wp2_with fail
                    go_meet
                    case rel => rw [HP.out]; exact ⟨L, lg, lp, rfl, hL5.less (fun _ e => .inl (.inl e)), HRow5, HPerm⟩
                  · rw [sendR_room hfull] at HP ⊢
                    rintro e W5 ⟨rfl, hL5, hS5⟩
                    have HRow5 : Hid (W5.ownsRow w.heap.size 71 6 (.slice lg L.length lp) L.length (flat6 L)) := own_save HRow4.out hS5 (fun k e q => q (.inl (.inl e)))
                    have hV5 := own_save HV4.out hS5 (fun k e q => q (.inr e))
                    have hX5 := hX4.save hS5 (fun q => q (.inl (.inr rfl)))
                    have hpos : 0 < A.length := List.length_pos_iff.2 hne
                    obtain ⟨g, cap, eg⟩ := own_some hV5 (by omega)
                    simp only [Value.slice.injEq, true_and] at eg
                    obtain ⟨rfl, rfl⟩ := eg
                    obtain ⟨_, _, hnc, _, hcell⟩ := own_row hV5
                    have hfl := flat6_at A _ m' hm'
                    have hk2 := rnd_lt n hpos
                    have hr := rnd_wrap n A.length hpos HA.out
                    generalize rnd n A.length = kk at *
                    have q0 : W5.cell? ⟨g, kk * 6, none⟩ = some (.int .i64 m'.kind) := hcell _ _ (hfl 0 _ rfl)
                    have q1 : W5.cell? ⟨g, kk * 6 + 1, none⟩ = some (.int .i64 m'.deal) := hcell _ _ (hfl 1 _ rfl)
                    have q2 : W5.cell? ⟨g, kk * 6 + 2, none⟩ = some (.int .i64 m'.shop) := hcell _ _ (hfl 2 _ rfl)
                    have q3 : W5.cell? ⟨g, kk * 6 + 3, none⟩ = some (.int .i64 m'.c) := hcell _ _ (hfl 3 _ rfl)
                    have q4 : W5.cell? ⟨g, kk * 6 + 4, none⟩ = some (.int .i64 m'.d) := hcell _ _ (hfl 4 _ rfl)
                    have q5 : W5.cell? ⟨g, kk * 6 + 5, none⟩ = some (.bool m'.yes) := hcell _ _ (hfl 5 _ rfl)
                    have z1 : W5.cell? ⟨bx, 1, none⟩ = some (.int .i64 n) := hX5.2 1 _ rfl
                    have i0' : (0 : Int) ≤ (kk : Int) := by omega
                    have i1 : (kk : Int) < (A.length : Int) := by omega
                    have i2 : (0 : Int) < (A.length : Int) := by omega
                    have i3 : ((A.length : Int) == 0) = false := by rw [beq_eq_false_iff_ne]; omega
                    have HW5 : Hid (w.heap.size ≤ W5.heap.size) := hL5.below.size
                    clear hL4 hX4 HRow4 y1 hS5 hfull hV5 hX5 hcell hfl hm' hne HV4 hpos
                    go_wp2_with (at_builtin; refine list_append_two rfl (.tmp 101) (.tmp 113) 66 rfl w.heap.size 71 i0 (.agg #[.int .i64 0, .int .i64 0, .int .i64 0, .int .i64 0, .int .i64 0, .bool false]) 6 48 Try.underlying66 hi hz0 hz1 hz2 rfl (by decide) (.slice lg L.length lp) _ _ rfl (own_next HRow5.out (by go_grown)) ⟨W5.heap.size, 0, none⟩ 1 1 [.int .i64 m'.kind, .int .i64 m'.deal, .int .i64 m'.shop, .int .i64 m'.c, .int .i64 m'.d, .bool m'.yes] rfl rfl (mail_lies (by simp [go_sem]) (by simp [go_sem]) (by simp [go_sem]) (by simp [go_sem]) (by simp [go_sem]) (by simp [go_sem])) mail_cell (by have := HLL.out; have := HA.out; unfold maxLen; omega) (by have := HLL.out; have := HA.out; omega) (by have := HW5.out; simp; omega) (by decide) ?_; intro v8 w8 hown8 hgrow8 hwh8; obtain ⟨ga8, cap8, rfl⟩ := own_slice6 hown8; have HO8 : Hid (w8.ownsRow w.heap.size 71 6 (.slice ga8 (L.length + 1) cap8) (L.length + 1) (flat6 L ++ [.int .i64 m'.kind, .int .i64 m'.deal, .int .i64 m'.shop, .int .i64 m'.c, .int .i64 m'.d, .bool m'.yes])) := hown8; clear hown8; have HW8 : Hid _ := hwh8; clear hwh8)
                    have hL8 : MLive w (fun b => (Value.slice ga8 (L.length + 1) cap8).ownBlock = some b) w8 p (A ++ [m']) := by
                      refine (hL5.next (w1 := W5.alloc (.cells #[.int .i64 m'.kind, .int .i64 m'.deal, .int .i64 m'.shop, .int .i64 m'.c, .int .i64 m'.d, .bool m'.yes] 71)) (by go_grown)).grown hgrow8 (fun k e => ⟨.inl (.inl e), (HRow5.out.lt k e).1⟩) (fun k e => ?_)
                      rcases HW8.out k e with h1 | h1
                      · exact .inl (.inl (.inl h1))
                      · exact .inr ⟨Nat.le_of_eq h1.symm, (HO8.out.lt k e).2⟩
                    have HR8 : Hid (w8.ownsRow w.heap.size 71 6 (.slice ga8 (L ++ [m']).length cap8) (L ++ [m']).length (flat6 (L ++ [m']))) := by
                      show World.ownsRow _ _ _ _ _ _ _
                      rw [List.length_append, flat6_snoc]
                      exact HO8.out
                    go_meet
                    case rel => rw [HP.out]; exact ⟨L ++ [m'], ga8, cap8, by simp, by rw [List.length_append]; exact hL8, HR8, perm_send HPerm.out⟩
              · have e0' : (what == 0) = false := by simpa using e0
                have e1' : (what == 1) = false := by simpa using e1
                have e2' : (what == 2) = false := by simpa using e2
                have HP : Hid (pstepR A ⟨what, n, m⟩ = A) := pstepR_no A what n m e0 e1 e2
                clear e0 e1 e2
                go_wp2_with fail
                go_meet
                case rel => rw [HP.out]; exact ⟨L, lg, lp, rfl, hL3.less (fun _ e => .inl e), HRow2, HPerm⟩
        case rest =>
          obtain ⟨L', lg', lp', rfl, hL4, HRow4, HPerm4⟩ := hcut
          have HL40 : Hid ((pstepR A x).length ≤ 40) := pstepR_len A x HLen.out
          clear hL3 hX3 HRow2 y0
          generalize pstepR A x = A' at hL4 HPerm4 HL40
          have HLL4 : Hid (L'.length = A'.length) := HPerm4.out.length_eq
          have b0 : (A'.length : Int) ≤ 40 := by have := HL40.out; omega
          have b1 : ((A'.length : Int) != (L'.length : Int)) = false := by rw [HLL4.out]; simp
          go_wp2_with fail
          refine Calls.mono (len_mlive hL4) ?_
          rintro e W5 ⟨rfl, hb5⟩
          have hL5 := hL4.next hb5
          have HRow5 : Hid (W5.ownsRow w.heap.size 71 6 (.slice lg' L'.length lp') L'.length (flat6 L')) := own_next HRow4.out hb5
          clear hL4 HRow4 hb5
          go_wp2_with fail
          refine Calls.mono (len_mlive hL5) ?_
          rintro e W6 ⟨rfl, hb6⟩
          have hL6 := hL5.next hb6
          have HRow6 : Hid (W6.ownsRow w.heap.size 71 6 (.slice lg' L'.length lp') L'.length (flat6 L')) := own_next HRow5.out hb6
          clear hL5 HRow5 hb6
          go_wp2_with fail
          go_roundg (ll - (k + 1))
          case measure => have := HKN.out; omega
          case rel => exact ⟨k + 1, A', L', lg', lp', HKN.out, rfl, rfl, by simp, hL6, HRow6, HPerm4, HL40⟩
      · have hkk : k = ll := by omega
        subst hkk
        clear hk hlt
        go_wp2_with fail
        go_ret
        exact ⟨rfl, hL1.below⟩

end Go.Proofs.Ytbgnajcmhmpjlab
