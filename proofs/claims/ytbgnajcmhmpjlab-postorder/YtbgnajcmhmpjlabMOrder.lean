/- The walk of PostOrder: it answers true, whatever steps it is given. -/
import Derived.Test.YtbgnajcmhmpjlabMBoth
import Derived.BigQuiet
import Derived.Deep.RegionHeld3
namespace Go.Proofs.Ytbgnajcmhmpjlab
open Go.RowKit

theorem same_self {ga gb : Option Addr} {n ca cb : Nat} {L : List Ml} {W : World} (h1 : MailsAt W ga L) (h2 : MailsAt W gb L) (hn : L.length = n) (hs : n < 1000) : Calls Try.prog 39 #[.slice ga n ca, .slice gb n cb] W fun e w' => e = .returned (.bool true) ∧ Below W.heap.size W w' :=
  (sameMail_any ga gb _ _ ca cb L L W h1 h2 hn hn (by omega)).mono (fun e w' h => by
    obtain ⟨⟨b, e1, e2⟩, e3⟩ := h
    rw [e2.2 rfl] at e1
    exact ⟨e1, e3⟩)
theorem mails_own {w : World} {B e n cap : Nat} {ga : Option Addr} {l : List Ml} (h : w.ownsRow B e 6 (.slice ga n cap) n (flat6 l)) : MailsAt w ga l := by
  obtain ⟨gb, cap', e, h1, _⟩ := mails_of_own h
  simp only [Value.slice.injEq] at e
  rw [e.1]
  exact h1

set_option maxHeartbeats 16000000 in
set_option maxRecDepth 100000 in
theorem morder_walk (la : Option Addr) (ll lc : Nat) (l : List PSp) (x : PSp) (w : World) (hl : PStepsAt w la l) (hll : l.length = ll) :
    Calls Try.prog 8 #[.slice la ll lc, .agg #[.int .i64 x.what, .int .i64 x.n, .int .i64 x.m.kind, .int .i64 x.m.deal, .int .i64 x.m.shop, .int .i64 x.m.c, .int .i64 x.m.d, .bool x.m.yes]] w fun e w' => e = .returned (.bool true) ∧ Below w.heap.size w w' := by
  by_cases hbig : 200 < ll
  · have hbig' : (200 : Int) < (ll : Int) := by omega
    clear hl hll hbig
    go_enter Try.func8, Try.ntmps8
    go_wp2_with fail
    refine (mbegun_any _).mono ?_
    rintro e w1 ⟨rfl, hb1⟩
    go_wp2_with fail
    go_ret
    exact ⟨rfl, after (by go_grown) hb1 (by simp)⟩
  · have hbig' : ¬ (200 : Int) < (ll : Int) := by omega
    have HB : Hid (ll ≤ 200) := by show _ ≤ _; omega
    obtain ⟨i0, hi, hz0, hz1, hz2⟩ := info_parts infoMail
    clear hbig
    go_enter Try.func8, Try.ntmps8
    go_upto_region 1 with fail
    have hX0 := BoxAt.new w x.cells 73
    have hb0 : Below w.heap.size w (w.alloc (.cells x.cells.toArray 73)) := (Below.refl _ _).alloc (Nat.le_refl _) _
    change BoxAt (w.alloc (.cells #[.int .i64 x.what, .int .i64 x.n, .int .i64 x.m.kind, .int .i64 x.m.deal, .int .i64 x.m.shop, .int .i64 x.m.c, .int .i64 x.m.d, .bool x.m.yes] _)) _ _ at hX0
    change Below _ _ (w.alloc (.cells #[.int .i64 x.what, .int .i64 x.n, .int .i64 x.m.kind, .int .i64 x.m.deal, .int .i64 x.m.shop, .int .i64 x.m.c, .int .i64 x.m.d, .bool x.m.yes] _)) at hb0
    generalize (w.alloc (.cells #[.int .i64 x.what, .int .i64 x.n, .int .i64 x.m.kind, .int .i64 x.m.deal, .int .i64 x.m.shop, .int .i64 x.m.c, .int .i64 x.m.d, .bool x.m.yes] 73)) = W0 at hX0 hb0 ⊢
    have HBX : Hid (w.heap.size = w.heap.size) := rfl
    generalize hbx : w.heap.size = bx at hX0 ⊢
    have HBX : Hid (w.heap.size = bx) := hbx
    clear hbx
    go_wp2_with fail
    refine (mbegun_any _).mono ?_
    rintro e w1 ⟨rfl, hb1⟩
    have HT : Hid (PStepsAt w la l) := hl
    have hX1 := hX0.next hb1
    have hw1 : Below w.heap.size w w1 := after hb0 hb1 hb0.size
    clear hl hX0 hb0 hb1
    go_wp2_with fail
    refine Calls.mono (pnew_live w1) ?_
    rintro e w2 ⟨p, rfl, hL2, hb2, _⟩
    have hX2 := hX1.next hb2
    have hL3 : MLive w (fun b => b = bx) w2 p [] := by
      obtain ⟨O, q1, q2⟩ := hL2.inn
      exact ⟨⟨O, q1, fun k hk => ⟨Nat.le_trans hw1.size (q2 k hk).1, fun e => by have := (q2 k hk).1; have := hX1.1; omega⟩⟩, after hw1 hL2.below hw1.size, fun k e => by rw [e]; exact hX2.1⟩
    clear hL2 hw1 hX1 hb2
    go_wp2_with fail
    go_loopg [6] ll (fun g s6 wr => ∃ (k : Nat) (A : List Ml), k ≤ ll ∧ g = ll - k ∧ s6 = .int .i64 k ∧ MLive w (fun b => b = bx) wr p A ∧ BoxAt wr bx x.cells ∧ Hid (A.length ≤ 40))
    case atStart => exact ⟨0, [], Nat.zero_le _, rfl, rfl, hL3, hX2, Nat.zero_le _⟩
    case round =>
      obtain ⟨k, A, hk, rfl, rfl, hL1, hX, HLen⟩ := hrel
      clear hL3 hX2
      have HA : Hid (A.length < 1000) := by have := HLen.out; show _ < _; omega
      by_cases hlt : k < ll
      · obtain ⟨s, hks⟩ : ∃ s, l[k]? = some s := ⟨_, List.getElem?_eq_getElem (by omega)⟩
        obtain ⟨bl, ol, rfl, hbl, hcell⟩ := HT.out k s hks
        have hcell' : ∀ j v, s.cells[j]? = some v → wr.cell? ⟨bl, ol + k * 8 + j, none⟩ = some v := fun j v hj => (hL1.below.cell (p := ⟨bl, _, none⟩) hbl).trans (hcell j v hj)
        have p0 : wr.cell? ⟨bl, ol + k * 8, none⟩ = some (.int .i64 s.what) := hcell' 0 _ rfl
        have p1 : wr.cell? ⟨bl, ol + k * 8 + 1, none⟩ = some (.int .i64 s.n) := hcell' 1 _ rfl
        have p2 : wr.cell? ⟨bl, ol + k * 8 + 2, none⟩ = some (.int .i64 s.m.kind) := hcell' 2 _ rfl
        have p3 : wr.cell? ⟨bl, ol + k * 8 + 3, none⟩ = some (.int .i64 s.m.deal) := hcell' 3 _ rfl
        have p4 : wr.cell? ⟨bl, ol + k * 8 + 4, none⟩ = some (.int .i64 s.m.shop) := hcell' 4 _ rfl
        have p5 : wr.cell? ⟨bl, ol + k * 8 + 5, none⟩ = some (.int .i64 s.m.c) := hcell' 5 _ rfl
        have p6 : wr.cell? ⟨bl, ol + k * 8 + 6, none⟩ = some (.int .i64 s.m.d) := hcell' 6 _ rfl
        have p7 : wr.cell? ⟨bl, ol + k * 8 + 7, none⟩ = some (.bool s.m.yes) := hcell' 7 _ rfl
        have j0 : (0 : Int) ≤ (k : Int) := by omega
        have j1 : (k : Int) < (ll : Int) := by omega
        have j2 : (ll : Int) ≤ 200 := by have := HB.out; omega
        have HKN : Hid (k < ll) := hlt
        clear hcell hcell' hks hk hlt hbl
        obtain ⟨what, n, m⟩ := s
        dsimp only at *
        by_cases e0 : what = 0
        · subst e0
          go_wp2_with fail
          refine Calls.mono (send_mlive m hL1 HA.out) ?_
          rintro e W4 ⟨rfl, hL4, hS4⟩
          have hX4 := hX.save hS4 (fun q => q rfl)
          have HL4 : Hid ((sendR A m).2.length ≤ 40) := sendR_len A m HLen.out
          clear hL1 hX hS4 p0 p1 p2 p3 p4 p5 p6 p7
          go_wp2_with fail
          go_roundg (ll - (k + 1))
          case measure => have := HKN.out; omega
          case rel => exact ⟨k + 1, _, HKN.out, rfl, by simp, hL4, hX4, HL4⟩
        · by_cases e1 : what = 1
          · subst e1
            clear e0
            go_wp2_with fail
            refine Calls.mono (take_mlive n hL1 HA.out) ?_
            rintro e W4 ⟨rfl, hL4, hS4⟩
            have hX4 := hX.save hS4 (fun q => q rfl)
            have HL4 : Hid ((takeR A n).2.2.length ≤ 40) := takeR_len A n HLen.out
            clear hL1 hX hS4 p0 p1 p2 p3 p4 p5 p6 p7
            go_wp2_with fail
            go_roundg (ll - (k + 1))
            case measure => have := HKN.out; omega
            case rel => exact ⟨k + 1, _, HKN.out, rfl, by simp, hL4, hX4, HL4⟩
          · by_cases e2 : what = 2
            · subst e2
              clear e0 e1
              go_wp2_with fail
              refine Calls.mono (dbl_mlive n hL1 HA.out) ?_
              rintro e W4 ⟨rfl, hL4, hS4⟩
              have hX4 := hX.save hS4 (fun q => q rfl)
              have HL4 : Hid ((dblR A n).2.length ≤ 40) := dblR_len A n HLen.out
              clear hL1 hX hS4 p0 p1 p2 p3 p4 p5 p6 p7
              go_wp2_with fail
              go_roundg (ll - (k + 1))
              case measure => have := HKN.out; omega
              case rel => exact ⟨k + 1, _, HKN.out, rfl, by simp, hL4, hX4, HL4⟩
            · have e0' : (what == 0) = false := by simpa using e0
              have e1' : (what == 1) = false := by simpa using e1
              have e2' : (what == 2) = false := by simpa using e2
              clear e0 e1 e2
              go_wp2_with fail
              go_roundg (ll - (k + 1))
              case measure => have := HKN.out; omega
              case rel => exact ⟨k + 1, A, HKN.out, rfl, by simp, hL1, hX, HLen⟩
      · have hkk : k = ll := by omega
        subst hkk
        clear hk hlt
        have a0 : (A.length : Int) ≤ 40 := by have := HLen.out; omega
        go_wp2_with fail
        refine Calls.mono (lown_mlive hL1 HA.out) ?_
        rintro e W4 ⟨⟨v, rfl, hown4⟩, hb4⟩
        obtain ⟨va, vc, rfl⟩ := own_slice6 hown4
        have hX4 := hX.next hb4
        have hL4 : MLive w (fun b => b = bx ∨ (Value.slice va A.length vc).ownBlock = some b) W4 p A := hL1.more hb4 (fun b e => e.elim .inl (fun e => .inr (hown4.lt b e)))
        have HV4 : Hid (W4.ownsRow wr.heap.size 71 6 (.slice va A.length vc) A.length (flat6 A)) := hown4
        clear hL1 hX hb4 hown4
        obtain ⟨what, n, m⟩ := x
        dsimp only at *
        have y0 : W4.cell? ⟨bx, 0, none⟩ = some (.int .i64 what) := hX4.2 0 _ rfl
        by_cases e0 : what = 0
        · subst e0
          have y2 : W4.cell? ⟨bx, 2, none⟩ = some (.int .i64 m.kind) := hX4.2 2 _ rfl
          have y3 : W4.cell? ⟨bx, 3, none⟩ = some (.int .i64 m.deal) := hX4.2 3 _ rfl
          have y4 : W4.cell? ⟨bx, 4, none⟩ = some (.int .i64 m.shop) := hX4.2 4 _ rfl
          have y5 : W4.cell? ⟨bx, 5, none⟩ = some (.int .i64 m.c) := hX4.2 5 _ rfl
          have y6 : W4.cell? ⟨bx, 6, none⟩ = some (.int .i64 m.d) := hX4.2 6 _ rfl
          have y7 : W4.cell? ⟨bx, 7, none⟩ = some (.bool m.yes) := hX4.2 7 _ rfl
          go_wp2_with fail
          refine Calls.mono (send_mlive m hL4 HA.out) ?_
          by_cases hfull : 40 ≤ A.length
          · rw [sendR_full hfull]
            rintro e W5 ⟨rfl, hL5, hS5⟩
            have hV5 := own_save HV4.out hS5 (fun k e q => q (.inr e))
            clear hL4 hX4 HV4 y0 y2 y3 y4 y5 y6 y7 hfull hS5
            go_wp2_with fail
            refine Calls.mono (lown_mlive hL5 HA.out) ?_
            rintro e W6 ⟨⟨v6, rfl, hown6⟩, hb6⟩
            obtain ⟨vn, vm, rfl⟩ := own_slice6 hown6
            have HB6 : Hid (Below w.heap.size w W6) := (hL5.next hb6).below
            have HM1 : Hid (MailsAt W6 va A) := mails_own (own_next hV5 hb6)
            have HM2 : Hid (MailsAt W6 vn A) := mails_own hown6
            clear hL5 hb6 hown6 hV5
            go_wp2_with fail
            refine Calls.mono (same_self HM1.out HM2.out rfl HA.out) ?_
            rintro e W7 ⟨rfl, hb7⟩
            go_wp2_with fail
            go_ret
            exact ⟨rfl, after HB6.out hb7 HB6.out.size⟩
          · rw [sendR_room hfull]
            rintro e W5 ⟨rfl, hL5, hS5⟩
            have hV5 := own_save HV4.out hS5 (fun k e q => q (.inr e))
            have hX5 := hX4.save hS5 (fun q => q (.inl rfl))
            clear hL4 hX4 HV4 y0 y2 y3 y4 y5 y6 y7 hfull hS5
            have e1 : (A ++ [m]).length = A.length + 1 := by simp
            have HA1 : Hid ((A ++ [m]).length < 1000) := by have := HLen.out; show _ < _; rw [e1]; omega
            go_wp2_with fail
            refine Calls.mono (lown_mlive hL5 HA1.out) ?_
            rw [e1]
            rintro e W6 ⟨⟨v6, rfl, hown6⟩, hb6⟩
            obtain ⟨vn, vm, rfl⟩ := own_slice6 hown6
            have hL6 := hL5.next hb6
            have hX6 := hX5.next hb6
            have hV6 := own_next hV5 hb6
            clear hL5 hX5 hV5 hb6
            have y0 : W6.cell? ⟨bx, 0, none⟩ = some (.int .i64 0) := hX6.2 0 _ rfl
            have y2 : W6.cell? ⟨bx, 2, none⟩ = some (.int .i64 m.kind) := hX6.2 2 _ rfl
            have y3 : W6.cell? ⟨bx, 3, none⟩ = some (.int .i64 m.deal) := hX6.2 3 _ rfl
            have y4 : W6.cell? ⟨bx, 4, none⟩ = some (.int .i64 m.shop) := hX6.2 4 _ rfl
            have y5 : W6.cell? ⟨bx, 5, none⟩ = some (.int .i64 m.c) := hX6.2 5 _ rfl
            have y6 : W6.cell? ⟨bx, 6, none⟩ = some (.int .i64 m.d) := hX6.2 6 _ rfl
            have y7 : W6.cell? ⟨bx, 7, none⟩ = some (.bool m.yes) := hX6.2 7 _ rfl
            go_upto_region 28 with fail
            have hb6 : Below W6.heap.size W6 (W6.alloc (.cells #[.int .i64 m.kind, .int .i64 m.deal, .int .i64 m.shop, .int .i64 m.c, .int .i64 m.d, .bool m.yes] 71)) := (Below.refl _ _).alloc (Nat.le_refl _) _
            have hC8 := Box6.new W6 m
            have y0 : (W6.alloc (.cells #[.int .i64 m.kind, .int .i64 m.deal, .int .i64 m.shop, .int .i64 m.c, .int .i64 m.d, .bool m.yes] 71)).cell? ⟨bx, 0, none⟩ = some (.int .i64 0) := (hX6.next hb6).2 0 _ rfl
            have hB8 := (hL6.next hb6).below
            have hown8 := own_next hown6 hb6
            have hV8 := own_next hV6 hb6
            generalize (W6.alloc (.cells #[.int .i64 m.kind, .int .i64 m.deal, .int .i64 m.shop, .int .i64 m.c, .int .i64 m.d, .bool m.yes] 71)) = W8 at *
            generalize W6.heap.size = b10 at hC8 ⊢
            clear hL6 hX6 hown6 hV6 hb6 y2 y3 y4 y5 y6 y7 e1 HA1
            have hmem : (A ++ [m])[A.length]? = some m := by simp
            have hfl := flat6_at (A ++ [m]) A.length m hmem
            obtain ⟨g9, cap9, eg⟩ := own_some hown8 (by omega)
            simp only [Value.slice.injEq, true_and] at eg
            obtain ⟨rfl, rfl⟩ := eg
            obtain ⟨_, _, hnc, _, hcell⟩ := own_row hown8
            have hg9 := (hown8.lt g9 rfl).2
            have htk : (A ++ [m]).take A.length = A := by simp
            have HM1 : Hid (MailsAt W8 (some ⟨g9, 0, none⟩) A) := by
              have h := mails_own (own_take hown8 (by simp) (Nat.le_succ A.length))
              rw [htk] at h
              exact h
            have HM2 : Hid (MailsAt W8 (va) A) := mails_own hV8
            have HK : Hid (∀ w', Below W8.heap.size W8 w' → w'.cell? ⟨g9, A.length * 6, none⟩ = some (.int .i64 m.kind) ∧ w'.cell? ⟨g9, A.length * 6 + 1, none⟩ = some (.int .i64 m.deal) ∧ w'.cell? ⟨g9, A.length * 6 + 2, none⟩ = some (.int .i64 m.shop) ∧ w'.cell? ⟨g9, A.length * 6 + 3, none⟩ = some (.int .i64 m.c) ∧ w'.cell? ⟨g9, A.length * 6 + 4, none⟩ = some (.int .i64 m.d) ∧ w'.cell? ⟨g9, A.length * 6 + 5, none⟩ = some (.bool m.yes) ∧ w'.cell? ⟨b10, 0, none⟩ = some (.int .i64 m.kind) ∧ w'.cell? ⟨b10, 1, none⟩ = some (.int .i64 m.deal) ∧ w'.cell? ⟨b10, 2, none⟩ = some (.int .i64 m.shop) ∧ w'.cell? ⟨b10, 3, none⟩ = some (.int .i64 m.c) ∧ w'.cell? ⟨b10, 4, none⟩ = some (.int .i64 m.d) ∧ w'.cell? ⟨b10, 5, none⟩ = some (.bool m.yes) ∧ Below W8.heap.size W8 w') := fun w' hb => ⟨((bcell hb).1 _ _ hg9).trans (hcell _ _ (hfl 0 _ rfl)), ((bcell hb).1 _ _ hg9).trans (hcell _ _ (hfl 1 _ rfl)), ((bcell hb).1 _ _ hg9).trans (hcell _ _ (hfl 2 _ rfl)), ((bcell hb).1 _ _ hg9).trans (hcell _ _ (hfl 3 _ rfl)), ((bcell hb).1 _ _ hg9).trans (hcell _ _ (hfl 4 _ rfl)), ((bcell hb).1 _ _ hg9).trans (hcell _ _ (hfl 5 _ rfl)), (hC8.next hb).c0, (hC8.next hb).c1, (hC8.next hb).c2, (hC8.next hb).c3, (hC8.next hb).c4, (hC8.next hb).c5, hb⟩
            have HSM : Hid (∀ W : World, Below W8.heap.size W8 W → Calls Try.prog 39 #[.slice (some ⟨g9, 0, none⟩) A.length vm, .slice (va) A.length vc] W fun e w' => e = .returned (.bool true) ∧ Below W.heap.size W w') := fun W hW => same_self (HM1.out.below hW (Nat.le_refl _)) (HM2.out.below hW (Nat.le_refl _)) rfl HA.out
            have hqe : ∀ W : World, (Op.equalIn 10000 71 (.agg #[.int .i64 m.kind, .int .i64 m.deal, .int .i64 m.shop, .int .i64 m.c, .int .i64 m.d, .bool m.yes]) (.agg #[.int .i64 m.kind, .int .i64 m.deal, .int .i64 m.shop, .int .i64 m.c, .int .i64 m.d, .bool m.yes])).run Try.prog W = .ok true W := fun W => by rw [eqMl, eqM_iff.2 rfl]
            have n0 : A.length ≤ vm := by omega
            have n1 : (A.length : Int) ≤ (vm : Int) := by omega
            have n2 : (0 : Int) ≤ (A.length : Int) := by omega
            have n3 : (A.length : Int) < ((A.length + 1 : Nat) : Int) := by omega
            have n4 : (((A.length + 1 : Nat) : Int) == (A.length : Int) + 1) = true := by simp
            have n5 : ((A.length + 1 : Nat) : Int) = (A.length : Int) + 1 := by simp
            have n6 : (A.length : Int) < (A.length : Int) + 1 := by omega
            have n7 : IntKind.i64.wrap ((A.length : Int) + 1) = (A.length : Int) + 1 := by go_unwrap
            have HB8 : Hid (Below w.heap.size w W8) := hB8
            clear hown8 hV8 hC8 hcell hfl hmem hB8 htk n5
            go_upto_region 32 with fail
            go_region_held3 (fun w' => w'.cell? ⟨g9, A.length * 6, none⟩ = some (.int .i64 m.kind) ∧ w'.cell? ⟨g9, A.length * 6 + 1, none⟩ = some (.int .i64 m.deal) ∧ w'.cell? ⟨g9, A.length * 6 + 2, none⟩ = some (.int .i64 m.shop) ∧ w'.cell? ⟨g9, A.length * 6 + 3, none⟩ = some (.int .i64 m.c) ∧ w'.cell? ⟨g9, A.length * 6 + 4, none⟩ = some (.int .i64 m.d) ∧ w'.cell? ⟨g9, A.length * 6 + 5, none⟩ = some (.bool m.yes) ∧ w'.cell? ⟨b10, 0, none⟩ = some (.int .i64 m.kind) ∧ w'.cell? ⟨b10, 1, none⟩ = some (.int .i64 m.deal) ∧ w'.cell? ⟨b10, 2, none⟩ = some (.int .i64 m.shop) ∧ w'.cell? ⟨b10, 3, none⟩ = some (.int .i64 m.c) ∧ w'.cell? ⟨b10, 4, none⟩ = some (.int .i64 m.d) ∧ w'.cell? ⟨b10, 5, none⟩ = some (.bool m.yes) ∧ Below W8.heap.size W8 w')
              (first | exact HK.out _ (by go_grown))
              (first | (go_at_call 39; refine Calls.mono (HSM.out _ (by go_grown)) ?_; rintro e w9 ⟨rfl, hb9⟩; have hw9 : Below W8.heap.size W8 w9 := after (by go_grown) hb9 (by simp); have hz9 : W8.heap.size ≤ w9.heap.size := hw9.size))
            all_goals
              go_wp2_with fail
              go_ret
              exact ⟨by simp, after HB8.out (by go_grown) HB8.out.size⟩
        · by_cases e1 : what = 1
          · subst e1
            clear e0
            have y1 : W4.cell? ⟨bx, 1, none⟩ = some (.int .i64 n) := hX4.2 1 _ rfl
            go_wp2_with fail
            refine Calls.mono (take_mlive n hL4 HA.out) ?_
            by_cases hne : A = []
            · subst hne
              rw [takeR_nil]
              rintro e W5 ⟨rfl, hL5, hS5⟩
              clear hL4 hX4 HV4 y0 y1 hS5
              unfold mlV noMl
              dsimp only
              go_wp2_with fail
              refine Calls.mono (lown_mlive (hL5.next (w1 := W5.alloc (.cells #[.int .i64 0, .int .i64 0, .int .i64 0, .int .i64 0, .int .i64 0, .bool false] 71)) (by go_grown)) HA.out) ?_
              rintro e W6 ⟨⟨v6, rfl, hown6⟩, hb6⟩
              obtain ⟨vn, vm, rfl⟩ := own_slice6 hown6
              have hB6 := after hL5.below (after (B := W5.heap.size) (by go_grown) hb6 (by simp)) hL5.below.size
              go_wp2_with fail
              go_ret
              exact ⟨rfl, hB6⟩
            · obtain ⟨m', hm'⟩ := rnd_some n hne
              have HAl : Hid ((A.eraseIdx (rnd n A.length)).length = A.length - 1) := by
                have h0 := List.length_pos_iff.2 hne
                show _ = _
                rw [List.length_eraseIdx, if_pos (rnd_lt n h0)]
              rw [takeR_some hm']
              rintro e W5 ⟨rfl, hL5, hS5⟩
              have hV5 := own_save HV4.out hS5 (fun k e q => q (.inr e))
              have hX5 := hX4.save hS5 (fun q => q (.inl rfl))
              clear hL4 hX4 HV4 y0 y1 hS5
              unfold mlV
              go_upto_region 35 with fail
              have hb5 : Below W5.heap.size W5 (W5.alloc (.cells #[.int .i64 m'.kind, .int .i64 m'.deal, .int .i64 m'.shop, .int .i64 m'.c, .int .i64 m'.d, .bool m'.yes] 71)) := (Below.refl _ _).alloc (Nat.le_refl _) _
              have hC6 := Box6.new W5 m'
              have hX6 := hX5.next hb5
              have hL6 := hL5.next hb5
              have hV6 := own_next hV5 hb5
              generalize (W5.alloc (.cells #[.int .i64 m'.kind, .int .i64 m'.deal, .int .i64 m'.shop, .int .i64 m'.c, .int .i64 m'.d, .bool m'.yes] 71)) = W6 at *
              generalize W5.heap.size = b11 at hC6 ⊢
              clear hL5 hX5 hV5 hb5
              have HA1 : Hid ((A.eraseIdx (rnd n A.length)).length < 1000) := by have := HAl.out; have := HLen.out; show _ < _; omega
              go_wp2_with fail
              refine Calls.mono (lown_mlive hL6 HA1.out) ?_
              have hpos : 0 < A.length := List.length_pos_iff.2 hne
              have hk2 := rnd_lt n hpos
              have hr9 := rnd_wrap n A.length hpos HA.out
              have hfl := flat6_at A _ m' hm'
              generalize rnd n A.length = i at *
              rw [HAl.out]
              rintro e W7 ⟨⟨v7, rfl, hown7⟩, hb7⟩
              obtain ⟨vn, vm, rfl⟩ := own_slice6 hown7
              have hB7 := (hL6.next hb7).below
              have hX7 := hX6.next hb7
              have hV7 := own_next hV6 hb7
              have hC7 := hC6.next hb7
              obtain ⟨g, cap, eg⟩ := own_some hV7 (by omega)
              simp only [Value.slice.injEq, true_and] at eg
              obtain ⟨rfl, rfl⟩ := eg
              obtain ⟨_, _, hnc, _, hcell7⟩ := own_row hV7
              have HV7 : Hid (W7.ownsRow wr.heap.size 71 6 (.slice (some ⟨g, 0, none⟩) A.length vc) A.length (flat6 A)) := hV7
              have HN7 : Hid (W7.ownsRow W6.heap.size 71 6 (.slice vn (A.length - 1) vm) (A.length - 1) (flat6 (A.eraseIdx i))) := hown7
              have HC7 : Hid (Box6 W7 b11 m') := hC7
              have HB7 : Hid (Below w.heap.size w W7) := hB7
              have HT9 : Hid _ := (own_row (own_take HV7.out rfl (Nat.le_of_lt hk2))).2.2.2.2
              have HTl : Hid ((flat6 (A.take i)).length = i * 6) := by show _ = _; rw [flat6_length, List.length_take, Nat.min_eq_left (by omega)]
              have HD : Hid _ := cells_drop hcell7 (show i + 1 ≤ A.length by omega)
              have HDl : Hid ((flat6 (A.drop (i + 1))).length = (A.length - (i + 1)) * 6) := by show _ = _; rw [flat6_length, List.length_drop]
              have HE : Hid (flat6 (A.take i) ++ flat6 (A.drop (i + 1)) = flat6 (A.eraseIdx i)) := by show _ = _; rw [erase_split, flat6_append]
              have HCe : Hid (∀ w', Below W7.heap.size W7 w' → w'.cell? ⟨b11, 0, none⟩ = some (.int .i64 m'.kind) ∧ w'.cell? ⟨b11, 1, none⟩ = some (.int .i64 m'.deal) ∧ w'.cell? ⟨b11, 2, none⟩ = some (.int .i64 m'.shop) ∧ w'.cell? ⟨b11, 3, none⟩ = some (.int .i64 m'.c) ∧ w'.cell? ⟨b11, 4, none⟩ = some (.int .i64 m'.d) ∧ w'.cell? ⟨b11, 5, none⟩ = some (.bool m'.yes) ∧ w'.cell? ⟨g, i * 6, none⟩ = some (.int .i64 m'.kind) ∧ w'.cell? ⟨g, i * 6 + 1, none⟩ = some (.int .i64 m'.deal) ∧ w'.cell? ⟨g, i * 6 + 2, none⟩ = some (.int .i64 m'.shop) ∧ w'.cell? ⟨g, i * 6 + 3, none⟩ = some (.int .i64 m'.c) ∧ w'.cell? ⟨g, i * 6 + 4, none⟩ = some (.int .i64 m'.d) ∧ w'.cell? ⟨g, i * 6 + 5, none⟩ = some (.bool m'.yes)) := fun w' hb => by
                have h := HC7.out.next hb
                have hg := (HV7.out.lt g rfl).2
                exact ⟨h.c0, h.c1, h.c2, h.c3, h.c4, h.c5, ((bcell hb).1 _ _ hg).trans (hcell7 _ _ (hfl 0 _ rfl)), ((bcell hb).1 _ _ hg).trans (hcell7 _ _ (hfl 1 _ rfl)), ((bcell hb).1 _ _ hg).trans (hcell7 _ _ (hfl 2 _ rfl)), ((bcell hb).1 _ _ hg).trans (hcell7 _ _ (hfl 3 _ rfl)), ((bcell hb).1 _ _ hg).trans (hcell7 _ _ (hfl 4 _ rfl)), ((bcell hb).1 _ _ hg).trans (hcell7 _ _ (hfl 5 _ rfl))⟩
              have y1 : W7.cell? ⟨bx, 1, none⟩ = some (.int .i64 n) := hX7.2 1 _ rfl
              have k0 : (0 : Int) ≤ (i : Int) + 1 := by omega
              have k1 : (i : Int) + 1 ≤ (A.length : Int) := by omega
              have k2 : (A.length : Int) ≤ (vc : Int) := by omega
              have k3 : i + 1 ≤ A.length := hk2
              have k4 : i + 1 ≤ vc := by omega
              have k5 : i ≤ vc := by omega
              have k6 : (i : Int) ≤ (vc : Int) := by omega
              have k7 : (0 : Int) ≤ (i : Int) := by omega
              have k8 : (i : Int) < (A.length : Int) := by omega
              have k9 : (0 : Int) < (A.length : Int) := by omega
              have i4 : ((A.length : Int) == 0) = false := by rw [beq_eq_false_iff_ne]; omega
              have hr : IntKind.i64.wrap ((i : Int) + 1) = (i : Int) + 1 := by go_unwrap
              have hqe : ∀ W : World, (Op.equalIn 10000 71 (.agg #[.int .i64 m'.kind, .int .i64 m'.deal, .int .i64 m'.shop, .int .i64 m'.c, .int .i64 m'.d, .bool m'.yes]) (.agg #[.int .i64 m'.kind, .int .i64 m'.deal, .int .i64 m'.shop, .int .i64 m'.c, .int .i64 m'.d, .bool m'.yes])).run Try.prog W = .ok true W := fun W => by rw [eqMl, eqM_iff.2 rfl]
              clear hL6 hX6 hV6 hC6 hb7 hown7 hX7 hV7 hC7 hB7 hcell7 hfl hm' hne hpos
              go_upto_region 42 with fail
              rw [hr9]
              clear hr9 y1
              by_cases hcap : vc = i + 1
              · subst hcap
                have HD0 : Hid (A.drop (i + 1) = []) := List.drop_of_length_le (by omega)
                have HE0 : Hid (flat6 (A.take i) ++ [] = flat6 (A.eraseIdx i)) := by have h := HE.out; rw [HD0.out] at h; exact h
                have kk : (i : Int) ≤ (i : Int) + 1 := by omega
                go_region_held3 (fun _ => True) (trivial)
                  (first | (refine step_append_six (by rfl) (.tmp 159) (.tmp 162) 66 (by rfl) W7.heap.size 71 i0 (.agg #[.int .i64 0, .int .i64 0, .int .i64 0, .int .i64 0, .int .i64 0, .bool false]) 6 48 Try.underlying66 hi hz0 hz1 hz2 rfl (by decide) (.slice none 0 0) 0 [] (by rfl) (World.ownsRow_nil _ _ _ _) ⟨g, 0, none⟩ i (i + 1) (flat6 (A.take i)) (by rfl) HTl.out (fun j u hj => by rw [addr_add]; exact HT9.out j u hj) (flat6_one _) (by have := HA.out; unfold maxLen; omega) (by have := HA.out; omega) (by simp) i (by omega) (flat6 (A.take i)) (by simp) ?_; intro v31 w31 hown31 hgrow31; have HO31 : Hid (w31.ownsRow W7.heap.size 71 6 v31 i (flat6 (A.take i))) := hown31; clear hown31; have hz31 : W7.heap.size ≤ w31.heap.size := Nat.le_trans (by simp) hgrow31.size; have HS31 : Hid (Save (fun _ => False) W7 w31) := (Save.of_below (by go_grown)).grown hgrow31 (fun k e _ => by simp [Value.ownBlock] at e); clear hgrow31) | (refine step_append_six (by rfl) (.tmp 163) (.tmp 167) 66 (by rfl) W7.heap.size 71 i0 (.agg #[.int .i64 0, .int .i64 0, .int .i64 0, .int .i64 0, .int .i64 0, .bool false]) 6 48 Try.underlying66 hi hz0 hz1 hz2 rfl (by decide) v31 i (flat6 (A.take i)) (by rfl) HO31.out ⟨g, 0, none⟩ 0 0 [] (by rfl) rfl (fun j u hj => by simp at hj) (fun u hu => by simp at hu) (by have := HA.out; unfold maxLen; omega) (by have := HA.out; omega) hz31 (A.length - 1) (by omega) (flat6 (A.eraseIdx i)) HE0.out ?_; intro v38 w38 hown38 hgrow38; obtain ⟨ga38, cap38, rfl⟩ := own_slice6 hown38; have HO38 : Hid (w38.ownsRow W7.heap.size 71 6 (.slice ga38 (A.length - 1) cap38) (A.length - 1) (flat6 (A.eraseIdx i))) := hown38; clear hown38; have HS38 : Hid (Below W7.heap.size W7 w38) := (HS31.out.grown hgrow38 (fun k e hk => by have := (HO31.out.lt k e).1; omega)).below (fun _ _ q => q) (Nat.le_refl _); clear hgrow38))
                all_goals
                  have HM1 : Hid (MailsAt w38 ga38 (A.eraseIdx i)) := mails_own HO38.out
                  have HM2 : Hid (MailsAt w38 vn (A.eraseIdx i)) := (mails_own HN7.out).below HS38.out (Nat.le_refl _)
                  have HK : Hid (∀ w', Below w38.heap.size w38 w' → w'.cell? ⟨b11, 0, none⟩ = some (.int .i64 m'.kind) ∧ w'.cell? ⟨b11, 1, none⟩ = some (.int .i64 m'.deal) ∧ w'.cell? ⟨b11, 2, none⟩ = some (.int .i64 m'.shop) ∧ w'.cell? ⟨b11, 3, none⟩ = some (.int .i64 m'.c) ∧ w'.cell? ⟨b11, 4, none⟩ = some (.int .i64 m'.d) ∧ w'.cell? ⟨b11, 5, none⟩ = some (.bool m'.yes) ∧ w'.cell? ⟨g, i * 6, none⟩ = some (.int .i64 m'.kind) ∧ w'.cell? ⟨g, i * 6 + 1, none⟩ = some (.int .i64 m'.deal) ∧ w'.cell? ⟨g, i * 6 + 2, none⟩ = some (.int .i64 m'.shop) ∧ w'.cell? ⟨g, i * 6 + 3, none⟩ = some (.int .i64 m'.c) ∧ w'.cell? ⟨g, i * 6 + 4, none⟩ = some (.int .i64 m'.d) ∧ w'.cell? ⟨g, i * 6 + 5, none⟩ = some (.bool m'.yes) ∧ Below w38.heap.size w38 w') := fun w' hb => by
                    obtain ⟨a0, a1, a2, a3, a4, a5, a6, a7, a8, a9, a10, a11⟩ := HCe.out w' (after HS38.out hb HS38.out.size)
                    exact ⟨a0, a1, a2, a3, a4, a5, a6, a7, a8, a9, a10, a11, hb⟩
                  have HSM : Hid (∀ W : World, Below w38.heap.size w38 W → Calls Try.prog 39 #[.slice ga38 (A.length - 1) cap38, .slice vn (A.length - 1) vm] W fun e w' => e = .returned (.bool true) ∧ Below W.heap.size W w') := fun W hW => same_self (HM1.out.below hW (Nat.le_refl _)) (HM2.out.below hW (Nat.le_refl _)) HAl.out (by have := HA.out; omega)
                  have HB8 : Hid (Below w.heap.size w w38) := after HB7.out HS38.out HB7.out.size
                  clear HO38 HS38 HS31 HO31 hz31
                  go_upto_region 43 with fail
                  go_region_held3 (fun w' => w'.cell? ⟨b11, 0, none⟩ = some (.int .i64 m'.kind) ∧ w'.cell? ⟨b11, 1, none⟩ = some (.int .i64 m'.deal) ∧ w'.cell? ⟨b11, 2, none⟩ = some (.int .i64 m'.shop) ∧ w'.cell? ⟨b11, 3, none⟩ = some (.int .i64 m'.c) ∧ w'.cell? ⟨b11, 4, none⟩ = some (.int .i64 m'.d) ∧ w'.cell? ⟨b11, 5, none⟩ = some (.bool m'.yes) ∧ w'.cell? ⟨g, i * 6, none⟩ = some (.int .i64 m'.kind) ∧ w'.cell? ⟨g, i * 6 + 1, none⟩ = some (.int .i64 m'.deal) ∧ w'.cell? ⟨g, i * 6 + 2, none⟩ = some (.int .i64 m'.shop) ∧ w'.cell? ⟨g, i * 6 + 3, none⟩ = some (.int .i64 m'.c) ∧ w'.cell? ⟨g, i * 6 + 4, none⟩ = some (.int .i64 m'.d) ∧ w'.cell? ⟨g, i * 6 + 5, none⟩ = some (.bool m'.yes) ∧ Below w38.heap.size w38 w')
                    (first | exact HK.out _ (by go_grown))
                    (first | (go_at_call 39; refine Calls.mono (HSM.out _ (by go_grown)) ?_; rintro e w9 ⟨rfl, hb9⟩; have hw9 : Below w38.heap.size w38 w9 := after (by go_grown) hb9 (by simp); have hz9 : w38.heap.size ≤ w9.heap.size := hw9.size))
                  all_goals
                    go_wp2_with fail
                    go_ret
                    exact ⟨by simp, after HB8.out (by go_grown) HB8.out.size⟩
              · go_region_held3 (fun _ => True) (trivial)
                  (first | (refine step_append_six (by rfl) (.tmp 159) (.tmp 162) 66 (by rfl) W7.heap.size 71 i0 (.agg #[.int .i64 0, .int .i64 0, .int .i64 0, .int .i64 0, .int .i64 0, .bool false]) 6 48 Try.underlying66 hi hz0 hz1 hz2 rfl (by decide) (.slice none 0 0) 0 [] (by rfl) (World.ownsRow_nil _ _ _ _) ⟨g, 0, none⟩ i vc (flat6 (A.take i)) (by rfl) HTl.out (fun j u hj => by rw [addr_add]; exact HT9.out j u hj) (flat6_one _) (by have := HA.out; unfold maxLen; omega) (by have := HA.out; omega) (by simp) i (by omega) (flat6 (A.take i)) (by simp) ?_; intro v31 w31 hown31 hgrow31; have HO31 : Hid (w31.ownsRow W7.heap.size 71 6 v31 i (flat6 (A.take i))) := hown31; clear hown31; have hz31 : W7.heap.size ≤ w31.heap.size := Nat.le_trans (by simp) hgrow31.size; have HD31 : Hid (∀ j u, (flat6 (A.drop (i + 1)))[j]? = some u → w31.cell? ((⟨g, (i + 1) * 6, none⟩ : Addr).add j) = some u) := fun j u hj => hgrow31.cell (HD.out j u hj) (by simp [Value.ownBlock]); have HS31 : Hid (Save (fun _ => False) W7 w31) := (Save.of_below (by go_grown)).grown hgrow31 (fun k e _ => by simp [Value.ownBlock] at e); clear hgrow31) | (refine step_append_six (by rfl) (.tmp 163) (.tmp 167) 66 (by rfl) W7.heap.size 71 i0 (.agg #[.int .i64 0, .int .i64 0, .int .i64 0, .int .i64 0, .int .i64 0, .bool false]) 6 48 Try.underlying66 hi hz0 hz1 hz2 rfl (by decide) v31 i (flat6 (A.take i)) (by rfl) HO31.out ⟨g, (i + 1) * 6, none⟩ (A.length - (i + 1)) (vc - (i + 1)) (flat6 (A.drop (i + 1))) (by rfl) HDl.out HD31.out (flat6_one _) (by have := HA.out; unfold maxLen; omega) (by have := HA.out; omega) hz31 (A.length - 1) (by omega) (flat6 (A.eraseIdx i)) HE.out ?_; intro v38 w38 hown38 hgrow38; obtain ⟨ga38, cap38, rfl⟩ := own_slice6 hown38; have HO38 : Hid (w38.ownsRow W7.heap.size 71 6 (.slice ga38 (A.length - 1) cap38) (A.length - 1) (flat6 (A.eraseIdx i))) := hown38; clear hown38; have HS38 : Hid (Below W7.heap.size W7 w38) := (HS31.out.grown hgrow38 (fun k e hk => by have := (HO31.out.lt k e).1; omega)).below (fun _ _ q => q) (Nat.le_refl _); clear hgrow38))
                all_goals
                  have HM1 : Hid (MailsAt w38 ga38 (A.eraseIdx i)) := mails_own HO38.out
                  have HM2 : Hid (MailsAt w38 vn (A.eraseIdx i)) := (mails_own HN7.out).below HS38.out (Nat.le_refl _)
                  have HK : Hid (∀ w', Below w38.heap.size w38 w' → w'.cell? ⟨b11, 0, none⟩ = some (.int .i64 m'.kind) ∧ w'.cell? ⟨b11, 1, none⟩ = some (.int .i64 m'.deal) ∧ w'.cell? ⟨b11, 2, none⟩ = some (.int .i64 m'.shop) ∧ w'.cell? ⟨b11, 3, none⟩ = some (.int .i64 m'.c) ∧ w'.cell? ⟨b11, 4, none⟩ = some (.int .i64 m'.d) ∧ w'.cell? ⟨b11, 5, none⟩ = some (.bool m'.yes) ∧ w'.cell? ⟨g, i * 6, none⟩ = some (.int .i64 m'.kind) ∧ w'.cell? ⟨g, i * 6 + 1, none⟩ = some (.int .i64 m'.deal) ∧ w'.cell? ⟨g, i * 6 + 2, none⟩ = some (.int .i64 m'.shop) ∧ w'.cell? ⟨g, i * 6 + 3, none⟩ = some (.int .i64 m'.c) ∧ w'.cell? ⟨g, i * 6 + 4, none⟩ = some (.int .i64 m'.d) ∧ w'.cell? ⟨g, i * 6 + 5, none⟩ = some (.bool m'.yes) ∧ Below w38.heap.size w38 w') := fun w' hb => by
                    obtain ⟨a0, a1, a2, a3, a4, a5, a6, a7, a8, a9, a10, a11⟩ := HCe.out w' (after HS38.out hb HS38.out.size)
                    exact ⟨a0, a1, a2, a3, a4, a5, a6, a7, a8, a9, a10, a11, hb⟩
                  have HSM : Hid (∀ W : World, Below w38.heap.size w38 W → Calls Try.prog 39 #[.slice ga38 (A.length - 1) cap38, .slice vn (A.length - 1) vm] W fun e w' => e = .returned (.bool true) ∧ Below W.heap.size W w') := fun W hW => same_self (HM1.out.below hW (Nat.le_refl _)) (HM2.out.below hW (Nat.le_refl _)) HAl.out (by have := HA.out; omega)
                  have HB8 : Hid (Below w.heap.size w w38) := after HB7.out HS38.out HB7.out.size
                  clear HO38 HS38 HS31 HO31 hz31
                  go_upto_region 43 with fail
                  go_region_held3 (fun w' => w'.cell? ⟨b11, 0, none⟩ = some (.int .i64 m'.kind) ∧ w'.cell? ⟨b11, 1, none⟩ = some (.int .i64 m'.deal) ∧ w'.cell? ⟨b11, 2, none⟩ = some (.int .i64 m'.shop) ∧ w'.cell? ⟨b11, 3, none⟩ = some (.int .i64 m'.c) ∧ w'.cell? ⟨b11, 4, none⟩ = some (.int .i64 m'.d) ∧ w'.cell? ⟨b11, 5, none⟩ = some (.bool m'.yes) ∧ w'.cell? ⟨g, i * 6, none⟩ = some (.int .i64 m'.kind) ∧ w'.cell? ⟨g, i * 6 + 1, none⟩ = some (.int .i64 m'.deal) ∧ w'.cell? ⟨g, i * 6 + 2, none⟩ = some (.int .i64 m'.shop) ∧ w'.cell? ⟨g, i * 6 + 3, none⟩ = some (.int .i64 m'.c) ∧ w'.cell? ⟨g, i * 6 + 4, none⟩ = some (.int .i64 m'.d) ∧ w'.cell? ⟨g, i * 6 + 5, none⟩ = some (.bool m'.yes) ∧ Below w38.heap.size w38 w')
                    (first | exact HK.out _ (by go_grown))
                    (first | (go_at_call 39; refine Calls.mono (HSM.out _ (by go_grown)) ?_; rintro e w9 ⟨rfl, hb9⟩; have hw9 : Below w38.heap.size w38 w9 := after (by go_grown) hb9 (by simp); have hz9 : w38.heap.size ≤ w9.heap.size := hw9.size))
                  all_goals
                    go_wp2_with fail
                    go_ret
                    exact ⟨by simp, after HB8.out (by go_grown) HB8.out.size⟩
          · by_cases e2 : what = 2
            · subst e2
              clear e0 e1
              have y1 : W4.cell? ⟨bx, 1, none⟩ = some (.int .i64 n) := hX4.2 1 _ rfl
              go_wp2_with fail
              refine Calls.mono (dbl_mlive n hL4 HA.out) ?_
              by_cases hne : A = []
              · subst hne
                rw [dblR_nil]
                rintro e W5 ⟨rfl, hL5, hS5⟩
                have hV5 := own_save HV4.out hS5 (fun k e q => q (.inr e))
                clear hL4 hX4 HV4 y0 y1 hS5
                go_wp2_with fail
                refine Calls.mono (lown_mlive hL5 HA.out) ?_
                rintro e W6 ⟨⟨v6, rfl, hown6⟩, hb6⟩
                obtain ⟨vn, vm, rfl⟩ := own_slice6 hown6
                have HB6 : Hid (Below w.heap.size w W6) := (hL5.next hb6).below
                have HM1 : Hid (MailsAt W6 va []) := mails_own (own_next hV5 hb6)
                have HM2 : Hid (MailsAt W6 vn []) := mails_own hown6
                clear hL5 hb6 hown6 hV5
                go_wp2_with fail
                refine Calls.mono (same_self HM1.out HM2.out rfl HA.out) ?_
                rintro e W7 ⟨rfl, hb7⟩
                go_wp2_with fail
                go_ret
                exact ⟨rfl, after HB6.out hb7 HB6.out.size⟩
              · obtain ⟨m', hm'⟩ := rnd_some n hne
                rw [dblR_some hm']
                by_cases hfull : 40 ≤ A.length
                · rw [sendR_full hfull]
                  rintro e W5 ⟨rfl, hL5, hS5⟩
                  have hV5 := own_save HV4.out hS5 (fun k e q => q (.inr e))
                  clear hL4 hX4 HV4 y0 y1 hfull hS5
                  go_wp2_with fail
                  refine Calls.mono (lown_mlive hL5 HA.out) ?_
                  rintro e W6 ⟨⟨v6, rfl, hown6⟩, hb6⟩
                  obtain ⟨vn, vm, rfl⟩ := own_slice6 hown6
                  have HB6 : Hid (Below w.heap.size w W6) := (hL5.next hb6).below
                  have HM1 : Hid (MailsAt W6 va A) := mails_own (own_next hV5 hb6)
                  have HM2 : Hid (MailsAt W6 vn A) := mails_own hown6
                  clear hL5 hb6 hown6 hV5
                  go_wp2_with fail
                  refine Calls.mono (same_self HM1.out HM2.out rfl HA.out) ?_
                  rintro e W7 ⟨rfl, hb7⟩
                  go_wp2_with fail
                  go_ret
                  exact ⟨rfl, after HB6.out hb7 HB6.out.size⟩
                · rw [sendR_room hfull]
                  rintro e W5 ⟨rfl, hL5, hS5⟩
                  have hV5 := own_save HV4.out hS5 (fun k e q => q (.inr e))
                  have hX5 := hX4.save hS5 (fun q => q (.inl rfl))
                  clear hL4 hX4 HV4 y0 y1 hfull hS5
                  have e1 : (A ++ [m']).length = A.length + 1 := by simp
                  have HA1 : Hid ((A ++ [m']).length < 1000) := by have := HLen.out; show _ < _; rw [e1]; omega
                  go_wp2_with fail
                  refine Calls.mono (lown_mlive hL5 HA1.out) ?_
                  rw [e1]
                  rintro e W6 ⟨⟨v6, rfl, hown6⟩, hb6⟩
                  obtain ⟨vn, vm, rfl⟩ := own_slice6 hown6
                  have hL6 := hL5.next hb6
                  have hX6 := hX5.next hb6
                  have hV6 := own_next hV5 hb6
                  clear hL5 hX5 hV5 hb6
                  have y0 : W6.cell? ⟨bx, 0, none⟩ = some (.int .i64 2) := hX6.2 0 _ rfl
                  have y2 : W6.cell? ⟨bx, 2, none⟩ = some (.int .i64 m.kind) := hX6.2 2 _ rfl
                  have y3 : W6.cell? ⟨bx, 3, none⟩ = some (.int .i64 m.deal) := hX6.2 3 _ rfl
                  have y4 : W6.cell? ⟨bx, 4, none⟩ = some (.int .i64 m.shop) := hX6.2 4 _ rfl
                  have y5 : W6.cell? ⟨bx, 5, none⟩ = some (.int .i64 m.c) := hX6.2 5 _ rfl
                  have y6 : W6.cell? ⟨bx, 6, none⟩ = some (.int .i64 m.d) := hX6.2 6 _ rfl
                  have y7 : W6.cell? ⟨bx, 7, none⟩ = some (.bool m.yes) := hX6.2 7 _ rfl
                  go_upto_region 28 with fail
                  have hb6 : Below W6.heap.size W6 (W6.alloc (.cells #[.int .i64 m.kind, .int .i64 m.deal, .int .i64 m.shop, .int .i64 m.c, .int .i64 m.d, .bool m.yes] 71)) := (Below.refl _ _).alloc (Nat.le_refl _) _
                  have hC7 := Box6.new W6 m
                  have hX7 := hX6.next hb6
                  have hB7 := (hL6.next hb6).below
                  have hown7 := own_next hown6 hb6
                  have hV7 := own_next hV6 hb6
                  have hb10 : ∀ k, (Value.slice vn (A.length + 1) vm).ownBlock = some k ∨ (Value.slice va A.length vc).ownBlock = some k ∨ k = bx → k < W6.heap.size := fun k e => by
                    rcases e with e | e | e
                    · exact (hown6.lt k e).2
                    · exact (hV6.lt k e).2
                    · rw [e]; exact hX6.1
                  generalize (W6.alloc (.cells #[.int .i64 m.kind, .int .i64 m.deal, .int .i64 m.shop, .int .i64 m.c, .int .i64 m.d, .bool m.yes] 71)) = W7 at *
                  have HWB : Hid (w.heap.size ≤ W6.heap.size) := hL6.below.size
                  generalize W6.heap.size = b10 at hC7 hb10 HWB ⊢
                  have hpos : 0 < A.length := List.length_pos_iff.2 hne
                  clear hL6 hX6 hown6 hV6 hb6 y0 y2 y3 y4 y5 y6 y7 e1 HA1
                  obtain ⟨g7, cap7, eg⟩ := own_some hV7 (by omega)
                  simp only [Value.slice.injEq, true_and] at eg
                  obtain ⟨rfl, rfl⟩ := eg
                  obtain ⟨_, _, hnc, _, hcell⟩ := own_row hV7
                  have hfl := flat6_at A _ m' hm'
                  have hk2 := rnd_lt n hpos
                  have hr := rnd_wrap n A.length hpos HA.out
                  generalize rnd n A.length = kk at *
                  have q0 : W7.cell? ⟨g7, kk * 6, none⟩ = some (.int .i64 m'.kind) := hcell _ _ (hfl 0 _ rfl)
                  have q1 : W7.cell? ⟨g7, kk * 6 + 1, none⟩ = some (.int .i64 m'.deal) := hcell _ _ (hfl 1 _ rfl)
                  have q2 : W7.cell? ⟨g7, kk * 6 + 2, none⟩ = some (.int .i64 m'.shop) := hcell _ _ (hfl 2 _ rfl)
                  have q3 : W7.cell? ⟨g7, kk * 6 + 3, none⟩ = some (.int .i64 m'.c) := hcell _ _ (hfl 3 _ rfl)
                  have q4 : W7.cell? ⟨g7, kk * 6 + 4, none⟩ = some (.int .i64 m'.d) := hcell _ _ (hfl 4 _ rfl)
                  have q5 : W7.cell? ⟨g7, kk * 6 + 5, none⟩ = some (.bool m'.yes) := hcell _ _ (hfl 5 _ rfl)
                  have y0 : W7.cell? ⟨bx, 0, none⟩ = some (.int .i64 2) := hX7.2 0 _ rfl
                  have y1 : W7.cell? ⟨bx, 1, none⟩ = some (.int .i64 n) := hX7.2 1 _ rfl
                  have i1 : (0 : Int) ≤ (kk : Int) := by omega
                  have i2 : (kk : Int) < (A.length : Int) := by omega
                  have i3 : (0 : Int) < (A.length : Int) := by omega
                  have i4 : ((A.length : Int) == 0) = false := by rw [beq_eq_false_iff_ne]; omega
                  obtain ⟨_, u0, u1, u2, u3, u4, u5, ul⟩ := hC7
                  have HC7 : Hid (Box6 W7 b10 m) := ⟨by assumption, u0, u1, u2, u3, u4, u5, ul⟩
                  go_upto_region 32 with fail
                  have hs7 : Save (fun k => k = b10) W7 (put6 W7 b10 m') := (Save.refl _ _).put6 (fun _ => rfl)
                  have hC8 := HC7.out.put m'
                  have hown8 := own_save hown7 hs7 (fun k e q => by have := hb10 k (.inl e); omega)
                  have hV8 := own_save hV7 hs7 (fun k e q => by have := hb10 k (.inr (.inl e)); omega)
                  have hB8 : Below w.heap.size w (put6 W7 b10 m') := below_put6 hB7 HWB.out
                  change Box6 ((((((W7.setCell ⟨b10, 0, none⟩ (.int .i64 m'.kind)).setCell ⟨b10, 1, none⟩ (.int .i64 m'.deal)).setCell ⟨b10, 2, none⟩ (.int .i64 m'.shop)).setCell ⟨b10, 3, none⟩ (.int .i64 m'.c)).setCell ⟨b10, 4, none⟩ (.int .i64 m'.d)).setCell ⟨b10, 5, none⟩ (.bool m'.yes)) b10 m' at hC8
                  change World.ownsRow ((((((W7.setCell ⟨b10, 0, none⟩ (.int .i64 m'.kind)).setCell ⟨b10, 1, none⟩ (.int .i64 m'.deal)).setCell ⟨b10, 2, none⟩ (.int .i64 m'.shop)).setCell ⟨b10, 3, none⟩ (.int .i64 m'.c)).setCell ⟨b10, 4, none⟩ (.int .i64 m'.d)).setCell ⟨b10, 5, none⟩ (.bool m'.yes)) _ _ _ _ _ _ at hown8
                  change World.ownsRow ((((((W7.setCell ⟨b10, 0, none⟩ (.int .i64 m'.kind)).setCell ⟨b10, 1, none⟩ (.int .i64 m'.deal)).setCell ⟨b10, 2, none⟩ (.int .i64 m'.shop)).setCell ⟨b10, 3, none⟩ (.int .i64 m'.c)).setCell ⟨b10, 4, none⟩ (.int .i64 m'.d)).setCell ⟨b10, 5, none⟩ (.bool m'.yes)) _ _ _ _ _ _ at hV8
                  change Below w.heap.size w ((((((W7.setCell ⟨b10, 0, none⟩ (.int .i64 m'.kind)).setCell ⟨b10, 1, none⟩ (.int .i64 m'.deal)).setCell ⟨b10, 2, none⟩ (.int .i64 m'.shop)).setCell ⟨b10, 3, none⟩ (.int .i64 m'.c)).setCell ⟨b10, 4, none⟩ (.int .i64 m'.d)).setCell ⟨b10, 5, none⟩ (.bool m'.yes)) at hB8
                  generalize ((((((W7.setCell ⟨b10, 0, none⟩ (.int .i64 m'.kind)).setCell ⟨b10, 1, none⟩ (.int .i64 m'.deal)).setCell ⟨b10, 2, none⟩ (.int .i64 m'.shop)).setCell ⟨b10, 3, none⟩ (.int .i64 m'.c)).setCell ⟨b10, 4, none⟩ (.int .i64 m'.d)).setCell ⟨b10, 5, none⟩ (.bool m'.yes)) = W8 at *
                  clear hX7 hB7 hown7 hV7 hcell hfl hm' hne q0 q1 q2 q3 q4 q5 y0 y1 u0 u1 u2 u3 u4 u5 ul HC7 hs7 hb10
                  have hmem : (A ++ [m'])[A.length]? = some m' := by simp
                  have hfl := flat6_at (A ++ [m']) A.length m' hmem
                  obtain ⟨g9, cap9, eg⟩ := own_some hown8 (by omega)
                  simp only [Value.slice.injEq, true_and] at eg
                  obtain ⟨rfl, rfl⟩ := eg
                  obtain ⟨_, _, hnc, _, hcell⟩ := own_row hown8
                  have hg9 := (hown8.lt g9 rfl).2
                  have htk : (A ++ [m']).take A.length = A := by simp
                  have HM1 : Hid (MailsAt W8 (some ⟨g9, 0, none⟩) A) := by
                    have h := mails_own (own_take hown8 (by simp) (Nat.le_succ A.length))
                    rw [htk] at h
                    exact h
                  have HM2 : Hid (MailsAt W8 (some ⟨g7, 0, none⟩) A) := mails_own hV8
                  have HK : Hid (∀ w', Below W8.heap.size W8 w' → w'.cell? ⟨g9, A.length * 6, none⟩ = some (.int .i64 m'.kind) ∧ w'.cell? ⟨g9, A.length * 6 + 1, none⟩ = some (.int .i64 m'.deal) ∧ w'.cell? ⟨g9, A.length * 6 + 2, none⟩ = some (.int .i64 m'.shop) ∧ w'.cell? ⟨g9, A.length * 6 + 3, none⟩ = some (.int .i64 m'.c) ∧ w'.cell? ⟨g9, A.length * 6 + 4, none⟩ = some (.int .i64 m'.d) ∧ w'.cell? ⟨g9, A.length * 6 + 5, none⟩ = some (.bool m'.yes) ∧ w'.cell? ⟨b10, 0, none⟩ = some (.int .i64 m'.kind) ∧ w'.cell? ⟨b10, 1, none⟩ = some (.int .i64 m'.deal) ∧ w'.cell? ⟨b10, 2, none⟩ = some (.int .i64 m'.shop) ∧ w'.cell? ⟨b10, 3, none⟩ = some (.int .i64 m'.c) ∧ w'.cell? ⟨b10, 4, none⟩ = some (.int .i64 m'.d) ∧ w'.cell? ⟨b10, 5, none⟩ = some (.bool m'.yes) ∧ Below W8.heap.size W8 w') := fun w' hb => ⟨((bcell hb).1 _ _ hg9).trans (hcell _ _ (hfl 0 _ rfl)), ((bcell hb).1 _ _ hg9).trans (hcell _ _ (hfl 1 _ rfl)), ((bcell hb).1 _ _ hg9).trans (hcell _ _ (hfl 2 _ rfl)), ((bcell hb).1 _ _ hg9).trans (hcell _ _ (hfl 3 _ rfl)), ((bcell hb).1 _ _ hg9).trans (hcell _ _ (hfl 4 _ rfl)), ((bcell hb).1 _ _ hg9).trans (hcell _ _ (hfl 5 _ rfl)), (hC8.next hb).c0, (hC8.next hb).c1, (hC8.next hb).c2, (hC8.next hb).c3, (hC8.next hb).c4, (hC8.next hb).c5, hb⟩
                  have HSM : Hid (∀ W : World, Below W8.heap.size W8 W → Calls Try.prog 39 #[.slice (some ⟨g9, 0, none⟩) A.length vm, .slice (some ⟨g7, 0, none⟩) A.length vc] W fun e w' => e = .returned (.bool true) ∧ Below W.heap.size W w') := fun W hW => same_self (HM1.out.below hW (Nat.le_refl _)) (HM2.out.below hW (Nat.le_refl _)) rfl HA.out
                  have hqe : ∀ W : World, (Op.equalIn 10000 71 (.agg #[.int .i64 m'.kind, .int .i64 m'.deal, .int .i64 m'.shop, .int .i64 m'.c, .int .i64 m'.d, .bool m'.yes]) (.agg #[.int .i64 m'.kind, .int .i64 m'.deal, .int .i64 m'.shop, .int .i64 m'.c, .int .i64 m'.d, .bool m'.yes])).run Try.prog W = .ok true W := fun W => by rw [eqMl, eqM_iff.2 rfl]
                  have n0 : A.length ≤ vm := by omega
                  have n1 : (A.length : Int) ≤ (vm : Int) := by omega
                  have n2 : (0 : Int) ≤ (A.length : Int) := by omega
                  have n3 : (A.length : Int) < ((A.length + 1 : Nat) : Int) := by omega
                  have n4 : (((A.length + 1 : Nat) : Int) == (A.length : Int) + 1) = true := by simp
                  have n5 : ((A.length + 1 : Nat) : Int) = (A.length : Int) + 1 := by simp
                  have n6 : (A.length : Int) < (A.length : Int) + 1 := by omega
                  have n7 : IntKind.i64.wrap ((A.length : Int) + 1) = (A.length : Int) + 1 := by go_unwrap
                  have HB8 : Hid (Below w.heap.size w W8) := hB8
                  clear hown8 hV8 hC8 hcell hfl hmem hB8 htk n5
                  go_upto_region 32 with fail
                  go_region_held3 (fun w' => w'.cell? ⟨g9, A.length * 6, none⟩ = some (.int .i64 m'.kind) ∧ w'.cell? ⟨g9, A.length * 6 + 1, none⟩ = some (.int .i64 m'.deal) ∧ w'.cell? ⟨g9, A.length * 6 + 2, none⟩ = some (.int .i64 m'.shop) ∧ w'.cell? ⟨g9, A.length * 6 + 3, none⟩ = some (.int .i64 m'.c) ∧ w'.cell? ⟨g9, A.length * 6 + 4, none⟩ = some (.int .i64 m'.d) ∧ w'.cell? ⟨g9, A.length * 6 + 5, none⟩ = some (.bool m'.yes) ∧ w'.cell? ⟨b10, 0, none⟩ = some (.int .i64 m'.kind) ∧ w'.cell? ⟨b10, 1, none⟩ = some (.int .i64 m'.deal) ∧ w'.cell? ⟨b10, 2, none⟩ = some (.int .i64 m'.shop) ∧ w'.cell? ⟨b10, 3, none⟩ = some (.int .i64 m'.c) ∧ w'.cell? ⟨b10, 4, none⟩ = some (.int .i64 m'.d) ∧ w'.cell? ⟨b10, 5, none⟩ = some (.bool m'.yes) ∧ Below W8.heap.size W8 w')
                    (first | exact HK.out _ (by go_grown))
                    (first | (go_at_call 39; refine Calls.mono (HSM.out _ (by go_grown)) ?_; rintro e w9 ⟨rfl, hb9⟩; have hw9 : Below W8.heap.size W8 w9 := after (by go_grown) hb9 (by simp); have hz9 : W8.heap.size ≤ w9.heap.size := hw9.size))
                  all_goals
                    go_wp2_with fail
                    go_ret
                    exact ⟨by simp, after HB8.out (by go_grown) HB8.out.size⟩
            · have e0' : (what == 0) = false := by simpa using e0
              have e1' : (what == 1) = false := by simpa using e1
              have e2' : (what == 2) = false := by simpa using e2
              clear e0 e1 e2
              go_wp2_with fail
              go_ret
              exact ⟨rfl, hL4.below⟩

end Go.Proofs.Ytbgnajcmhmpjlab
