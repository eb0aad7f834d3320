/- For every list of steps: the statement BrokerDue of the program returns true, and its arguments read as before (no condition). -/
import Derived.Deep.CutBlock
import Derived.Test.YtbgnajcmhmpjlabRows
import Derived.Test.YtbgnajcmhmpjlabH4

/- The walk of BrokerDue: it answers true, whatever it is given. -/
namespace Go.Proofs.Ytbgnajcmhmpjlab
open Go.RowKit

theorem sum_append : ∀ (a b : List Dl), sumShops (a ++ b) = sumShops a + sumShops b
  | [], b => by simp [sumShops]
  | x :: r, b => by
    simp only [List.cons_append, sumShops, sum_append r b]
    omega
theorem sum_next {L : List Dl} {k : Nat} {D : Dl} (h : L[k]? = some D) : sumShops (L.take (k + 1)) = sumShops (L.take k) + (shopsL D.w).length := by
  rw [take_snoc h, sum_append]
  simp [sumShops]
theorem sum_crash : ∀ (L : List Dl), sumShops (L.map crashD) = sumShops L
  | [] => rfl
  | x :: r => by
    simp only [List.map_cons, sumShops, sum_crash r]
    rfl
theorem sum_le : ∀ (L : List Dl), sumShops L ≤ 3 * L.length
  | [] => by simp [sumShops]
  | x :: r => by
    have h1 := sum_le r
    have h2 : (shopsL x.w).length ≤ 3 := shopsTo_length x.w 3
    simp only [sumShops, List.length_cons]
    omega
/-- The six cells of a mail in a list. -/
structure Mail6 (w : World) (b o : Nat) (m : Ml) : Prop where
  c0 : w.cell? ⟨b, o, none⟩ = some (.int .i64 m.kind)
  c1 : w.cell? ⟨b, o + 1, none⟩ = some (.int .i64 m.deal)
  c2 : w.cell? ⟨b, o + 2, none⟩ = some (.int .i64 m.shop)
  c3 : w.cell? ⟨b, o + 3, none⟩ = some (.int .i64 m.c)
  c4 : w.cell? ⟨b, o + 4, none⟩ = some (.int .i64 m.d)
  c5 : w.cell? ⟨b, o + 5, none⟩ = some (.bool m.yes)
  lt : b < w.heap.size
theorem Mail6.next {w w1 : World} {b o : Nat} {m : Ml} (h : Mail6 w b o m) (hb : Below w.heap.size w w1) : Mail6 w1 b o m := by
  have q : ∀ j, w1.cell? ⟨b, j, none⟩ = w.cell? ⟨b, j, none⟩ := fun j => (bcell hb).1 _ _ h.lt
  exact ⟨(q _).trans h.c0, (q _).trans h.c1, (q _).trans h.c2, (q _).trans h.c3, (q _).trans h.c4, (q _).trans h.c5, Nat.lt_of_lt_of_le h.lt hb.size⟩
theorem mail6_at {w : World} {la : Option Addr} {l : List Ml} (h : MailsAt w la l) {k : Nat} {m : Ml} (hk : l[k]? = some m) : ∃ b off, la = some ⟨b, off, none⟩ ∧ Mail6 w b (off + k * 6) m := by
  obtain ⟨b, off, e, hb, hc⟩ := h k m hk
  exact ⟨b, off, e, hc 0 _ rfl, hc 1 _ rfl, hc 2 _ rfl, hc 3 _ rfl, hc 4 _ rfl, hc 5 _ rfl, hb⟩

set_option maxHeartbeats 8000000 in
set_option maxRecDepth 100000 in
theorem due_walk (la : Option Addr) (ll lc : Nat) (l : List BSp) (w : World) (hl : BStAt w la l) (hll : l.length = ll) :
    Calls Try.prog 14 #[.slice la ll lc] w fun e w' => e = .returned (.bool true) ∧ Below w.heap.size w w' := by
  have HL : Hid (BStAt w la l) := hl
  have HLl : Hid (l.length = ll) := hll
  go_enter Try.func14, Try.ntmps14
  go_wp2_with fail
  refine Calls.mono (rbegun_any w) ?_
  rintro e w1 ⟨rfl, hb1⟩
  have HL1 : Hid (BStAt w1 la l) := fun k x hk => by
    obtain ⟨b, off, sa, sc, e, hb, hw, hc⟩ := HL.out k x hk
    exact ⟨b, off, sa, sc, e, Nat.lt_of_lt_of_le hb hb1.size, hw.below hb1 (Nat.le_refl _), fun j v hj => ((bcell hb1).1 _ _ hb).trans (hc j v hj)⟩
  have HB1 : Hid (Below w.heap.size w w1) := hb1
  clear hl hll hb1 HL
  go_wp2_with fail
  refine Calls.mono (great_any la ll lc l w1 HL1.out HLl.out) ?_
  rintro e w1' ⟨⟨gr, rfl, hgr⟩, rfl⟩
  cases gr with
  | true =>
    go_wp2_with fail
    go_ret
    exact ⟨rfl, HB1.out⟩
  | false =>
    have h150 := hgr rfl
    have h150' : (ll : Int) ≤ 150 := by omega
    clear hgr h150
    have HNw : Hid _ := new_rlv w1'
    go_wp2_with fail
    refine Calls.mono HNw.out ?_
    rintro e w2 ⟨q, rfl, hL2, _⟩
    clear HNw
    generalize w1' = w1 at *
    go_upto_region 7 with fail
    have hQ3 := RQ.of_live (hL2.less (Z' := fun _ => False) (fun k hk => hk.elim))
    generalize (w2.alloc (.cells #[.slice none 0 0, .slice none 0 0] 101)) = w3 at hQ3 ⊢
    generalize w2.heap.size = p at hQ3 ⊢
    clear hL2
    go_wp2_with fail
    go_loopg [5] ll (fun g s5 wr => ∃ (k : Nat) (B : Bok), k ≤ ll ∧ g = ll - k ∧ s5 = .int .i64 k ∧ RQ w1 (fun _ => False) wr q p B B)
    case atStart => exact ⟨0, ⟨[], []⟩, Nat.zero_le _, rfl, rfl, hQ3⟩
    case round =>
      obtain ⟨k, B, hk, rfl, rfl, hQ⟩ := hrel
      clear hQ3
      by_cases hlt : k < ll
      · have j0 : (0 : Int) ≤ (k : Int) := by omega
        have j1 : (k : Int) < (ll : Int) := by omega
        obtain ⟨x, hx⟩ : ∃ x, l[k]? = some x := ⟨_, List.getElem?_eq_getElem (by have := HLl.out; omega)⟩
        obtain ⟨b, off, sa, sc, rfl, hbl, hWx, hcx⟩ := HL1.out k x hx
        have HKL : Hid (k < ll) := hlt
        have hr4 : IntKind.i64.wrap ((k : Int) + 1) = (k : Int) + 1 := by go_unwrap
        have c : ∀ j v, (bcells x (.slice sa x.w.length sc))[j]? = some v → wr.cell? ⟨b, off + k * 10 + j, none⟩ = some v := fun j v hj => ((bcell hQ.below).1 _ _ hbl).trans (hcx j v hj)
        have p0 : wr.cell? ⟨b, off + k * 10, none⟩ = some (.int .i64 x.what) := c 0 _ rfl
        have p1 : wr.cell? ⟨b, off + k * 10 + 1, none⟩ = some (.int .i64 x.n) := c 1 _ rfl
        have p2 : wr.cell? ⟨b, off + k * 10 + 2, none⟩ = some (.slice sa x.w.length sc) := c 2 _ rfl
        have p3 : wr.cell? ⟨b, off + k * 10 + 3, none⟩ = some (.int .i64 x.m.kind) := c 3 _ rfl
        have p4 : wr.cell? ⟨b, off + k * 10 + 4, none⟩ = some (.int .i64 x.m.deal) := c 4 _ rfl
        have p5 : wr.cell? ⟨b, off + k * 10 + 5, none⟩ = some (.int .i64 x.m.shop) := c 5 _ rfl
        have p6 : wr.cell? ⟨b, off + k * 10 + 6, none⟩ = some (.int .i64 x.m.c) := c 6 _ rfl
        have p7 : wr.cell? ⟨b, off + k * 10 + 7, none⟩ = some (.int .i64 x.m.d) := c 7 _ rfl
        have p8 : wr.cell? ⟨b, off + k * 10 + 8, none⟩ = some (.bool x.m.yes) := c 8 _ rfl
        have p9 : wr.cell? ⟨b, off + k * 10 + 9, none⟩ = some (.bool x.yes) := c 9 _ rfl
        have HBs : Hid _ := bstep_any w1 (fun _ => False) q p B x sa sc wr hQ hWx
        clear hx hk hlt hWx hcx c hQ hbl
        go_wp2_with fail
        refine Calls.mono HBs.out ?_
        rintro e w5 ⟨rfl, hT5⟩
        have HQ5 : Hid _ := hT5.1
        clear hT5 HBs p0 p1 p2 p3 p4 p5 p6 p7 p8 p9
        go_wp2_with fail
        go_roundg (ll - (k + 1))
        case measure => have := HKL.out; omega
        case rel => exact ⟨k + 1, _, HKL.out, rfl, by simp, HQ5.out⟩
      · have hkk : ¬ (k : Int) < (ll : Int) := by omega
        have HR : Hid (RLv w1 (fun _ => False) wr q B) := hQ.brk
        have HB9 : Hid (Below w.heap.size w wr) := after HB1.out hQ.below HB1.out.size
        have HD : Hid _ := due_rlv HR.out
        obtain ⟨dl, hdl⟩ : ∃ dl, dl = dueR B := ⟨_, rfl⟩
        rw [← hdl] at HD
        have HDl : Hid (dl = dueR B) := hdl
        have HRm : Hid (dl.length ≤ 32) := by show _ ≤ _; rw [hdl]; exact due_room HR.out.inv
        have d32 : (dl.length : Int) ≤ 32 := by have := HRm.out; omega
        clear hQ hk hlt hdl
        go_wp2_with fail
        refine Calls.mono HD.out ?_
        rintro e w5 ⟨⟨vd, rfl, hrd⟩, hb5⟩
        obtain ⟨gd, capd, rfl, hMd, _⟩ := mails_of_own hrd
        have HMd : Hid (MailsAt w5 gd dl) := hMd
        have HR5 : Hid (RLv w1 (fun _ => False) w5 q B) := HR.out.next hb5
        have HB5 : Hid (Below w.heap.size w w5) := after HB9.out hb5 HB9.out.size
        clear hrd hMd hb5 HD HR HB9
        go_wp2_with fail
        go_loopg [7, 8, 9, 10, 11] dl.length (fun g s7 _ _ _ _ wx => ∃ i : Nat, i ≤ dl.length ∧ g = dl.length - i ∧ s7 = .int .i64 i ∧ Below w5.heap.size w5 wx)
        case atStart => exact ⟨0, Nat.zero_le _, rfl, rfl, Below.refl _ _⟩
        case round =>
          obtain ⟨i, hi, rfl, rfl, hS⟩ := hrel
          have HR6 : Hid (RLv w1 (fun _ => False) wr q B) := HR5.out.next hS
          have HS : Hid (Below w5.heap.size w5 wr) := hS
          by_cases hil : i < dl.length
          · obtain ⟨m, hm⟩ : ∃ m, dl[i]? = some m := ⟨_, List.getElem?_eq_getElem hil⟩
            obtain ⟨bd, od, rfl, h6⟩ := mail6_at (HMd.out.below hS (Nat.le_refl _)) hm
            have HM : Hid (dl[i]? = some m) := hm
            obtain ⟨D, hdD, hcs⟩ := due_is (B := B) (m := m) (by rw [← HDl.out]; exact List.mem_of_getElem? hm)
            have HIL : Hid (i < dl.length) := hil
            have HCs : Hid _ := hcs
            have HF : Hid (D.w.length ≤ 4) := (HR6.out.inv.fit D (dealAt_mem hdD)).few
            have HWn : Hid _ := wants_rlv m.deal HR6.out
            rw [wantsR_some hdD] at HWn
            have HSt : Hid (∀ W, Below wr.heap.size wr W → Calls Try.prog 54 #[.pointer (some ⟨q, 0, none⟩), .int .i64 m.deal] W fun e w' => e = .returned (.int .i64 D.st) ∧ w' = W) := fun W hW => by
              have := state_rlv m.deal (HR6.out.next hW)
              rw [stR_some hdD] at this
              exact this
            have HD3 : Hid (D.st = 0 ∨ D.st = 1 ∨ D.st = 2) := HR6.out.inv.st D (dealAt_mem hdD)
            have i0 : (0 : Int) ≤ (i : Int) := by omega
            have i1 : (i : Int) < (dl.length : Int) := by omega
            have hr4 : IntKind.i64.wrap ((i : Int) + 1) = (i : Int) + 1 := by go_unwrap
            have p1 := h6.c1
            clear hm hil hi hcs hdD hS
            go_wp2_with fail
            refine Calls.mono HWn.out ?_
            rintro e w6 ⟨⟨vw, rfl, hrw⟩, hb6⟩
            obtain ⟨gw, capw, rfl, hWw, _⟩ := wants_of_own hrw
            have HWw : Hid (WantsAt w6 gw D.w) := hWw
            have h66 := h6.next hb6
            have HB6 : Hid (Below wr.heap.size wr w6) := hb6
            clear hrw hWw hb6 HWn h6 p1
            have p1 := h66.c1
            go_wp2_with fail
            refine Calls.mono (HSt.out _ HB6.out) ?_
            rintro e w7 ⟨rfl, rfl⟩
            go_upto_block 4 with fail
            go_cut [9] (fun _ wx => Below w7.heap.size w7 wx)
            case first =>
              have hbd := h66.lt
              by_cases hst : D.st = 0
              · have hst' : (D.st == 0) = true := by simp [hst]
                obtain ⟨_, hk1, hmem, hsh, hyn⟩ | ⟨hne, _⟩ := HCs.out
                case inr => exact absurd hst hne
                have k1 : (m.kind != 1) = false := by simp [hk1]
                have k2 : (m.shop != shp m.c) = false := by simp [hsh]
                have p5 := h66.c5
                rw [hyn] at p5
                have HMem : Hid ((m.c, m.d) ∈ D.w) := hmem
                have H66 : Hid (Mail6 w7 bd (od + i * 6) m) := h66
                have HP5 : Hid (w7.cell? ⟨bd, od + i * 6 + 5, none⟩ = some (.bool false)) := p5
                clear hst hk1 hmem hsh hyn p5 p1
                go_wp2_with fail
                go_loopg [9, 10] D.w.length (fun g s9 s10 wx => ∃ (j : Nat) (hit : Bool), j ≤ D.w.length ∧ g = D.w.length - j ∧ s9 = .bool hit ∧ s10 = .int .i64 j ∧ Hid (hit = decide ((m.c, m.d) ∈ D.w.take j)) ∧ Below w7.heap.size w7 wx)
                case atStart => exact ⟨0, false, Nat.zero_le _, rfl, rfl, rfl, by simp [Hid], Below.refl _ _⟩
                case round =>
                  obtain ⟨j, hit, hj, rfl, rfl, rfl, HT, hSj⟩ := hrel
                  by_cases hjl : j < D.w.length
                  · obtain ⟨⟨a, b⟩, hab⟩ : ∃ x, D.w[j]? = some x := ⟨_, List.getElem?_eq_getElem hjl⟩
                    obtain ⟨bw, ow, rfl, hbw, e0, e1⟩ := HWw.out j a b hab
                    have q0 : wr.cell? ⟨bw, ow + j * 2, none⟩ = some (.int .i64 a) := ((bcell hSj).1 _ _ hbw).trans e0
                    have q1 : wr.cell? ⟨bw, ow + j * 2 + 1, none⟩ = some (.int .i64 b) := ((bcell hSj).1 _ _ hbw).trans e1
                    have h67 := H66.out.next hSj
                    have p3 := h67.c3
                    have p4 := h67.c4
                    have j0 : (0 : Int) ≤ (j : Int) := by omega
                    have j1 : (j : Int) < (D.w.length : Int) := by omega
                    have j2 : (D.w.length : Int) ≤ 4 := by have := HF.out; omega
                    have HJ : Hid (j < D.w.length) := hjl
                    have hr6 : IntKind.i64.wrap ((j : Int) + 1) = (j : Int) + 1 := by go_unwrap
                    have HN : Hid (decide ((m.c, m.d) ∈ D.w.take (j + 1)) = (decide ((m.c, m.d) ∈ D.w.take j) || (a == m.c && b == m.d))) := by
                      show _ = _
                      rw [take_snoc hab, Bool.eq_iff_iff]
                      simp only [decide_eq_true_eq, Bool.or_eq_true, List.mem_append, List.mem_singleton, Bool.and_eq_true, beq_iff_eq, Prod.mk.injEq]
                      exact ⟨fun h => h.imp id (fun e => ⟨e.1.symm, e.2.symm⟩), fun h => h.imp id (fun e => ⟨e.1.symm, e.2.symm⟩)⟩
                    clear e0 e1 hab hjl hj h67
                    cases hit with
                    | true =>
                      have HT2 : Hid (true = decide ((m.c, m.d) ∈ D.w.take (j + 1))) := by show _ = _; rw [HN.out, ← HT.out]; rfl
                      go_wp2_with fail
                      go_quiet (fail)
                      go_wp2_with fail
                      go_roundg (D.w.length - (j + 1))
                      case measure => have := HJ.out; omega
                      case rel => exact ⟨j + 1, true, HJ.out, rfl, rfl, by simp, HT2, bdrewN hSj _⟩
                    | false =>
                      have HT2 : Hid ((a == m.c && b == m.d) = decide ((m.c, m.d) ∈ D.w.take (j + 1))) := by show _ = _; rw [HN.out, ← HT.out]; rfl
                      have hq1 : ∀ W : World, (Op.equalIn 10000 69 (.agg #[.int .i64 a, .int .i64 b]) (.agg #[.int .i64 m.c, .int .i64 m.d])).run Try.prog W = .ok (a == m.c && b == m.d) W := fun W => eqWn a b m.c m.d W
                      generalize (a == m.c && b == m.d) = hb at HT2 hq1
                      go_wp2_with fail
                      go_quiet (fail)
                      go_wp2_with fail
                      go_roundg (D.w.length - (j + 1))
                      case measure => have := HJ.out; omega
                      case rel => exact ⟨j + 1, hb, HJ.out, rfl, rfl, by simp, HT2, bdrewN hSj _⟩
                  · have hjj : j = D.w.length := by omega
                    subst hjj
                    have hht : hit = true := by
                      have h1 := HT.out
                      rw [List.take_of_length_le (Nat.le_refl _), decide_eq_true HMem.out] at h1
                      exact h1
                    subst hht
                    have h67 := H66.out.next hSj
                    have p0 := h67.c0
                    have p2 := h67.c2
                    have p3 := h67.c3
                    have p5 : wr.cell? ⟨bd, od + i * 6 + 5, none⟩ = some (.bool false) := ((bcell hSj).1 _ _ hbd).trans HP5.out
                    clear hj hjl h67
                    go_wp2_with fail
                    go_quiet ((go_at_call 59; exact Calls.quiet_of_same (shop_any _ _)))
                    go_wp2_with fail
                    go_meet
                    case rel => exact bdrewN hSj _
              · have hst' : (D.st == 0) = false := by simpa using hst
                obtain ⟨hz, _⟩ | ⟨_, hk3, hyy, hsh, _⟩ := HCs.out
                case inl => exact absurd hz hst
                have k3 : (m.kind != 3) = false := by simp [hk3]
                have HSh : Hid (∀ W, Below w7.heap.size w7 W → Calls Try.prog 60 #[.slice gw D.w.length capw] W fun e w' => (∃ ga cap, e = .returned (.slice ga (shopsL D.w).length cap) ∧ NumsAt w' ga (shopsL D.w)) ∧ Below W.heap.size W w') := fun W hW => shops_any gw D.w.length capw D.w W (HWw.out.below hW (Nat.le_refl _)) rfl (by have := HF.out; omega)
                have HLs : Hid ((shopsL D.w).length ≤ 3) := shopsTo_length D.w 3
                have HIn : Hid (∀ (ga : Option Addr) (cap : Nat) (W : World), NumsAt W ga (shopsL D.w) → Calls Try.prog 58 #[.slice ga (shopsL D.w).length cap, .int .i64 m.shop] W fun e w' => e = .returned (.bool true) ∧ w' = W) := fun ga cap W hA => by
                  have := in_any ga (shopsL D.w).length cap (shopsL D.w) m.shop W hA rfl (by have := HLs.out; omega)
                  rw [decide_eq_true hsh] at this
                  exact this
                have HSt7 : Hid (∀ W, Below w7.heap.size w7 W → Calls Try.prog 54 #[.pointer (some ⟨q, 0, none⟩), .int .i64 m.deal] W fun e w' => e = .returned (.int .i64 D.st) ∧ w' = W) := fun W hW => HSt.out W (after HB6.out hW HB6.out.size)
                have hs12 : D.st = 1 ∨ D.st = 2 := by
                  rcases HD3.out with h | h | h
                  · exact absurd h hst
                  · exact .inl h
                  · exact .inr h
                have p0 := h66.c0
                have p2 := h66.c2
                have p5 := h66.c5
                rw [hyy] at p5
                clear hst hk3 hyy hsh
                rcases hs12 with h1 | h2
                · have e1 : (D.st == 1) = true := by simp [h1]
                  rw [e1] at p5
                  have HK : Hid (∀ w', Below w7.heap.size w7 w' → w'.cell? ⟨bd, od + i * 6, none⟩ = some (.int .i64 m.kind) ∧ w'.cell? ⟨bd, od + i * 6 + 1, none⟩ = some (.int .i64 m.deal) ∧ w'.cell? ⟨bd, od + i * 6 + 2, none⟩ = some (.int .i64 m.shop) ∧ w'.cell? ⟨bd, od + i * 6 + 5, none⟩ = some (.bool true) ∧ Below w7.heap.size w7 w') := fun w' hb => ⟨((bcell hb).1 _ _ hbd).trans p0, ((bcell hb).1 _ _ hbd).trans p1, ((bcell hb).1 _ _ hbd).trans p2, ((bcell hb).1 _ _ hbd).trans p5, hb⟩
                  clear h1
                  go_upto_region 28 with fail
                  go_region_held3 (fun w' => w'.cell? ⟨bd, od + i * 6, none⟩ = some (.int .i64 m.kind) ∧ w'.cell? ⟨bd, od + i * 6 + 1, none⟩ = some (.int .i64 m.deal) ∧ w'.cell? ⟨bd, od + i * 6 + 2, none⟩ = some (.int .i64 m.shop) ∧ w'.cell? ⟨bd, od + i * 6 + 5, none⟩ = some (.bool true) ∧ Below w7.heap.size w7 w')
                    (first | exact HK.out _ (by go_grown))
                    (first | (go_at_call 54; refine Calls.mono (HSt7.out _ (by go_grown)) ?_; rintro e w8 ⟨rfl, rfl⟩) | (go_at_call 60; refine Calls.mono (HSh.out _ (by go_grown)) ?_; rintro e w9 ⟨⟨ga, cap9, rfl, hA⟩, hb9⟩; have HA : Hid (NumsAt w9 ga (shopsL D.w)) := hA; clear hA; have hw9 : Below w7.heap.size w7 w9 := after (by go_grown) hb9 (by simp); have hz9 : w7.heap.size ≤ w9.heap.size := hw9.size) | (go_at_call 58; refine Calls.mono (HIn.out ga cap9 _ HA.out) ?_; rintro e w10 ⟨rfl, rfl⟩))
                  go_wp2_with fail
                  go_meet
                  case rel => exact hw9
                · have e1 : (D.st == 1) = false := by simp [h2]
                  have e2 : (D.st == 2) = true := by simp [h2]
                  rw [e1] at p5
                  have HK : Hid (∀ w', Below w7.heap.size w7 w' → w'.cell? ⟨bd, od + i * 6, none⟩ = some (.int .i64 m.kind) ∧ w'.cell? ⟨bd, od + i * 6 + 1, none⟩ = some (.int .i64 m.deal) ∧ w'.cell? ⟨bd, od + i * 6 + 2, none⟩ = some (.int .i64 m.shop) ∧ w'.cell? ⟨bd, od + i * 6 + 5, none⟩ = some (.bool false) ∧ Below w7.heap.size w7 w') := fun w' hb => ⟨((bcell hb).1 _ _ hbd).trans p0, ((bcell hb).1 _ _ hbd).trans p1, ((bcell hb).1 _ _ hbd).trans p2, ((bcell hb).1 _ _ hbd).trans p5, hb⟩
                  clear h2
                  go_upto_region 28 with fail
                  go_region_held3 (fun w' => w'.cell? ⟨bd, od + i * 6, none⟩ = some (.int .i64 m.kind) ∧ w'.cell? ⟨bd, od + i * 6 + 1, none⟩ = some (.int .i64 m.deal) ∧ w'.cell? ⟨bd, od + i * 6 + 2, none⟩ = some (.int .i64 m.shop) ∧ w'.cell? ⟨bd, od + i * 6 + 5, none⟩ = some (.bool false) ∧ Below w7.heap.size w7 w')
                    (first | exact HK.out _ (by go_grown))
                    (first | (go_at_call 54; refine Calls.mono (HSt7.out _ (by go_grown)) ?_; rintro e w8 ⟨rfl, rfl⟩) | (go_at_call 60; refine Calls.mono (HSh.out _ (by go_grown)) ?_; rintro e w9 ⟨⟨ga, cap9, rfl, hA⟩, hb9⟩; have HA : Hid (NumsAt w9 ga (shopsL D.w)) := hA; clear hA; have hw9 : Below w7.heap.size w7 w9 := after (by go_grown) hb9 (by simp); have hz9 : w7.heap.size ≤ w9.heap.size := hw9.size) | (go_at_call 58; refine Calls.mono (HIn.out ga cap9 _ HA.out) ?_; rintro e w10 ⟨rfl, rfl⟩))
                  go_wp2_with fail
                  go_meet
                  case rel => exact hw9
            case rest =>
              have hcut' : Below w7.heap.size w7 wc := hcut
              have HCt : Hid (Below w7.heap.size w7 wc) := hcut'
              have HW5 : Hid (Below w5.heap.size w5 wc) := after (after HS.out HB6.out HS.out.size) hcut' (after HS.out HB6.out HS.out.size).size
              have h68 := h66.next hcut'
              have H68 : Hid (Mail6 wc bd (od + i * 6) m) := h68
              have HMc : Hid (MailsAt wc (some ⟨bd, od, none⟩) dl) := HMd.out.below HW5.out (Nat.le_refl _)
              have HNd : Hid dl.Nodup := by show dl.Nodup; rw [HDl.out]; exact due_nodup HR5.out.inv
              clear hcut hcut' h66 h68 p1 HWw
              go_wp2_with fail
              go_loopg [11] i (fun g s11 wx => ∃ j : Nat, j ≤ i ∧ g = i - j ∧ s11 = .int .i64 j ∧ Below wc.heap.size wc wx)
              case atStart => exact ⟨0, Nat.zero_le _, rfl, rfl, Below.refl _ _⟩
              case round =>
                obtain ⟨j, hj, rfl, rfl, hSj⟩ := hrel
                by_cases hjl : j < i
                · obtain ⟨m2, hm2⟩ : ∃ m2, dl[j]? = some m2 := ⟨_, List.getElem?_eq_getElem (by have := HIL.out; omega)⟩
                  obtain ⟨b2, o2, e2, h7⟩ := mail6_at (HMc.out.below hSj (Nat.le_refl _)) hm2
                  obtain ⟨rfl, rfl⟩ : bd = b2 ∧ od = o2 := by simpa using e2
                  have hne : eqM m2 m = false := by
                    cases he : eqM m2 m with
                    | false => rfl
                    | true =>
                      have e := eqM_iff.1 he
                      obtain ⟨hj2, x1⟩ := List.getElem?_eq_some_iff.1 hm2
                      obtain ⟨hi2, x2⟩ := List.getElem?_eq_some_iff.1 HM.out
                      have := (List.getElem_inj HNd.out (h₀ := hj2) (h₁ := hi2)).1 (by rw [x1, x2, e])
                      omega
                  have hq1 : ∀ W : World, (Op.equalIn 10000 71 (.agg #[.int .i64 m2.kind, .int .i64 m2.deal, .int .i64 m2.shop, .int .i64 m2.c, .int .i64 m2.d, .bool m2.yes]) (.agg #[.int .i64 m.kind, .int .i64 m.deal, .int .i64 m.shop, .int .i64 m.c, .int .i64 m.d, .bool m.yes])).run Try.prog W = .ok false W := fun W => by rw [eqMl, hne]
                  obtain ⟨a0, a1, a2, a3, a4, a5, _⟩ := h7
                  obtain ⟨c0, c1, c2, c3, c4, c5, _⟩ := H68.out.next hSj
                  have j0 : (0 : Int) ≤ (j : Int) := by omega
                  have j1 : (j : Int) < (i : Int) := by omega
                  have j3 : (j : Int) < (dl.length : Int) := by omega
                  have HJ : Hid (j < i) := hjl
                  have hr6 : IntKind.i64.wrap ((j : Int) + 1) = (j : Int) + 1 := by go_unwrap
                  clear hm2 e2 hne hjl hj
                  go_wp2_with fail
                  go_quiet (fail)
                  go_wp2_with fail
                  go_roundg (i - (j + 1))
                  case measure => have := HJ.out; omega
                  case rel => exact ⟨j + 1, HJ.out, rfl, by simp, bdrewN hSj _⟩
                · have j1 : ¬ (j : Int) < (i : Int) := by omega
                  have HE : Hid (Below w5.heap.size w5 wr) := after HW5.out hSj HW5.out.size
                  clear hj hjl hSj
                  go_wp2_with fail
                  go_roundg (dl.length - (i + 1))
                  case measure => have := HIL.out; omega
                  case rel => exact ⟨i + 1, HIL.out, rfl, by simp, HE.out⟩
          · have hii : ¬ (i : Int) < (dl.length : Int) := by omega
            clear hi hil hS
            have HCr : Hid _ := crash_rlv HR6.out
            have HBr : Hid (Below w.heap.size w wr) := after HB5.out HS.out HB5.out.size
            have HDc : Hid ((dueR (crashR B)).length = sumShops (crashR B).L) := by show _ = _; rw [due_crash]; exact (sum_crash B.L).symm
            have HCl : Hid (∀ (n : Int) (E : Dl), dealAt (crashR B) n = some E → E.st ≠ 0) := fun n E h => crash_closed h
            clear HR5 HMd HDl
            go_wp2_with fail
            refine Calls.mono HCr.out ?_
            rintro e w8 ⟨rfl, hR8, _⟩
            clear HCr HR6
            generalize crashR B = C at hR8 HDc HCl
            have c8 : (C.L.length : Int) ≤ 8 := by have := hR8.inv.len; omega
            go_wp2_with fail
            go_loopg [12, 13] C.L.length (fun g s12 s13 wx => ∃ j : Nat, j ≤ C.L.length ∧ g = C.L.length - j ∧ s12 = .int .i64 (sumShops (C.L.take j) : Int) ∧ s13 = .int .i64 j ∧ RLv w1 (fun _ => False) wx q C)
            case atStart => exact ⟨0, Nat.zero_le _, rfl, by simp [sumShops], rfl, hR8⟩
            case round =>
              obtain ⟨j, hj, rfl, rfl, rfl, hRj⟩ := hrel
              clear hR8
              have HRj : Hid (RLv w1 (fun _ => False) wr q C) := hRj
              have HLen : Hid _ := len_rlv hRj
              clear hRj
              go_wp2_with fail
              refine Calls.mono HLen.out ?_
              rintro e w9 ⟨rfl, rfl⟩
              clear HLen
              by_cases hjl : j < C.L.length
              · obtain ⟨E, hE⟩ : ∃ E, C.L[j]? = some E := ⟨_, List.getElem?_eq_getElem hjl⟩
                have hdE : dealAt C (j : Int) = some E := by rw [dealAt_nat]; exact hE
                have HStt : Hid _ := state_rlv (j : Int) HRj.out
                rw [stR_some hdE] at HStt
                have hE0 : (E.st == 0) = false := by simpa using HCl.out _ E hdE
                have HWn : Hid _ := wants_rlv (j : Int) HRj.out
                rw [wantsR_some hdE] at HWn
                have HF : Hid (E.w.length ≤ 4) := (HRj.out.inv.fit E (List.mem_of_getElem? hE)).few
                have HNx : Hid _ := sum_next hE
                have HJ : Hid (j < C.L.length) := hjl
                have j0 : (0 : Int) ≤ (j : Int) := by omega
                have j1 : (j : Int) < (C.L.length : Int) := by omega
                have hr6 : IntKind.i64.wrap ((j : Int) + 1) = (j : Int) + 1 := by go_unwrap
                have h24 : sumShops (C.L.take j) ≤ 24 := by
                  have h1 := sum_le (C.L.take j)
                  rw [List.length_take] at h1
                  omega
                have h3 : (shopsL E.w).length ≤ 3 := shopsTo_length E.w 3
                obtain ⟨sj, hsj⟩ : ∃ sj, sj = sumShops (C.L.take j) := ⟨_, rfl⟩
                rw [← hsj] at HNx h24 ⊢
                obtain ⟨sl, hsl⟩ : ∃ sl, sl = (shopsL E.w).length := ⟨_, rfl⟩
                rw [← hsl] at h3 HNx
                have hr7 : IntKind.i64.wrap ((sj : Int) + (sl : Int)) = ((sj + sl : Nat) : Int) := by
                  rw [show ((sj : Int) + (sl : Int)) = ((sj + sl : Nat) : Int) by omega]
                  have : ((sj + sl : Nat) : Int) ≤ 27 := by omega
                  have : (0 : Int) ≤ ((sj + sl : Nat) : Int) := by omega
                  go_unwrap
                have HSl : Hid (sl = (shopsL E.w).length) := hsl
                clear hE hdE hjl hj hsj h24 h3 hsl
                go_wp2_with fail
                refine Calls.mono HStt.out ?_
                rintro e w10 ⟨rfl, rfl⟩
                go_wp2_with fail
                refine Calls.mono HWn.out ?_
                rintro e w11 ⟨⟨vw, rfl, hrw⟩, hb11⟩
                obtain ⟨gw, capw, rfl, hWw, _⟩ := wants_of_own hrw
                have HSh : Hid _ := shops_any gw E.w.length capw E.w w11 hWw rfl (by have := HF.out; omega)
                rw [← HSl.out] at HSh
                have HR11 : Hid _ := HRj.out.next hb11
                clear hrw hWw hb11 HWn HStt
                go_wp2_with fail
                refine Calls.mono HSh.out ?_
                rintro e w12 ⟨⟨gs, caps, rfl, _⟩, hb12⟩
                have HR12 : Hid _ := HR11.out.next hb12
                clear hb12 HSh
                go_wp2_with fail
                go_roundg (C.L.length - (j + 1))
                case measure => have := HJ.out; omega
                case rel => exact ⟨j + 1, HJ.out, rfl, by rw [HNx.out, Int.natCast_add], by simp, HR12.out⟩
              · have hjj : j = C.L.length := by omega
                subst hjj
                have n0 : ¬ (C.L.length : Int) < (C.L.length : Int) := by omega
                have HDu : Hid _ := due_rlv HRj.out
                have HSm : Hid (sumShops (C.L.take C.L.length) = sumShops C.L) := by show _ = _; rw [List.take_of_length_le (Nat.le_refl _)]
                have hfin : (((dueR C).length : Int) == (sumShops (C.L.take C.L.length) : Int)) = true := by rw [HSm.out, HDc.out]; simp
                have hfin2 : (((dueR C).length : Int) == (sumShops C.L : Int)) = true := by rw [HDc.out]; simp
                clear hj hjl
                go_wp2_with fail
                refine Calls.mono HDu.out ?_
                rintro e w13 ⟨⟨vz, rfl, hrz⟩, hb13⟩
                obtain ⟨gz, capz, rfl⟩ := own_sl hrz
                have HR13 : Hid _ := HRj.out.next hb13
                clear hrz hb13
                go_wp2_with fail
                go_ret
                exact ⟨rfl, after HB1.out HR13.out.below HB1.out.size⟩

end Go.Proofs.Ytbgnajcmhmpjlab

namespace Go.Proofs.Ytbgnajcmhmpjlab
open Go.ChangeShapes Go.WideShapes Go.ChangeAt Go.RowKit Go.Deep

theorem Try.ownBrokerDue : ownKnob Try.prog.godebug = none := by kernel_rfl
theorem Try.laidOutBrokerDue : laidOutB Try.prog = true := by kernel_rfl

set_option maxRecDepth 100000 in
theorem brokerDue_lifted (os : Os) (started : os.Started) (H : Type) (enc : TypeId × Value → H) :
    ReturnsInHanded {} Try.checked os 14 .any (Rows.brokerDueSpec.pre6 enc Try.prog Try.f14 Rows.brokerDueRow.domain false) (Rows.brokerDueSpec.post enc Try.prog Try.f14 false true false false) := by
  refine returnsInHanded_of_change (C := Try.checked) Try.ownBrokerDue started (by kernel_rfl) Try.func14
    (ChangeSpec.witness6 (enc := enc) (C := Try.checked) false ⟨#[], #[.slice none 0 0], []⟩ 8 (by kernel_rfl) (by kernel_rfl) (by kernel_rfl) (by kernel_rfl)) ?_
  intro W base args ds gs before hval0 hW _ _
  have hval : ∀ (j : Nat) t v, Try.f14.params[j]? = some t → args[j]? = some v → Value.okWide Try.prog W .any base t v := hval0
  have hW' := hW
  obtain ⟨p, q, hA0, hV, rfl, hfz, hnd⟩ := hW
  have hA : DataW.TrodAll enc Try.prog W 0 (fun _ => true) true Try.f14.params.toList args.toList ds p := hA0
  rw [Try.params14] at hA hval
  obtain ⟨v0, d0, rfl, rfl, h0⟩ := trodAll_one hA
  obtain ⟨rfl, rfl⟩ := trodVars_none hV
  have k0 := h0
  have lt0 : ∀ x ∈ p, x.block < W.heap.size := by obtain ⟨m, hm⟩ := k0; exact DataW.trod_lt m _ _ _ hm
  obtain ⟨a0, l0, c0, rfl⟩ := okWide_slice Try.underlying94 (hval 0 94 v0 rfl rfl)
  obtain ⟨l, hl, hll⟩ := open_bsteps h0
  clear hA0 hval0
  refine (due_walk a0 l0 c0 l W hl hll).mono fun e W' ⟨hret, hb⟩ => ?_
  subst hret
  exact ⟨_, rfl, _, _, _, [], _, [], hW', trodAll_mk1 (shut_bool Try.underlying4 true), trodAll_mk1 (Below.trod Try.laidOutBrokerDue (by kernel_rfl) (of_decide_eq_true (by kernel_rfl)) k0 hb lt0), rfl, hb.frame _, fun h => by cases h⟩

theorem brokerDue_holds : Rows.BrokerDueSaid :=
  OpenClaim.holds_of_wide 14 Try.f14 rfl rfl rfl rfl rfl rfl rfl ⟨rfl, rfl, rfl, rfl, rfl⟩ rfl rfl rfl rfl rfl (by kernel_rfl) Try.func14 (by kernel_rfl)
    (of_decide_eq_true (by kernel_rfl)) (by unfold Func.isWrapper; first | (rw [if_pos (by decide +kernel)]; kernel_rfl) | (rw [if_neg (by decide +kernel)]; exact ⟨rfl, rfl⟩))
    (fun os started H enc _ => brokerDue_lifted os started H enc)

#print axioms brokerDue_holds
end Go.Proofs.Ytbgnajcmhmpjlab
