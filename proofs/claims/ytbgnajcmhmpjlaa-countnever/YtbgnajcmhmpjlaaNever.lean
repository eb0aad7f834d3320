/- The walk of CountNever: it answers true, whatever value and lists it is given. -/
import Derived.Test.YtbgnajcmhmpjlaaNevMath
import Derived.Test.YtbgnajcmhmpjlaaQuiet
import Derived.Deep.RegionHeld3
import Derived.Deep.AppendLies
import Derived.Deep.DeepCutAuto
namespace Go.Proofs.Ytbgnajcmhmpjlaa
open Go.RowKit

theorem Try.infoInt : (Try.prog.info? 3).map (fun i => (i.zero, i.size, i.bytes)) = some (some (.int .i64 0), 1, 8) := by kernel_rfl

/-- A list of integers as the walk reads it: element by element. -/
def IntsAt (w : World) (la : Option Addr) (ll : Nat) (zs : List Int) : Prop := ∀ k, k < ll → ∃ b off, la = some ⟨b, off, none⟩ ∧ b < w.heap.size ∧ w.cell? ⟨b, off + k, none⟩ = some (.int .i64 (zs.getD k 0))
def BoolsAt (w : World) (ea : Option Addr) (le : Nat) (bs : Nat → Bool) : Prop := ∀ k, k < le → ∃ b off, ea = some ⟨b, off, none⟩ ∧ b < w.heap.size ∧ w.cell? ⟨b, off + k, none⟩ = some (.bool (bs k))

set_option maxRecDepth 100000 in
set_option maxHeartbeats 4000000 in
theorem never_loop (value : Int) (la ea : Option Addr) (ll lc le ec : Nat) (zs : List Int) (bs : Nat → Bool) (w : World) (hl : IntsAt w la ll zs) (he : BoolsAt w ea le bs) (h1 : ll ≤ 200) (h2 : le ≤ 200) (h3 : chk value 0 0 = 0) :
    Calls Try.prog 5 #[.int .i64 value, .slice la ll lc, .slice ea le ec] w fun e w' => e = .returned (.bool true) ∧ Below w.heap.size w w' := by
  obtain ⟨i0, hi, hz0, hz1, hz2⟩ := info_parts Try.infoInt
  have hx : (chk value 0 0 != 0) = false := bne_self _ _ h3
  have hv := chk_ok h3
  have HV : Hid _ := hv
  clear hv h3
  have k1 : decide ((200 : Int) < (ll : Int)) = false := by simp; omega
  have k2 : decide ((200 : Int) < (le : Int)) = false := by simp; omega
  have k3 : (ll : Int) ≤ 200 := by omega
  have k4 : (le : Int) ≤ 200 := by omega
  go_enter Try.func5, Try.ntmps5
  go_wp2_with fail
  refine (begun_any _).mono ?_
  rintro e w1 ⟨rfl, hb1⟩
  go_wp2_with fail
  refine (countFault_any _ _ _ _).mono ?_
  rintro e w2 ⟨rfl, hb2⟩
  have hst : St w1.heap.size w value 0 0 [] (.slice none 0 0) w2 := by
    obtain ⟨m1, m2, m3, m4, m5, m6⟩ := HV.out
    have hz := hb1.size
    obtain ⟨q0, q1, q2⟩ := box3 w1.heap.size (x := .int .i64 value) (y := .int .i64 0) (z := .int .i64 0) hb2 (by simp) (by simp [go_sem]) (by simp [go_sem]) (by simp [go_sem])
    have hb12 : Below w1.heap.size w1 w2 := after (by go_grown) hb2 (by simp)
    exact ⟨q0, q1, q2, loose w1.heap.size hb2 (by simp) (by simp [go_sem]), World.ownsRow_nil _ _ _ _, after hb1 hb12 hz, hz, by have := hb2.size; simp at this; omega⟩
  have hinv : Inv value 0 0 [] := by
    obtain ⟨m1, m2, m3, m4, m5, m6⟩ := HV.out
    exact ⟨m1, m2, m3, m4, m5, m6, rfl, rfl, by simp⟩
  clear hb2 HV
  go_wp2_with fail
  go_loopg [8, 9] ll (fun g hv i wr => ∃ (k : Nat) (v o i' : Int) (hs : List Int), k ≤ ll ∧ g = ll - k ∧ i = .int .i64 k ∧ hs.length ≤ k ∧ Inv v o i' hs ∧ St w1.heap.size w v o i' hs hv wr)
  case atStart => exact ⟨0, value, 0, 0, [], Nat.zero_le _, rfl, rfl, Nat.le_refl _, hinv, hst⟩
  case round =>
    obtain ⟨k, v, o, i', hs, hk, rfl, rfl, hlen, hI, hS⟩ := hrel
    by_cases hlt : k < ll
    · obtain ⟨bl, ol, rfl, hbl, hcl⟩ := hl k hlt
      have hcl' : wr.cell? ⟨bl, ol + k, none⟩ = some (.int .i64 (zs.getD k 0)) := (hS.below.cell (p := ⟨bl, ol + k, none⟩) hbl).trans hcl
      clear hcl
      generalize zs.getD k 0 = n at hcl'
      have c0 := hS.c0
      have c1 := hS.c1
      have c2 := hS.c2
      have j0 : (0 : Int) ≤ (k : Int) := by omega
      have j1 : (k : Int) < (ll : Int) := by omega
      have HI : Hid _ := hI
      have HL : Hid _ := hlen
      clear hI hlen hl
      go_wp2_with fail
      refine (holdIs v o i' n _).mono ?_
      rintro e w3 ⟨rfl, hb3⟩
      have hS3 := hS.next hb3
      clear hb3 hS c0 c1 c2 hcl'
      go_upto_if 53 with fail
      have hz3 := hS3.lt
      go_cut [8] (fun hv' wx => ∃ (v' o' i2 : Int) (hs' : List Int), hs'.length ≤ k + 1 ∧ Inv v' o' i2 hs' ∧ St w1.heap.size w v' o' i2 hs' hv' wx)
      case first =>
        by_cases hc : hC v o i' n = 0
        · have hc' : (hC v o i' n == 0) = true := by simp [hc]
          have hI2 := HI.out.hold hc
          have HI2 : Hid _ := hI2
          clear hc hI2 HI
          have hS5 := hS3.store (hV v o i' n) (hO v o i' n) (hI v o i' n)
          have c0 := hS3.c0
          have c1 := hS3.c1
          have c2 := hS3.c2
          have cf := hS3.loose
          clear hS3
          go_wp2_with (at_builtin; refine wpList_append_own _ rfl (.tmp 55) (.tmp 57) 32 rfl (w1.heap.size + 1) 3 i0 (.int .i64 0) 1 8 Try.underlying32 hi hz0 hz1 hz2 rfl (by decide) _ _ _ rfl ((hS5.row.alloc _).alloc _) ⟨w3.heap.size + 1, 0, none⟩ 1 1 [.int .i64 n] rfl rfl (one_new _ (by simp)) one_cell (by have := HL.out; unfold maxLen; omega) (by have := HL.out; omega) (by simp; omega) ?_; intro v7 w7 hown7 hgrow7 _)
          go_meet
          case rel => exact ⟨_, _, _, hs ++ [n], by have := HL.out; simp; omega, HI2.out, (hS5.next (((Below.refl _ _).alloc (Nat.le_refl _) _).alloc (by simp) _)).push hgrow7 hown7⟩
        · have hc' : (hC v o i' n == 0) = false := by simp [hc]
          go_wp2_with fail
          go_meet
          case rel => exact ⟨v, o, i', hs, by have := HL.out; omega, HI.out, hS3.next ((Below.refl _ w3).alloc (Nat.le_refl _) _)⟩
      case rest =>
        obtain ⟨v2, o2, i2, hs2, hlen2, hI2, hS2⟩ := hcut
        clear HI HL hS3 hz3
        obtain ⟨ga, cap2, rfl, hcap, hga⟩ := hS2.shape
        have c0 := hS2.c0
        have c1 := hS2.c1
        have c2 := hS2.c2
        have HG : Hid _ := hga
        have HI3 : Hid _ := hI2
        have HL2 : Hid _ := hlen2
        clear hga hlen2
        by_cases hA : k < le
        · by_cases hB : 0 < hs2.length
          · have hA' : (k : Int) < (le : Int) := by omega
            have hB' : (0 : Int) < (hs2.length : Int) := by omega
            obtain ⟨g, rfl, hg1, hg2, hgc⟩ := HG.out hB
            clear HG
            obtain ⟨be, oe, rfl, hbe, hce⟩ := he k hA
            have hce' : wc.cell? ⟨be, oe + k, none⟩ = some (.bool (bs k)) := (hS2.below.cell (p := ⟨be, oe + k, none⟩) hbe).trans hce
            clear he
            generalize bs k = d at hce' hce
            have HCE : Hid _ := hce
            clear hce
            have HGC : Hid _ := hgc
            clear hgc
            have hL3 : hs2.length ≤ 201 := by have := HL2.out; omega
            go_upto_region 16 with fail
            go_cut [13] (fun s13 wx => wc = wx ∧ ∃ r : Nat, r < hs2.length ∧ s13 = .int .i64 (r : Int))
            case first =>
              have hL4 : (hs2.length : Int) ≤ 201 := by omega
              go_wp2_with fail
              go_meet
              case rel =>
                obtain ⟨r, hr, er⟩ := mod_ok n hs2.length hB hL3
                exact ⟨rfl, r, hr, by rw [er]⟩
            case rest =>
              obtain ⟨rfl, r, hr, rfl⟩ := hcut
              have m1 := hI2.v0
              have m2 := hI2.v1
              have m3 := hI2.o0
              have m4 := hI2.o1
              have m5 := hI2.i0
              have m6 := hI2.i1
              clear hI2
              go_wp2_with fail
              refine region_class (C := fun w' => w'.cell? ⟨w1.heap.size, 0, none⟩ = some (.int .i64 v2) ∧ w'.cell? ⟨w1.heap.size, 1, none⟩ = some (.int .i64 o2) ∧ w'.cell? ⟨w1.heap.size, 2, none⟩ = some (.int .i64 i2) ∧ w1.heap.size < w'.heap.size ∧ Below wc.heap.size wc w') (by kernel_rfl) (by kernel_rfl) (boxKeep ⟨c0, c1, c2, hS2.lt, Below.refl _ _⟩ (Below.refl _ _).drew) ?_
              repeat (first
                | go_big_quiet_skip
                | (go_big_quiet_want
                   refine q_val (v := ?_) (fun w' hS => ?_) ?_
                   rotate_left
                   focus
                     go_simp
                     all_goals (with_reducible rfl)
                   go_big_quiet_on
                   (try simp only [Act.put, List.setIfInBounds_toArray, List.set_cons_zero, List.set_cons_succ]))
                | (go_big_quiet_want
                   refine q_call (v := ?_) (f := ?_) (args := ?_) (fun w' hS => ?_) (fun w' hS => ?_) ?_
                   rotate_left 3
                   focus
                     go_simp
                     constructor <;> with_reducible rfl
                   focus
                     first
                       | (go_at_call 24
                          refine (low_any _ _ _ _ m1 (by omega) m3 (by omega)).mono ?_
                          rintro e w7 ⟨rfl, hb7⟩
                          refine ⟨?_, boxKeep hS hb7⟩
                          with_reducible rfl)
                       | (go_at_call 25
                          refine (high_any _ _ _ _ m1 (by omega) m5 (by omega)).mono ?_
                          rintro e w7 ⟨rfl, hb7⟩
                          refine ⟨?_, boxKeep hS hb7⟩
                          with_reducible rfl)
                   go_big_quiet_on
                   (try simp only [Act.put, List.setIfInBounds_toArray, List.set_cons_zero, List.set_cons_succ])))
              refine wpQuiet_nil ?_
              intro w8 hC8
              have hS8 := hS2.next hC8.2.2.2.2
              have hg8 : w8.cell? ⟨g, r, none⟩ = some (.int .i64 hs2[r]) := (hC8.2.2.2.2.cell (p := ⟨g, r, none⟩) hg2).trans (HGC.out r hr)
              have hce8 : w8.cell? ⟨be, oe + k, none⟩ = some (.bool d) := (hS8.below.cell (p := ⟨be, oe + k, none⟩) hbe).trans HCE.out
              obtain ⟨v3, o3, i3, hE, hI4, hlow, hhigh⟩ := HI3.out.over r hr d
              have HI4 : Hid _ := hI4
              generalize hs2[r] = m at hg8 hE
              clear hce' hC8 hS2 c0 c1 c2 HGC HI3 hI4
              have c0 := hS8.c0
              have c1 := hS8.c1
              have c2 := hS8.c2
              have j2 : (0 : Int) ≤ (r : Int) := by omega
              have j3 : (r : Int) < (hs2.length : Int) := by omega
              go_wp2_with fail
              go_cut [16, 17] (fun p e wx => e = .int .i64 0 ∧ ∃ nb, p = .pointer (some ⟨nb, 0, none⟩) ∧ wx.cell? ⟨nb, 0, none⟩ = some (.int .i64 v3) ∧ wx.cell? ⟨nb, 1, none⟩ = some (.int .i64 o3) ∧ wx.cell? ⟨nb, 2, none⟩ = some (.int .i64 i3) ∧ w8.heap.size ≤ nb ∧ nb < wx.heap.size ∧ Below w8.heap.size w8 wx)
              case first =>
                have HK : Hid (∀ w', Below w8.heap.size w8 w' → w'.cell? ⟨w1.heap.size, 0, none⟩ = some (.int .i64 v2) ∧ w'.cell? ⟨w1.heap.size, 1, none⟩ = some (.int .i64 o2) ∧ w'.cell? ⟨w1.heap.size, 2, none⟩ = some (.int .i64 i2) ∧ w'.cell? ⟨g, r, none⟩ = some (.int .i64 m) ∧ w'.cell? ⟨be, oe + k, none⟩ = some (.bool d) ∧ Below w8.heap.size w8 w') := fun w' hb => six c0 c1 c2 hg8 hce8 hb
                go_region_held3 (fun w' => w'.cell? ⟨w1.heap.size, 0, none⟩ = some (.int .i64 v2) ∧ w'.cell? ⟨w1.heap.size, 1, none⟩ = some (.int .i64 o2) ∧ w'.cell? ⟨w1.heap.size, 2, none⟩ = some (.int .i64 i2) ∧ w'.cell? ⟨g, r, none⟩ = some (.int .i64 m) ∧ w'.cell? ⟨be, oe + k, none⟩ = some (.bool d) ∧ Below w8.heap.size w8 w')
                  (first | exact HK.out _ (by go_grown))
                  (first | (go_at_call 18; refine (hE _).mono ?_; rintro e w9 ⟨rfl, hb9⟩; have hw9 : Below w8.heap.size w8 w9 := after (by go_grown) hb9 (by simp); have hz9 : w8.heap.size ≤ w9.heap.size := hw9.size; obtain ⟨hc9, hf9⟩ := bcell hb9))
                all_goals
                  clear HK
                  go_wp2_with fail
                  go_meet
                  case rel =>
                    refine ⟨rfl, _, rfl, ?_, ?_, ?_, ?_, ?_, ?_⟩
                    · simp [go_sem, hc9]
                    · simp [go_sem, hc9]
                    · simp [go_sem, hc9]
                    · first | exact Nat.le_refl _ | exact hz9
                    · have := hb9.size
                      simp at this ⊢
                      try omega
                    · go_grown
              case rest =>
                obtain ⟨rfl, nb, rfl, n0, n1, n2, hnb, hnb', hb10⟩ := hcut
                have hS10 := hS8.next hb10
                have p1 := HI4.out.v0
                have p2 := HI4.out.v1
                have p3 := HI4.out.o0
                have p4 := HI4.out.o1
                have p5 := HI4.out.i0
                have p6 := HI4.out.i1
                clear hb10 hS8 c0 c1 c2 hce8 hg8 hE
                go_wp2_with fail
                refine (low_any _ _ _ _ p1 (by omega) p3 (by omega)).mono ?_
                rintro e w11 ⟨rfl, hb11⟩
                have hS11 := hS10.next hb11
                obtain ⟨n0, n1, n2⟩ := box3 nb hb11 hnb' n0 n1 n2
                have hnb11 : nb < w11.heap.size := by have := hb11.size; omega
                clear hb11 hS10
                go_wp2_with fail
                refine (high_any _ _ _ _ p1 (by omega) p5 (by omega)).mono ?_
                rintro e w12 ⟨rfl, hb12⟩
                have hS12 := hS11.next hb12
                obtain ⟨n0, n1, n2⟩ := box3 nb hb12 hnb11 n0 n1 n2
                clear hb12 hS11
                have hS13 := hS12.store v3 o3 i3
                have c0 := hS12.c0
                have c1 := hS12.c1
                have c2 := hS12.c2
                have cf := hS12.loose
                clear hS12
                have hg3 := hS13.shape
                obtain ⟨ga', cap', eg, _, hgc'⟩ := hg3
                simp only [Value.slice.injEq, true_and] at eg
                obtain ⟨rfl, rfl⟩ := eg
                obtain ⟨g', eg', _, _, hrow⟩ := hgc' (by omega)
                simp only [Option.some.injEq, Addr.mk.injEq, and_true] at eg'
                subst eg'
                have HROW : Hid _ := hrow
                obtain ⟨A, hA, hbeh⟩ := row_behind (g := g) (r := r) (cap := cap2) (hs := hs2) hr hcap
                have HBEH : Hid _ := hbeh
                have s1 : Hid (((hs2.take r).map (Value.int .i64)).length = r * 1) := by show _ = _; simp; omega
                have s2 : Hid (((hs2.drop (r + 1)).map (Value.int .i64)).length = (hs2.length - (r + 1)) * 1) := by show _ = _; simp
                clear hrow hbeh hgc'
                have q1 : (r : Int) ≤ (cap2 : Int) := by omega
                have q2 : (r : Int) + 1 ≤ (hs2.length : Int) := by omega
                have q3 : (0 : Int) ≤ (r : Int) + 1 := by omega
                have q4 : IntKind.i64.wrap ((r : Int) + 1) = (r : Int) + 1 := by go_unwrap
                have q5 : ((r : Int) + 1).toNat = r + 1 := by omega
                go_wp2_with fail
                go_region_held3 (fun _ => True) (trivial) (first
                  | (refine step_append_own (by rfl) (.tmp 107) (.tmp 110) 32 (by rfl) (w1.heap.size + 1) 3 i0 (.int .i64 0) 1 8 Try.underlying32 hi hz0 hz1 hz2 rfl (by decide) (.slice none 0 0) 0 [] (by simp [Act.eval]) (World.ownsRow_nil _ _ _ _) ⟨g, 0, none⟩ r cap2 ((hs2.take r).map (Value.int .i64)) (by simp [Act.eval]) s1.out (row_take HROW.out r) (all_one _) (by unfold maxLen; omega) (by omega) hS13.lt ?_; intro v14 w14 hown14 hgrow14)
                  | (refine step_append_own (by rfl) (.tmp 111) (.tmp 115) 32 (by rfl) (w1.heap.size + 1) 3 i0 (.int .i64 0) 1 8 Try.underlying32 hi hz0 hz1 hz2 rfl (by decide) v14 _ _ (by simp [Act.eval]) hown14 A (hs2.length - (r + 1)) (cap2 - (r + 1)) ((hs2.drop (r + 1)).map (Value.int .i64)) (by simp [Act.eval]) s2.out (HBEH.out _ (cells_grown HROW.out hgrow14)) (all_one _) (by unfold maxLen; omega) (by omega) (hS13.base14 hgrow14) ?_; intro v15 w15 hown15 hgrow15))
                have hS2 := hS13.cutOut hr hgrow14 hown14 hgrow15 hown15
                have hlen3 : (hs2.take r ++ hs2.drop (r + 1)).length ≤ k + 1 := by have := HL2.out; simp; omega
                have HL3 : Hid _ := hlen3
                generalize hs2.take r ++ hs2.drop (r + 1) = hs3 at HI4 hS2 HL3
                clear hlen3 hS13 hown14 hgrow14 hown15 hgrow15 HROW HBEH s1 s2 hA n0 n1 n2 cf c0 c1 c2
                have c0 := hS2.c0
                have c1 := hS2.c1
                have c2 := hS2.c2
                have hx2 : (chk v3 o3 i3 != 0) = false := bne_self _ _ (chk_of p1 p2 p3 p4 p5 p6)
                go_wp2_with fail
                refine (check_any _ _ _ _).mono ?_
                rintro e w16 ⟨rfl, hb16⟩
                have hS8 := hS2.next hb16
                have c0 := hS8.c0
                have c1 := hS8.c1
                have c2 := hS8.c2
                clear hb16 hS2
                go_wp2_with fail
                refine (low_any _ _ _ _ p1 (by omega) p3 (by omega)).mono ?_
                rintro e w17 ⟨rfl, hb17⟩
                have hS9 := hS8.next hb17
                have c0 := hS9.c0
                have c1 := hS9.c1
                have c2 := hS9.c2
                clear hb17 hS8
                go_wp2_with fail
                refine (high_any _ _ _ _ p1 (by omega) p5 (by omega)).mono ?_
                rintro e w18 ⟨rfl, hb18⟩
                have hS10 := hS9.next hb18
                clear hb18 hS9
                go_wp2_with fail
                go_roundg (ll - (k + 1))
                case measure => omega
                case rel => exact ⟨k + 1, v3, o3, i3, hs3, by omega, rfl, by go_num, HL3.out, HI4.out, hS10⟩
          · have hA' : (k : Int) < (le : Int) := by omega
            obtain rfl : hs2 = [] := List.length_eq_zero_iff.1 (by omega)
            have m1 := hI2.v0
            have m2 := hI2.v1
            have m3 := hI2.o0
            have m4 := hI2.o1
            have m5 := hI2.i0
            have m6 := hI2.i1
            clear hI2
            have hx2 : (chk v2 o2 i2 != 0) = false := bne_self _ _ (chk_of m1 m2 m3 m4 m5 m6)
            go_wp2_with fail
            refine (check_any _ _ _ _).mono ?_
            rintro e w8 ⟨rfl, hb8⟩
            have hS8 := hS2.next hb8
            have c0 := hS8.c0
            have c1 := hS8.c1
            have c2 := hS8.c2
            clear hb8 hS2
            go_wp2_with fail
            refine (low_any _ _ _ _ m1 (by omega) m3 (by omega)).mono ?_
            rintro e w9 ⟨rfl, hb9⟩
            have hS9 := hS8.next hb9
            have c0 := hS9.c0
            have c1 := hS9.c1
            have c2 := hS9.c2
            clear hb9 hS8
            go_wp2_with fail
            refine (high_any _ _ _ _ m1 (by omega) m5 (by omega)).mono ?_
            rintro e w10 ⟨rfl, hb10⟩
            have hS10 := hS9.next hb10
            clear hb10 hS9
            go_wp2_with fail
            go_roundg (ll - (k + 1))
            case measure => omega
            case rel => exact ⟨k + 1, v2, o2, i2, [], by omega, rfl, by go_num, HL2.out, HI3.out, hS10⟩
        · have hA' : (le : Int) ≤ (k : Int) := by omega
          clear hA
          have m1 := hI2.v0
          have m2 := hI2.v1
          have m3 := hI2.o0
          have m4 := hI2.o1
          have m5 := hI2.i0
          have m6 := hI2.i1
          clear hI2
          have hx2 : (chk v2 o2 i2 != 0) = false := bne_self _ _ (chk_of m1 m2 m3 m4 m5 m6)
          go_wp2_with fail
          refine (check_any _ _ _ _).mono ?_
          rintro e w8 ⟨rfl, hb8⟩
          have hS8 := hS2.next hb8
          have c0 := hS8.c0
          have c1 := hS8.c1
          have c2 := hS8.c2
          clear hb8 hS2
          go_wp2_with fail
          refine (low_any _ _ _ _ m1 (by omega) m3 (by omega)).mono ?_
          rintro e w9 ⟨rfl, hb9⟩
          have hS9 := hS8.next hb9
          have c0 := hS9.c0
          have c1 := hS9.c1
          have c2 := hS9.c2
          clear hb9 hS8
          go_wp2_with fail
          refine (high_any _ _ _ _ m1 (by omega) m5 (by omega)).mono ?_
          rintro e w10 ⟨rfl, hb10⟩
          have hS10 := hS9.next hb10
          clear hb10 hS9
          go_wp2_with fail
          go_roundg (ll - (k + 1))
          case measure => omega
          case rel => exact ⟨k + 1, v2, o2, i2, hs2, by omega, rfl, by go_num, HL2.out, HI3.out, hS10⟩
    · go_wp2_with fail
      go_ret
      exact ⟨rfl, hS.below⟩

theorem never_begun {w w1 : World} {t : TypeId} {value : Int} (hb1 : Below w.heap.size w w1) : Below w.heap.size w (w1.alloc (.cells #[.int .i64 value, .int .i64 0, .int .i64 0] t)) := hb1.alloc hb1.size _

set_option maxRecDepth 100000 in
set_option maxHeartbeats 1000000 in
theorem never_long (value : Int) (la ea : Option Addr) (ll lc le ec : Nat) (w : World) (h1 : 200 < ll) :
    Calls Try.prog 5 #[.int .i64 value, .slice la ll lc, .slice ea le ec] w fun e w' => e = .returned (.bool true) ∧ Below w.heap.size w w' := by
  have k1 : (200 : Int) < (ll : Int) := by omega
  go_enter Try.func5, Try.ntmps5
  go_wp2_with fail
  refine (begun_any _).mono ?_
  rintro e w1 ⟨rfl, hb1⟩
  go_wp2_with fail
  go_ret
  exact ⟨rfl, never_begun hb1⟩

set_option maxRecDepth 100000 in
set_option maxHeartbeats 1000000 in
theorem never_ends (value : Int) (la ea : Option Addr) (ll lc le ec : Nat) (w : World) (h1 : ll ≤ 200) (h2 : 200 < le) :
    Calls Try.prog 5 #[.int .i64 value, .slice la ll lc, .slice ea le ec] w fun e w' => e = .returned (.bool true) ∧ Below w.heap.size w w' := by
  have k1 : (ll : Int) ≤ 200 := by omega
  have k2 : (200 : Int) < (le : Int) := by omega
  go_enter Try.func5, Try.ntmps5
  go_wp2_with fail
  refine (begun_any _).mono ?_
  rintro e w1 ⟨rfl, hb1⟩
  go_wp2_with fail
  go_ret
  exact ⟨rfl, never_begun hb1⟩

set_option maxRecDepth 100000 in
set_option maxHeartbeats 1000000 in
theorem never_no (value : Int) (la ea : Option Addr) (ll lc le ec : Nat) (w : World) (h1 : ll ≤ 200) (h2 : le ≤ 200) (h3 : chk value 0 0 ≠ 0) :
    Calls Try.prog 5 #[.int .i64 value, .slice la ll lc, .slice ea le ec] w fun e w' => e = .returned (.bool true) ∧ Below w.heap.size w w' := by
  have k1 : (ll : Int) ≤ 200 := by omega
  have k2 : (le : Int) ≤ 200 := by omega
  have hx : (chk value 0 0 != 0) = true := bne_of h3
  clear h3
  go_enter Try.func5, Try.ntmps5
  go_wp2_with fail
  refine (begun_any _).mono ?_
  rintro e w1 ⟨rfl, hb1⟩
  go_wp2_with fail
  refine (countFault_any _ _ _ _).mono ?_
  rintro e w2 ⟨rfl, hb2⟩
  have hw2 : Below w.heap.size w w2 := after (never_begun hb1) hb2 (by have := hb1.size; simp; omega)
  clear hb2
  go_wp2_with fail
  go_ret
  exact ⟨rfl, hw2⟩

theorem never_any (value : Int) (la ea : Option Addr) (ll lc le ec : Nat) (zs : List Int) (bs : Nat → Bool) (w : World) (hl : IntsAt w la ll zs) (he : BoolsAt w ea le bs) :
    Calls Try.prog 5 #[.int .i64 value, .slice la ll lc, .slice ea le ec] w fun e w' => e = .returned (.bool true) ∧ Below w.heap.size w w' := by
  by_cases h1 : ll ≤ 200
  · by_cases h2 : le ≤ 200
    · by_cases h3 : chk value 0 0 = 0
      · exact never_loop value la ea ll lc le ec zs bs w hl he h1 h2 h3
      · exact never_no value la ea ll lc le ec w h1 h2 h3
    · exact never_ends value la ea ll lc le ec w h1 (by omega)
  · exact never_long value la ea ll lc le ec w (by omega)

end Go.Proofs.Ytbgnajcmhmpjlaa
