/- For every number, every world, every list of mails and every mail: the statement ClerkOthers of the program returns true, and its arguments read as before (no condition). -/
import Derived.Test.YtbgnajcmhmpjlabRows
import Derived.Test.YtbgnajcmhmpjlabE4

/- The plain mathematics of ClerkOthers: where a clerk's counters are as they were, so is what it holds. -/
namespace Go.Proofs.Ytbgnajcmhmpjlab
open Go.RowKit

/-- All that is held, to go and to come, together. -/
def wt : List H3 → Int
  | [] => 0
  | h :: r => (if h.2.2 < 0 then -h.2.2 else h.2.2) + wt r
theorem wt_nonneg (l : List H3) : 0 ≤ wt l := by
  induction l with
  | nil => exact Int.le_refl _
  | cons h r ih => unfold wt; split <;> omega
theorem wt_snoc (l : List H3) (h : H3) : wt (l ++ [h]) = wt l + (if h.2.2 < 0 then -h.2.2 else h.2.2) := by
  induction l with
  | nil => simp [wt]
  | cons x r ih => rw [List.cons_append, wt, ih, wt]; omega
theorem wt_cnt (n : Int) (l : List H3) (hl : ∀ h ∈ l, h.2.1 = n * 2 ∨ h.2.1 = n * 2 + 1) : outs l (n * 2) + inns l (n * 2) + (outs l (n * 2 + 1) + inns l (n * 2 + 1)) = wt l := by
  induction l with
  | nil => rfl
  | cons h r ih =>
    have i := ih (fun x hx => hl x (List.mem_cons_of_mem _ hx))
    unfold outs inns wt
    unfold outOf innOf
    have hh := hl h List.mem_cons_self
    repeat' split
    all_goals omega
theorem wt_filter (p : H3 → Bool) (l : List H3) : wt (l.filter p) ≤ wt l := by
  induction l with
  | nil => exact Int.le_refl _
  | cons h r ih =>
    rw [List.filter_cons]
    split
    · unfold wt; omega
    · have : wt (h :: r) = (if h.2.2 < 0 then -h.2.2 else h.2.2) + wt r := rfl
      rw [this]; split <;> omega
theorem wt_all (p : H3 → Bool) (l : List H3) (hl : ∀ h ∈ l, h.2.2 ≠ 0) (e : wt (l.filter p) = wt l) : l.filter p = l := by
  induction l with
  | nil => rfl
  | cons h r ih =>
    have hw : wt (h :: r) = (if h.2.2 < 0 then -h.2.2 else h.2.2) + wt r := rfl
    have hz := hl h List.mem_cons_self
    rw [List.filter_cons] at e ⊢
    split
    · rename_i q
      rw [if_pos q] at e
      have h2 : wt (h :: r.filter p) = (if h.2.2 < 0 then -h.2.2 else h.2.2) + wt (r.filter p) := rfl
      rw [ih (fun x hx => hl x (List.mem_cons_of_mem _ hx)) (by omega)]
    · rename_i q
      rw [if_neg q] at e
      have := wt_filter p r
      exfalso
      rw [hw] at e
      split at e <;> omega
theorem own_place {A : Bk} (hG : Good A) : ∀ h ∈ A.hs, h.2.1 = A.no * 2 ∨ h.2.1 = A.no * 2 + 1 := by
  intro h hm
  obtain ⟨_, _, e1, e2, _⟩ := hG.each h hm
  obtain ⟨c0, c6, _⟩ := wnt_ok e2
  have := shp_place c0 c6 e1
  omega
theorem own_delta {A : Bk} (hG : Good A) : ∀ h ∈ A.hs, h.2.2 ≠ 0 := by
  intro h hm
  obtain ⟨_, _, _, e2, _⟩ := hG.each h hm
  obtain ⟨_, _, e⟩ := wnt_ok e2
  intro z
  rw [z] at e
  exact absurd e (by decide)
theorem cnt_wt {A : Bk} (hG : Good A) : cnt6 A 1 + cnt6 A 2 + (cnt6 A 4 + cnt6 A 5) = wt A.hs := wt_cnt A.no A.hs (own_place hG)
theorem tell_same {A : Bk} (hG : Good A) (r : Stp) (h : ∀ j : Nat, j < 6 → cnt6 (tellR A r).2 j = cnt6 A j) : (tellR A r).2.hs = A.hs := by
  have e1 := cnt_wt hG
  have e2 := cnt_wt (good_tell hG r)
  rw [h 1 (by omega), h 2 (by omega), h 4 (by omega), h 5 (by omega), e1] at e2
  by_cases hc : rchk r = 0
  · by_cases h1 : r.what = 1
    · rw [tellR_hold hc h1] at e2 ⊢
      rcases holdR_cases A r.deal r.c r.d with ⟨_, e⟩ | ⟨hk, m, _, _, ⟨y, _, e⟩ | ⟨_, _, e⟩ | ⟨_, _, e⟩⟩
      · rw [e]
      · rw [e]
      · rw [e]
      · rw [e] at e2
        exfalso
        have e3 : wt A.hs = wt (A.hs ++ [(r.deal, r.c, r.d)]) := e2
        rw [wt_snoc] at e3
        obtain ⟨_, _, hw, _⟩ := chkS_zero hk
        obtain ⟨_, _, hd⟩ := wnt_ok hw
        have : r.d ≠ 0 := by intro z; rw [z] at hd; exact absurd hd (by decide)
        simp only at e3
        split at e3 <;> omega
    · rw [tellR_end hc h1] at e2 ⊢
      rcases endR_cases A r.deal r.done with ⟨_, e⟩ | ⟨_, _, ⟨b, _, e⟩ | ⟨_, e⟩⟩
      · rw [e]
      · rw [e]
      · rw [e] at e2 ⊢
        exact wt_all _ _ (own_delta hG) e2.symm
  · rw [tellR_bad hc]
theorem do_hs {K : Kb} (hG : Good K.A) (r : Stp) (h : ∀ j : Nat, j < 6 → cnt6 (doR K r).2.A j = cnt6 K.A j) : (doR K r).2.A.hs = K.A.hs := by
  rw [doR_book] at h ⊢
  exact tell_same hG r h
theorem ans_hs {no : Int} {K : Kb} {m : Ml} (hG : Good K.A) (h : ∀ j : Nat, j < 6 → cnt6 (ansR no K m).2.2.A j = cnt6 K.A j) : (ansR no K m).2.2.A.hs = K.A.hs := by
  by_cases hs : m.shop = no
  · by_cases h1 : m.kind = 1
    · rw [ans_ask hs h1] at h ⊢
      exact do_hs hG _ h
    · by_cases h3 : m.kind = 3
      · by_cases hz : (doR K (endS m)).1 = 0
        · rw [ans_end hs h3 hz] at h ⊢
          exact do_hs hG _ h
        · rw [ans_noend hs h3 hz]
      · rw [ans_kind hs h1 h3]
  · rw [ans_shop hs]

end Go.Proofs.Ytbgnajcmhmpjlab

/- The walk of ClerkOthers: it answers true, whatever shop, world, mails and mail it is given. -/
namespace Go.Proofs.Ytbgnajcmhmpjlab
open Go.RowKit

theorem eqHd (a b c d e f : Int) (W : World) : (Op.equalIn 10000 92 (.agg #[.int .i64 a, .int .i64 b, .int .i64 c]) (.agg #[.int .i64 d, .int .i64 e, .int .i64 f])).run Try.prog W = .ok (a == d && (b == e && c == f)) W := by
  rw [show (10000 : Nat) = 9999 + 1 from rfl]
  simp [Op.eqFields, go_sem]
  repeat' split
  all_goals simp_all
/-- Is a hold among the first ones? -/
def hitB (hs : List H3) (k : Nat) (x : H3) : Bool := (hs.take k).any (fun h => h.1 == x.1 && (h.2.1 == x.2.1 && h.2.2 == x.2.2))
theorem hitB_snoc {hs : List H3} {k : Nat} {h : H3} (e : hs[k]? = some h) (x : H3) : hitB hs (k + 1) x = (hitB hs k x || (h.1 == x.1 && (h.2.1 == x.2.1 && h.2.2 == x.2.2))) := by
  unfold hitB
  rw [take_snoc e, List.any_append]
  simp
theorem hitB_all {hs : List H3} {x : H3} (h : x ∈ hs) : hitB hs hs.length x = true := by
  unfold hitB
  rw [List.take_of_length_le (Nat.le_refl _), List.any_eq_true]
  exact ⟨x, h, by simp⟩
theorem six_of {A B : Bk} (h0 : cnt6 A 0 = cnt6 B 0) (h1 : cnt6 A 1 = cnt6 B 1) (h2 : cnt6 A 2 = cnt6 B 2) (h3 : cnt6 A 3 = cnt6 B 3) (h4 : cnt6 A 4 = cnt6 B 4) (h5 : cnt6 A 5 = cnt6 B 5) : ∀ j : Nat, j < 6 → cnt6 A j = cnt6 B j := by
  intro j hj
  rcases six_cases hj with rfl | rfl | rfl | rfl | rfl | rfl <;> assumption
theorem eqC_no {A B : Bk} (h : ¬ ∀ j : Nat, j < 6 → cnt6 B j = cnt6 A j) : ((cnt6 A 0 == cnt6 B 0 && (cnt6 A 1 == cnt6 B 1 && cnt6 A 2 == cnt6 B 2)) && (cnt6 A 3 == cnt6 B 3 && (cnt6 A 4 == cnt6 B 4 && cnt6 A 5 == cnt6 B 5))) = false := by
  rw [← Bool.not_eq_true]
  intro e
  simp only [Bool.and_eq_true, beq_iff_eq] at e
  exact h (six_of e.1.1.symm e.1.2.1.symm e.1.2.2.symm e.2.1.symm e.2.2.1.symm e.2.2.2.symm)

set_option maxHeartbeats 8000000 in
set_option maxRecDepth 100000 in
theorem cothers_walk (no : Int) (ws : Nat → Int) (la : Option Addr) (ll lc : Nat) (l : List Ml) (m : Ml) (w : World) (hl : MailsAt w la l) (hll : l.length = ll) :
    Calls Try.prog 11 #[.int .i64 no, .agg #[.int .i64 (ws 0), .int .i64 (ws 1), .int .i64 (ws 2), .int .i64 (ws 3), .int .i64 (ws 4), .int .i64 (ws 5)], .slice la ll lc, .agg #[.int .i64 m.kind, .int .i64 m.deal, .int .i64 m.shop, .int .i64 m.c, .int .i64 m.d, .bool m.yes]] w fun e w' => e = .returned (.bool true) ∧ Below w.heap.size w w' := by
  by_cases hbig : 150 < ll
  · have hbig' : (150 : Int) < (ll : Int) := by omega
    clear hl hll hbig
    go_enter Try.func11, Try.ntmps11
    go_wp2_with fail
    refine (cbegun_any _).mono ?_
    rintro e w1 ⟨rfl, hb1⟩
    go_wp2_with fail
    go_ret
    exact ⟨rfl, after (by go_grown) hb1 (by simp; omega)⟩
  · have hbig' : ¬ (150 : Int) < (ll : Int) := by omega
    have HB : Hid (ll ≤ 150) := by show _ ≤ _; omega
    clear hbig
    go_enter Try.func11, Try.ntmps11
    go_upto_region 1 with fail
    have hX := (box_new6 w ws 23).next ((Below.refl _ _).alloc (Nat.le_refl _) (.cells #[.int .i64 m.kind, .int .i64 m.deal, .int .i64 m.shop, .int .i64 m.c, .int .i64 m.d, .bool m.yes] 71))
    have hM := MlBox.new (w.alloc (.cells #[.int .i64 (ws 0), .int .i64 (ws 1), .int .i64 (ws 2), .int .i64 (ws 3), .int .i64 (ws 4), .int .i64 (ws 5)] 23)) m 71
    have hz : (w.alloc (.cells #[.int .i64 (ws 0), .int .i64 (ws 1), .int .i64 (ws 2), .int .i64 (ws 3), .int .i64 (ws 4), .int .i64 (ws 5)] 23)).heap.size = w.heap.size + 1 := by simp
    rw [hz] at hM
    have hb0 : Below w.heap.size w ((w.alloc (.cells #[.int .i64 (ws 0), .int .i64 (ws 1), .int .i64 (ws 2), .int .i64 (ws 3), .int .i64 (ws 4), .int .i64 (ws 5)] 23)).alloc (.cells #[.int .i64 m.kind, .int .i64 m.deal, .int .i64 m.shop, .int .i64 m.c, .int .i64 m.d, .bool m.yes] 71)) := by go_grown
    generalize ((w.alloc (.cells #[.int .i64 (ws 0), .int .i64 (ws 1), .int .i64 (ws 2), .int .i64 (ws 3), .int .i64 (ws 4), .int .i64 (ws 5)] 23)).alloc (.cells #[.int .i64 m.kind, .int .i64 m.deal, .int .i64 m.shop, .int .i64 m.c, .int .i64 m.d, .bool m.yes] 71)) = W0 at hX hM hb0 ⊢
    clear hz
    have hmb : w.heap.size ≤ w.heap.size + 1 := Nat.le_succ _
    generalize w.heap.size + 1 = mb at hM hmb ⊢
    go_wp2_with fail
    refine (cbegun_any _).mono ?_
    rintro e w1 ⟨rfl, hb1⟩
    have HT : Hid (MailsAt w la l) := hl
    have hX1 := hX.next hb1
    have hM1 := hM.next hb1
    have hb2 : Below w.heap.size w w1 := after hb0 hb1 hb0.size
    have x0 := hX1.2 0 _ rfl
    have x1 := hX1.2 1 _ rfl
    have x2 := hX1.2 2 _ rfl
    have x3 := hX1.2 3 _ rfl
    have x4 := hX1.2 4 _ rfl
    have x5 := hX1.2 5 _ rfl
    clear hb1 hl hX hX1 hM hb0
    go_wp2_with fail
    refine (cnew_any no ws _).mono ?_
    rintro e w2 ⟨hN, hb3⟩
    have hb4 : Below w.heap.size w w2 := after hb2 hb3 hb2.size
    have hM2 := hM1.next hb3
    clear x0 x1 x2 x3 x4 x5
    unfold NewCIs at hN
    by_cases hok : newOk no ws = true
    · rw [if_pos hok] at hN
      obtain ⟨c, O, rfl, hI, hO⟩ := hN
      have hL : CLive w (fun b => b = mb) w2 c no ws ⟨book0 no ws, []⟩ := ⟨⟨O, hI, fun k hk => ⟨Nat.le_trans hb2.size (hO k hk), fun e => by have := hO k hk; have := hM1.lt; omega⟩⟩, hb4, fun k e => by rw [e]; exact hM2.lt⟩
      have HG0 : Hid (GoodK (book0 no ws) ⟨book0 no ws, []⟩) := goodK_new (good_new hok) rfl rfl
      clear hI hO hb2 hb3 hok hb4 hM1
      go_upto_block 0 with fail
      go_cut [10] (fun _ wx => ∃ K, CLive w (fun b => b = mb) wx c no ws K ∧ MlBox wx mb m ∧ Hid (GoodK (book0 no ws) K) ∧ Hid (K.rs.length ≤ 150))
      case first =>
        go_wp2_with fail
        go_loopg [10] ll (fun g s10 wr => ∃ (k : Nat) (K : Kb), k ≤ ll ∧ g = ll - k ∧ s10 = .int .i64 k ∧ CLive w (fun b => b = mb) wr c no ws K ∧ MlBox wr mb m ∧ Hid (GoodK (book0 no ws) K) ∧ Hid (K.rs.length ≤ k))
        case atStart => exact ⟨0, _, Nat.zero_le _, rfl, rfl, hL, hM2, HG0, Nat.le_refl _⟩
        case round =>
          obtain ⟨k, K, hk, rfl, rfl, hL1, hM1, HG, HL⟩ := hrel
          clear hL HG0 hM2
          by_cases hlt : k < ll
          · obtain ⟨x, hkx⟩ : ∃ x, l[k]? = some x := ⟨_, List.getElem?_eq_getElem (by omega)⟩
            obtain ⟨bl, ol, rfl, hbl, hcell⟩ := HT.out k x hkx
            have hcell' : ∀ j v, x.cells[j]? = some v → wr.cell? ⟨bl, ol + k * 6 + j, none⟩ = some v := fun j v hj => (hL1.below.cell (p := ⟨bl, _, none⟩) hbl).trans (hcell j v hj)
            have p0 : wr.cell? ⟨bl, ol + k * 6, none⟩ = some (.int .i64 x.kind) := hcell' 0 _ rfl
            have p1 : wr.cell? ⟨bl, ol + k * 6 + 1, none⟩ = some (.int .i64 x.deal) := hcell' 1 _ rfl
            have p2 : wr.cell? ⟨bl, ol + k * 6 + 2, none⟩ = some (.int .i64 x.shop) := hcell' 2 _ rfl
            have p3 : wr.cell? ⟨bl, ol + k * 6 + 3, none⟩ = some (.int .i64 x.c) := hcell' 3 _ rfl
            have p4 : wr.cell? ⟨bl, ol + k * 6 + 4, none⟩ = some (.int .i64 x.d) := hcell' 4 _ rfl
            have p5 : wr.cell? ⟨bl, ol + k * 6 + 5, none⟩ = some (.bool x.yes) := hcell' 5 _ rfl
            have j0 : (0 : Int) ≤ (k : Int) := by omega
            have j1 : (k : Int) < (ll : Int) := by omega
            have HKN : Hid (k < ll) := hlt
            have HLen : Hid (K.A.hs.length < 2 ^ 40 ∧ K.rs.length < 2 ^ 40) := by
              have := HG.out.hl
              have := HL.out
              have := HB.out
              exact ⟨by omega, by omega⟩
            clear hcell hcell' hkx hk hlt hbl
            go_wp2_with fail
            refine Calls.mono (ans_live x hL1 HG.out.good HLen.out.1 HLen.out.2) ?_
            rintro e w3 ⟨rfl, hL3, hS3⟩
            have hM3 := hM1.save hS3 (fun q => q rfl)
            have HG3 : Hid (GoodK (book0 no ws) (ansR no K x).2.2) := goodK_ans HG.out no x
            have HL3 : Hid ((ansR no K x).2.2.rs.length ≤ k + 1) := by have := ans_len no K x; have := HL.out; show _ ≤ _; omega
            generalize ansR no K x = r at *
            go_wp2_with fail
            go_roundg (ll - (k + 1))
            case measure => have := HKN.out; omega
            case rel => exact ⟨k + 1, r.2.2, HKN.out, rfl, by simp, hL3, hM3, HG3, HL3⟩
          · have hkk : k = ll := by omega
            subst hkk
            clear hk hlt
            go_wp2_with fail
            go_meet
            case rel => exact ⟨K, hL1, hM1, HG, by have := HL.out; have := HB.out; show _ ≤ _; omega⟩
      case rest =>
        obtain ⟨K, hL1, hM1, HG, HL⟩ := hcut
        clear hL HG0 hM2 HT
        have HLen : Hid (K.A.hs.length ≤ 150 ∧ K.rs.length ≤ 150) := by have := HG.out.hl; have := HL.out; exact ⟨by omega, by omega⟩
        go_upto_region 12 with fail
        generalize wc = Wz at hL1 hM1 ⊢
        have HMb : Hid (MlBox Wz mb m) := hM1
        clear hM1
        go_cut [11, 12, 13] (fun s9 s10 s11 wx => CAsked w Wz (fun b => b = mb) c no ws K s9 s10 s11 wx)
        case first =>
          obtain ⟨q, cc0, hcl, hKL⟩ := hL1.keeper
          obtain ⟨p, c0, hql, hLs⟩ := hKL.shop
          have HK : Hid (∀ w', Below Wz.heap.size Wz w' → w'.cell? ⟨c, 0, none⟩ = some (.pointer (some ⟨q, 0, none⟩)) ∧ w'.cell? ⟨q, 0, none⟩ = some (.pointer (some ⟨p, 0, none⟩)) ∧ Below Wz.heap.size Wz w') := fun w' hb => ⟨((bcell hb).1 _ _ hcl).trans cc0, ((bcell hb).1 _ _ hql).trans c0, hb⟩
          have HC9 : Hid (∀ W : World, Below Wz.heap.size Wz W → Calls Try.prog 18 #[.pointer (some ⟨p, 0, none⟩)] W fun e w' => e = .returned (.agg #[.int .i64 (cnt6 K.A 0), .int .i64 (cnt6 K.A 1), .int .i64 (cnt6 K.A 2), .int .i64 (cnt6 K.A 3), .int .i64 (cnt6 K.A 4), .int .i64 (cnt6 K.A 5)]) ∧ Below W.heap.size W w') := fun W hW => (counts_live (hLs.next hW)).mono (fun e w' h => ⟨h.1, h.2.2⟩)
          have HC12 : Hid (∀ W : World, Below Wz.heap.size Wz W → Calls Try.prog 21 #[.pointer (some ⟨p, 0, none⟩)] W fun e w' => (∃ ga cap, e = .returned (.slice ga K.A.hs.length cap) ∧ HoldsAt w' ga K.A.hs ∧ (∀ a, ga = some a → W.heap.size ≤ a.block ∧ a.block < w'.heap.size)) ∧ Below W.heap.size W w') := fun W hW => (holds_live (hLs.next hW) (by have := HLen.out; omega)).mono (fun e w' h => ⟨h.1, h.2.2⟩)
          have HC19 : Hid (∀ W : World, Below Wz.heap.size Wz W → Calls Try.prog 28 #[.pointer (some ⟨q, 0, none⟩)] W fun e w' => (∃ ga cap, e = .returned (.slice ga K.rs.length cap) ∧ StepsAt w' ga K.rs ∧ (∀ a, ga = some a → W.heap.size ≤ a.block ∧ a.block < w'.heap.size)) ∧ Below W.heap.size W w') := fun W hW => (recs_live (hKL.next hW) (by have := HLen.out; omega)).mono (fun e w' h => by
            obtain ⟨⟨ga, cap, e1, e2, e3, _⟩, _, e4⟩ := h
            exact ⟨⟨ga, cap, e1, e2, e3⟩, e4⟩)
          have HL1 : Hid (CLive w (fun b => b = mb) Wz c no ws K) := hL1
          clear hLs hL1 hKL cc0 c0
          go_region_held3 (fun w' => w'.cell? ⟨c, 0, none⟩ = some (.pointer (some ⟨q, 0, none⟩)) ∧ w'.cell? ⟨q, 0, none⟩ = some (.pointer (some ⟨p, 0, none⟩)) ∧ Below Wz.heap.size Wz w')
            (first | exact HK.out _ (by go_grown))
            (first | (go_at_call 18; refine Calls.mono (HC9.out _ (by go_grown)) ?_; rintro e w9 ⟨rfl, hb9⟩; have hw9 : Below Wz.heap.size Wz w9 := after (by go_grown) hb9 (by simp); have hz9 : Wz.heap.size ≤ w9.heap.size := hw9.size; have hy9 := hb9.size; (try simp [Nat.add_one_le_iff] at hy9); obtain ⟨hc9, hf9⟩ := bcell hb9) | (go_at_call 21; refine Calls.mono (HC12.out _ (by go_grown)) ?_; rintro e w10 ⟨⟨ga, capa, rfl, hA10, hf10⟩, hb10⟩; have HA10 : Hid (HoldsAt w10 ga K.A.hs) := hA10; have HF10 : Hid _ := hf10; clear hA10 hf10; have hv10 : Below w9.heap.size w9 w10 := after (by go_grown) hb10 (by simp); have hw10 : Below Wz.heap.size Wz w10 := after (by go_grown) hb10 (by first | assumption | (simp; omega)); have hz10 : Wz.heap.size ≤ w10.heap.size := hw10.size; have hy10 := hb10.size; (try simp [Nat.add_one_le_iff] at hy10); obtain ⟨hc10, hf10⟩ := bcell hb10; (try (have hq10 : Wz.heap.size < w10.heap.size := by omega))) | (go_at_call 28; refine Calls.mono (HC19.out _ (by go_grown)) ?_; rintro e w11 ⟨⟨gr, capr, rfl, hA11, hf11⟩, hb11⟩; have HA11 : Hid (StepsAt w11 gr K.rs) := hA11; have HF11 : Hid _ := hf11; clear hA11 hf11; have hv11 : Below w10.heap.size w10 w11 := after (by go_grown) hb11 (by simp); have hw11 : Below Wz.heap.size Wz w11 := after (by go_grown) hb11 (by first | assumption | (simp; omega)); have hz11 : Wz.heap.size ≤ w11.heap.size := hw11.size; have hy11 := hb11.size; (try simp [Nat.add_one_le_iff] at hy11); obtain ⟨hc11, hf11⟩ := bcell hb11; (try (have hq11 : Wz.heap.size < w11.heap.size := by omega)); (try (have hq12 : w9.heap.size < w11.heap.size := by omega))))
          all_goals
            go_wp2_with fail
            go_meet
            case rel =>
              clear HC9 HC12 HC19 HK
              refine casked_of HL1.out hw11 (HA10.out.below hv11 (Nat.le_refl _)) HA11.out ?_ ?_ ?_ ?_ ?_
              · first
                  | with_reducible exact box_new6' _ _ _ _ _ _ _ _
                  | (with_reducible refine box_set6 ?_ ?_ _ _ _ _ _ _
                     · have h1 := hb11.size
                       have h2 := hb10.size
                       (try simp at h1)
                       (try simp at h2)
                       omega
                     · intro j hj
                       rcases six_cases hj with rfl | rfl | rfl | rfl | rfl | rfl
                       all_goals
                         first
                           | (refine ⟨.int .i64 0, ?_⟩; simp [go_sem, hc11]; done)
                           | (refine ⟨.int .i64 0, ?_⟩; simp [go_sem, hc11, hc10, hy10]; done)
                           | (refine ⟨.int .i64 0, ?_⟩; simp [go_sem, hc11, hc10, hc9, hq10, hy9]; done))
              · first
                  | with_reducible exact save_6 _ _ _ _ _ _ _ _
                  | with_reducible exact save_new _ _
              · first
                  | exact Nat.le_refl _
                  | omega
              · intro a e
                have h1 := HF10.out a e
                (try simp at h1)
                omega
              · intro a e
                have h1 := HF11.out a e
                (try simp at h1)
                omega
        case rest =>
          obtain ⟨cb, ga, capa, gr, capr, rfl, rfl, rfl, hC, hA, hR, hL2, hbz⟩ := hcut
          have hM2 := HMb.out.next hbz
          clear hL1 hbz HMb
          go_upto_region 13 with fail
          generalize wc = Wo at *
          go_cut [14, 15] (fun s14 s15 wx => s14 = .bool (ovB K.A.es m.deal) ∧ s15 = .bool (dnB K.A.es m.deal) ∧ Below Wo.heap.size Wo wx)
          case first =>
            obtain ⟨q, cc0, hcl, hKL⟩ := hL2.keeper
            obtain ⟨p, c0, hql, hLs⟩ := hKL.shop
            have HK : Hid (∀ w', Below Wo.heap.size Wo w' → w'.cell? ⟨c, 0, none⟩ = some (.pointer (some ⟨q, 0, none⟩)) ∧ w'.cell? ⟨q, 0, none⟩ = some (.pointer (some ⟨p, 0, none⟩)) ∧ w'.cell? ⟨mb, 1, none⟩ = some (.int .i64 m.deal) ∧ Below Wo.heap.size Wo w') := fun w' hb => ⟨((bcell hb).1 _ _ hcl).trans cc0, ((bcell hb).1 _ _ hql).trans c0, (hM2.next hb).c1, hb⟩
            have HCo : Hid (∀ W : World, Below Wo.heap.size Wo W → Calls Try.prog 29 #[.pointer (some ⟨p, 0, none⟩), .int .i64 m.deal] W fun e w' => e = .returned (.tuple #[.bool (ovB K.A.es m.deal), .bool (dnB K.A.es m.deal)]) ∧ Below W.heap.size W w') := fun W hW => (over_live (hLs.next hW) HG.out.good m.deal).mono (fun e w' h => ⟨h.1, h.2.2⟩)
            clear hLs hKL hL2 hC hA hR hM2 c0 cc0
            go_region_held3 (fun w' => w'.cell? ⟨c, 0, none⟩ = some (.pointer (some ⟨q, 0, none⟩)) ∧ w'.cell? ⟨q, 0, none⟩ = some (.pointer (some ⟨p, 0, none⟩)) ∧ w'.cell? ⟨mb, 1, none⟩ = some (.int .i64 m.deal) ∧ Below Wo.heap.size Wo w')
              (first | exact HK.out _ (by go_grown))
              (first | (go_at_call 29; refine Calls.mono (HCo.out _ (by go_grown)) ?_; rintro e w9 ⟨rfl, hb9⟩; have hw9 : Below Wo.heap.size Wo w9 := after (by go_grown) hb9 (by simp); have hz9 : Wo.heap.size ≤ w9.heap.size := hw9.size))
            all_goals
              go_wp2_with fail
              go_meet
              case rel => exact ⟨rfl, rfl, by go_grown⟩
          case rest =>
            obtain ⟨rfl, rfl, hbz⟩ := hcut
            have hM3 := hM2.next hbz
            have hC3 := hC.next hbz
            have hA3 := hA.below hbz (Nat.le_refl _)
            have hR3 := hR.below hbz (Nat.le_refl _)
            have hL3 := hL2.next hbz
            clear hM2 hC hA hR hL2 hbz
            obtain ⟨ml, m0, m1, m2, m3, m4, m5, mf⟩ := hM3
            have HM3 : Hid (MlBox wc mb m) := ⟨ml, m0, m1, m2, m3, m4, m5, mf⟩
            go_wp2_with fail
            refine Calls.mono (ans_live m hL3 HG.out.good (by have := HLen.out; omega) (by have := HLen.out; omega)) ?_
            rintro e w5 ⟨rfl, hL5, hS5⟩
            have hM5 := HM3.out.save hS5 (fun e => e (.inl rfl))
            have hC5 := hC3.save hS5 (fun e => e (.inr (.inl rfl)))
            have hA5 := hA3.save hS5 (fun a e q => q (.inr (.inr (.inl ⟨a, e, rfl⟩))))
            have hR5 := hR3.save hS5 (fun a e q => q (.inr (.inr (.inr ⟨a, e, rfl⟩))))
            clear HM3 hS5 hC3 hA3 hR3 hL3 ml m0 m1 m2 m3 m4 m5 mf
            have HG2 : Hid (GoodK (book0 no ws) (ansR no K m).2.2) := goodK_ans HG.out no m
            have HLen2 : Hid ((ansR no K m).2.2.A.hs.length ≤ 151 ∧ (ansR no K m).2.2.rs.length ≤ 151) := by
              have := HG2.out.hl
              have := ans_len no K m
              have := HLen.out
              exact ⟨by omega, by omega⟩
            have HHs : Hid ((∀ j : Nat, j < 6 → cnt6 (ansR no K m).2.2.A j = cnt6 K.A j) → (ansR no K m).2.2.A.hs = K.A.hs) := ans_hs HG.out.good
            have HR : Hid _ := Eq.refl (ansR no K m)
            obtain ⟨rr, hrr⟩ : ∃ rr, rr = ansR no K m := ⟨_, rfl⟩
            rw [← hrr] at hL5 HG2 HLen2 HHs ⊢
            have HRR : Hid (ansR no K m = rr) := hrr.symm
            clear hrr HR
            obtain ⟨a, z, K2⟩ := rr
            unfold ansV mlV
            dsimp only at *
            go_upto_region 15 with fail
            have hbn : Below w5.heap.size w5 (w5.alloc (.cells #[.int .i64 a.kind, .int .i64 a.deal, .int .i64 a.shop, .int .i64 a.c, .int .i64 a.d, .bool a.yes] 71)) := (Below.refl _ _).alloc (Nat.le_refl _) _
            have hM6 := hM5.next hbn
            have hB6 := MlBox.new w5 a 71
            have hC6 := hC5.next hbn
            have hA6 := hA5.below hbn (Nat.le_refl _)
            have hR6 := hR5.below hbn (Nat.le_refl _)
            have hL6 : CLive w (fun _ => False) (w5.alloc (.cells #[.int .i64 a.kind, .int .i64 a.deal, .int .i64 a.shop, .int .i64 a.c, .int .i64 a.d, .bool a.yes] 71)) c no ws K2 := (hL5.next hbn).less (fun _ q => q.elim)
            generalize (w5.alloc (.cells #[.int .i64 a.kind, .int .i64 a.deal, .int .i64 a.shop, .int .i64 a.c, .int .i64 a.d, .bool a.yes] 71)) = wz at hM6 hB6 hC6 hA6 hR6 hL6 ⊢
            generalize w5.heap.size = bb at hB6 ⊢
            clear hL5 hbn hM5 hC5 hA5 hR5
            go_cut [18] (fun s18 wx => (∃ sm, s18 = .bool sm ∧ Hid (K2 = K → sm = true)) ∧ Below wz.heap.size wz wx)
            case first =>
              obtain ⟨q, cc0, hcl, hKL⟩ := hL6.keeper
              obtain ⟨p, c0, hql, hLs⟩ := hKL.shop
              have HK : Hid (∀ w', Below wz.heap.size wz w' → w'.cell? ⟨c, 0, none⟩ = some (.pointer (some ⟨q, 0, none⟩)) ∧ w'.cell? ⟨q, 0, none⟩ = some (.pointer (some ⟨p, 0, none⟩)) ∧ w'.cell? ⟨cb, 0, none⟩ = some (.int .i64 (cnt6 K.A 0)) ∧ w'.cell? ⟨cb, 1, none⟩ = some (.int .i64 (cnt6 K.A 1)) ∧ w'.cell? ⟨cb, 2, none⟩ = some (.int .i64 (cnt6 K.A 2)) ∧ w'.cell? ⟨cb, 3, none⟩ = some (.int .i64 (cnt6 K.A 3)) ∧ w'.cell? ⟨cb, 4, none⟩ = some (.int .i64 (cnt6 K.A 4)) ∧ w'.cell? ⟨cb, 5, none⟩ = some (.int .i64 (cnt6 K.A 5)) ∧ Below wz.heap.size wz w') := fun w' hb => by
                have h1 := hC6.next hb
                exact ⟨((bcell hb).1 _ _ hcl).trans cc0, ((bcell hb).1 _ _ hql).trans c0, h1.2 0 _ rfl, h1.2 1 _ rfl, h1.2 2 _ rfl, h1.2 3 _ rfl, h1.2 4 _ rfl, h1.2 5 _ rfl, hb⟩
              have HC1 : Hid (∀ W : World, Below wz.heap.size wz W → Calls Try.prog 18 #[.pointer (some ⟨p, 0, none⟩)] W fun e w' => e = .returned (.agg #[.int .i64 (cnt6 K2.A 0), .int .i64 (cnt6 K2.A 1), .int .i64 (cnt6 K2.A 2), .int .i64 (cnt6 K2.A 3), .int .i64 (cnt6 K2.A 4), .int .i64 (cnt6 K2.A 5)]) ∧ Below W.heap.size W w') := fun W hW => (counts_live (hLs.next hW)).mono (fun e w' h => ⟨h.1, h.2.2⟩)
              by_cases hcn : ∀ j : Nat, j < 6 → cnt6 K2.A j = cnt6 K.A j
              · have hhs := HHs.out hcn
                have HC3 : Hid (∀ W : World, Below wz.heap.size wz W → Calls Try.prog 21 #[.pointer (some ⟨p, 0, none⟩)] W fun e w' => (∃ gh cap, e = .returned (.slice gh K.A.hs.length cap) ∧ HoldsAt w' gh K.A.hs) ∧ Below W.heap.size W w') := fun W hW => (holds_live (hLs.next hW) (by have := HLen2.out; omega)).mono (fun e w' h => by
                  obtain ⟨⟨gh, capb, e1, e2, _⟩, _, e3⟩ := h
                  rw [hhs] at e1 e2
                  exact ⟨⟨gh, capb, e1, e2⟩, e3⟩)
                have HC4 : Hid (∀ (W W' : World) (gh : Option Addr) (capb : Nat), Below wz.heap.size wz W → HoldsAt W gh K.A.hs → Below W.heap.size W W' → Calls Try.prog 20 #[.slice ga K.A.hs.length capa, .slice gh K.A.hs.length capb] W' fun e w' => e = .returned (.bool true) ∧ Below W'.heap.size W' w') := fun W W' gh capb hW hB hW' => (sameHolds_any ga gh _ _ capa capb K.A.hs K.A.hs W' ((hA6.below hW (Nat.le_refl _)).below hW' (Nat.le_refl _)) (hB.below hW' (Nat.le_refl _)) rfl rfl (by have := HLen.out; omega)).mono (fun e w' h => ⟨by rw [h.1]; exact ret_bool (decide_eq_true rfl), h.2⟩)
                have HC5 : Hid (∀ W : World, Below wz.heap.size wz W → Calls Try.prog 28 #[.pointer (some ⟨q, 0, none⟩)] W fun e w' => (∃ gc cap, e = .returned (.slice gc K2.rs.length cap) ∧ StepsAt w' gc K2.rs) ∧ Below W.heap.size W w') := fun W hW => (recs_live (hKL.next hW) (by have := HLen2.out; omega)).mono (fun e w' h => by
                  obtain ⟨⟨gc, capc, e1, e2, _⟩, _, e3⟩ := h
                  exact ⟨⟨gc, capc, e1, e2⟩, e3⟩)
                obtain ⟨b3, hb3⟩ : ∃ b3 : Bool, b3 = true ↔ K.rs = K2.rs := by
                  by_cases h : K.rs = K2.rs
                  · exact ⟨true, fun _ => h, fun _ => rfl⟩
                  · exact ⟨false, fun q => (nomatch q), fun q => absurd q h⟩
                have HB3 : Hid (K2 = K → b3 = true) := fun e => hb3.2 (by rw [e])
                have HC6 : Hid (∀ (W W' : World) (gc : Option Addr) (capc : Nat), Below wz.heap.size wz W → StepsAt W gc K2.rs → Below W.heap.size W W' → Calls Try.prog 27 #[.slice gr K.rs.length capr, .slice gc K2.rs.length capc] W' fun e w' => e = .returned (.bool b3) ∧ Below W'.heap.size W' w') := fun W W' gc capc hW hB hW' => (sameRecs_any gr gc _ _ capr capc K.rs K2.rs W' ((hR6.below hW (Nat.le_refl _)).below hW' (Nat.le_refl _)) (hB.below hW' (Nat.le_refl _)) rfl rfl (by have := HLen.out; omega)).mono (fun e w' h => by
                  obtain ⟨⟨b, e1, e2⟩, e3⟩ := h
                  have : b = b3 := Bool.eq_iff_iff.2 (e2.trans hb3.symm)
                  exact ⟨by rw [e1, this], e3⟩)
                have hq1 : ∀ W : World, (Op.equalIn 10000 36 (.agg #[.int .i64 (cnt6 K.A 0), .int .i64 (cnt6 K.A 1), .int .i64 (cnt6 K.A 2), .int .i64 (cnt6 K.A 3), .int .i64 (cnt6 K.A 4), .int .i64 (cnt6 K.A 5)]) (.agg #[.int .i64 (cnt6 K2.A 0), .int .i64 (cnt6 K2.A 1), .int .i64 (cnt6 K2.A 2), .int .i64 (cnt6 K2.A 3), .int .i64 (cnt6 K2.A 4), .int .i64 (cnt6 K2.A 5)])).run Try.prog W = .ok true W := fun W => by rw [eqC, hcn 0 (by omega), hcn 1 (by omega), hcn 2 (by omega), hcn 3 (by omega), hcn 4 (by omega), hcn 5 (by omega)]; simp
                clear hLs hKL hL6 hC6 hM6 hB6 hA6 hR6 c0 cc0 hcn hhs hb3 HHs
                go_region_held3 (fun w' => w'.cell? ⟨c, 0, none⟩ = some (.pointer (some ⟨q, 0, none⟩)) ∧ w'.cell? ⟨q, 0, none⟩ = some (.pointer (some ⟨p, 0, none⟩)) ∧ w'.cell? ⟨cb, 0, none⟩ = some (.int .i64 (cnt6 K.A 0)) ∧ w'.cell? ⟨cb, 1, none⟩ = some (.int .i64 (cnt6 K.A 1)) ∧ w'.cell? ⟨cb, 2, none⟩ = some (.int .i64 (cnt6 K.A 2)) ∧ w'.cell? ⟨cb, 3, none⟩ = some (.int .i64 (cnt6 K.A 3)) ∧ w'.cell? ⟨cb, 4, none⟩ = some (.int .i64 (cnt6 K.A 4)) ∧ w'.cell? ⟨cb, 5, none⟩ = some (.int .i64 (cnt6 K.A 5)) ∧ Below wz.heap.size wz w')
                  (first | exact HK.out _ (by go_grown))
                  (first | (go_at_call 18; refine Calls.mono (HC1.out _ (by go_grown)) ?_; rintro e w9 ⟨rfl, hb9⟩; have hw9 : Below wz.heap.size wz w9 := after (by go_grown) hb9 (by simp); have hz9 : wz.heap.size ≤ w9.heap.size := hw9.size) | (go_at_call 21; refine Calls.mono (HC3.out _ (by go_grown)) ?_; rintro e w11 ⟨⟨gh, capb, rfl, hAB⟩, hb11⟩; have HAB : Hid (HoldsAt w11 gh K.A.hs) := hAB; clear hAB; have hw11 : Below wz.heap.size wz w11 := after hw9 hb11 hz9; have hz11 : wz.heap.size ≤ w11.heap.size := hw11.size) | (go_at_call 20; refine Calls.mono (HC4.out w11 _ gh capb hw11 HAB.out (by go_grown)) ?_; rintro e w12 ⟨rfl, hb12⟩; have hw12 : Below wz.heap.size wz w12 := after hw11 hb12 hz11; have hz12 : wz.heap.size ≤ w12.heap.size := hw12.size) | (go_at_call 28; refine Calls.mono (HC5.out _ (by go_grown)) ?_; rintro e w13 ⟨⟨gc, capc, rfl, hAC⟩, hb13⟩; have HAC : Hid (StepsAt w13 gc K2.rs) := hAC; clear hAC; have hw13 : Below wz.heap.size wz w13 := after hw12 hb13 hz12; have hz13 : wz.heap.size ≤ w13.heap.size := hw13.size) | (go_at_call 27; refine Calls.mono (HC6.out w13 _ gc capc hw13 HAC.out (by go_grown)) ?_; rintro e w14 ⟨rfl, hb14⟩; have hw14 : Below wz.heap.size wz w14 := after hw13 hb14 hz13; have hz14 : wz.heap.size ≤ w14.heap.size := hw14.size))
                all_goals
                  go_wp2_with fail
                  go_meet
                  case rel => exact ⟨⟨_, rfl, HB3⟩, by go_grown⟩
              · have hq1 : ∀ W : World, (Op.equalIn 10000 36 (.agg #[.int .i64 (cnt6 K.A 0), .int .i64 (cnt6 K.A 1), .int .i64 (cnt6 K.A 2), .int .i64 (cnt6 K.A 3), .int .i64 (cnt6 K.A 4), .int .i64 (cnt6 K.A 5)]) (.agg #[.int .i64 (cnt6 K2.A 0), .int .i64 (cnt6 K2.A 1), .int .i64 (cnt6 K2.A 2), .int .i64 (cnt6 K2.A 3), .int .i64 (cnt6 K2.A 4), .int .i64 (cnt6 K2.A 5)])).run Try.prog W = .ok false W := fun W => by rw [eqC, eqC_no hcn]
                have HB3 : Hid (K2 = K → false = true) := fun e => absurd (fun j _ => by rw [e]) hcn
                clear hLs hKL hL6 hC6 hM6 hB6 hA6 hR6 c0 cc0 hcn HHs
                refine region_class (C := (fun w' => w'.cell? ⟨c, 0, none⟩ = some (.pointer (some ⟨q, 0, none⟩)) ∧ w'.cell? ⟨q, 0, none⟩ = some (.pointer (some ⟨p, 0, none⟩)) ∧ w'.cell? ⟨cb, 0, none⟩ = some (.int .i64 (cnt6 K.A 0)) ∧ w'.cell? ⟨cb, 1, none⟩ = some (.int .i64 (cnt6 K.A 1)) ∧ w'.cell? ⟨cb, 2, none⟩ = some (.int .i64 (cnt6 K.A 2)) ∧ w'.cell? ⟨cb, 3, none⟩ = some (.int .i64 (cnt6 K.A 3)) ∧ w'.cell? ⟨cb, 4, none⟩ = some (.int .i64 (cnt6 K.A 4)) ∧ w'.cell? ⟨cb, 5, none⟩ = some (.int .i64 (cnt6 K.A 5)) ∧ Below wz.heap.size wz w')) (by kernel_rfl) (by kernel_rfl) (HK.out _ ((Below.refl _ _).drew)) ?_
                repeat (first
                  | go_big_quiet_skip
                  | (go_big_quiet_want
                     refine q_val (v := ?_) (fun w' hS => ?_) ?_
                     rotate_left
                     focus
                       go_simp
                       all_goals (with_reducible rfl)
                     go_big_quiet_on
                     (try simp only [Act.put, List.setIfInBounds_toArray, List.set_cons_zero, List.set_cons_succ]))
                  | (go_big_quiet_want
                     refine q_call (v := ?_) (f := ?_) (args := ?_) (fun w' hS => ?_) (fun w' hS => ?_) ?_
                     rotate_left 3
                     focus
                       go_simp
                       constructor <;> with_reducible rfl
                     focus
                       go_at_call 18
                       refine Calls.mono (HC1.out _ hS.2.2.2.2.2.2.2.2) ?_
                       rintro e w7 ⟨rfl, hb7⟩
                       refine ⟨?_, HK.out _ (after hS.2.2.2.2.2.2.2.2 hb7 hS.2.2.2.2.2.2.2.2.size)⟩
                       with_reducible rfl
                     go_big_quiet_on
                     (try simp only [Act.put, List.setIfInBounds_toArray, List.set_cons_zero, List.set_cons_succ])))
                refine wpQuiet_nil ?_
                intro w8 hC8
                go_wp2_with fail
                go_meet
                case rel => exact ⟨⟨_, rfl, HB3⟩, hC8.2.2.2.2.2.2.2.2⟩
            case rest =>
              obtain ⟨⟨sm, rfl, HSm⟩, hbz⟩ := hcut
              have hL7 := hL6.next hbz
              have hM7 := hM6.next hbz
              have hB7 := hB6.next hbz
              clear hL6 hC6 hM6 hB6 hA6 hR6 hbz HHs
              have HBw : Hid (Below w.heap.size w wc) := hL7.below
              obtain ⟨ml, m0, m1, m2, m3, m4, m5, mf⟩ := hM7
              go_upto_region 16 with fail
              have d1 : ∀ {x y : Int}, x ≠ y → (x != y) = true := fun h => by simpa using h
              have d0 : ∀ {x y : Int}, x = y → (x != y) = false := fun h => by simp [h]
              by_cases hs : m.shop = no
              · have hs' := d0 hs
                by_cases h1 : m.kind = 1
                · have h1' := d0 h1
                  have h13 : (m.kind == 3) = false := by simp [h1]
                  have he := HRR.out
                  rw [ans_ask hs h1] at he
                  have ea : a = ⟨2, m.deal, m.shop, m.c, m.d, (doR K (askS m)).1 == 0⟩ := (congrArg (fun t => t.1) he).symm
                  have ez : z = true := (congrArg (fun t => t.2.1) he).symm
                  have eK : K2 = (doR K (askS m)).2 := (congrArg (fun t => t.2.2) he).symm
                  have y5 : wc.cell? ⟨bb, 5, none⟩ = some (.bool ((doR K (askS m)).1 == 0)) := by have := hB7.c5; rw [ea] at this; exact this
                  have yl := hB7.lt
                  subst ez
                  clear he hs d0 d1 HRR ea hB7
                  by_cases hz : (doR K (askS m)).1 = 0
                  · have hz' : ((doR K (askS m)).1 == 0) = true := by simp [hz]
                    rw [hz'] at y5
                    obtain ⟨hin, hov⟩ := ask_yes hz
                    rw [← eK] at hin
                    have hv : ovB K.A.es m.deal = false := by unfold ovB; rw [hov]; rfl
                    rw [hv]
                    clear hz hz' hov hv eK h1
                    obtain ⟨q, cc0, hcl, hKL⟩ := hL7.keeper
                    obtain ⟨p, c0, hql, hLs⟩ := hKL.shop
                    have HC3 : Hid (∀ W : World, Below wc.heap.size wc W → Calls Try.prog 21 #[.pointer (some ⟨p, 0, none⟩)] W fun e w' => (∃ gh cap, e = .returned (.slice gh K2.A.hs.length cap) ∧ HoldsAt w' gh K2.A.hs) ∧ Below W.heap.size W w') := fun W hW => (holds_live (hLs.next hW) (by have := HLen2.out; omega)).mono (fun e w' h => by
                      obtain ⟨⟨gh, capb, e1, e2, _⟩, _, e3⟩ := h
                      exact ⟨⟨gh, capb, e1, e2⟩, e3⟩)
                    have HM7 : Hid (MlBox wc mb m) := ⟨ml, m0, m1, m2, m3, m4, m5, mf⟩
                    clear hKL hLs hL7
                    go_wp2_with fail
                    refine Calls.mono (HC3.out _ (Below.refl _ _)) ?_
                    rintro e wh ⟨⟨gh, caph, rfl, hHh⟩, hbh⟩
                    have HHh : Hid (HoldsAt wh gh K2.A.hs) := hHh
                    have HBh : Hid (Below w.heap.size w wh) := after HBw.out hbh HBw.out.size
                    have HMh : Hid (MlBox wh mb m) := HM7.out.next hbh
                    have HIn : Hid ((m.deal, m.c, m.d) ∈ K2.A.hs) := hin
                    have HLh : Hid (K2.A.hs.length ≤ 151) := HLen2.out.1
                    clear hHh hbh HM7 HBw hin HC3 c0 cc0 hcl hql y5 yl ml m0 m1 m2 m3 m4 m5 mf HLen2 HG2 HSm
                    generalize K2.A.hs = hs at *
                    have n2 : (hs.length : Int) ≤ 151 := by have := HLh.out; omega
                    go_wp2_with fail
                    go_loopg [19, 20] hs.length (fun g s19 s20 wr => ∃ k : Nat, k ≤ hs.length ∧ g = hs.length - k ∧ s19 = .bool (hitB hs k (m.deal, m.c, m.d)) ∧ s20 = .int .i64 k ∧ Below wh.heap.size wh wr)
                    case atStart => exact ⟨0, Nat.zero_le _, rfl, rfl, rfl, Below.refl _ _⟩
                    case round =>
                      obtain ⟨k, hk, rfl, rfl, rfl, hbr⟩ := hrel
                      by_cases hlt : k < hs.length
                      · obtain ⟨⟨xa, xc, xd⟩, hkx⟩ : ∃ x, hs[k]? = some x := ⟨_, List.getElem?_eq_getElem hlt⟩
                        obtain ⟨bl, ol, rfl, hbl, q0, q1, q2⟩ := HHh.out k xa xc xd hkx
                        have r0 : wr.cell? ⟨bl, ol + k * 3, none⟩ = some (.int .i64 xa) := (hbr.cell (p := ⟨bl, _, none⟩) hbl).trans q0
                        have r1 : wr.cell? ⟨bl, ol + k * 3 + 1, none⟩ = some (.int .i64 xc) := (hbr.cell (p := ⟨bl, _, none⟩) hbl).trans q1
                        have r2 : wr.cell? ⟨bl, ol + k * 3 + 2, none⟩ = some (.int .i64 xd) := (hbr.cell (p := ⟨bl, _, none⟩) hbl).trans q2
                        obtain ⟨ml, m0, m1, m2, m3, m4, m5, mf⟩ := HMh.out.next hbr
                        have j0 : (0 : Int) ≤ (k : Int) := by omega
                        have j1 : (k : Int) < (hs.length : Int) := by omega
                        have HKN : Hid (k < hs.length) := hlt
                        have HSn : Hid _ := hitB_snoc hkx (m.deal, m.c, m.d)
                        have hqh : ∀ W : World, (Op.equalIn 10000 92 (.agg #[.int .i64 xa, .int .i64 xc, .int .i64 xd]) (.agg #[.int .i64 m.deal, .int .i64 m.c, .int .i64 m.d])).run Try.prog W = .ok (xa == m.deal && (xc == m.c && xd == m.d)) W := eqHd _ _ _ _ _ _
                        clear q0 q1 q2 hkx hk hlt hbl
                        generalize hitB hs k (m.deal, m.c, m.d) = hit at *
                        cases hit
                        · go_upto_region 27 with fail
                          go_quiet (fail)
                          go_wp2_with fail
                          go_roundg (hs.length - (k + 1))
                          case measure => have := HKN.out; omega
                          case rel => exact ⟨k + 1, HKN.out, rfl, by rw [HSn.out]; simp, by simp, bdrewN hbr _⟩
                        · go_upto_region 27 with fail
                          go_quiet (fail)
                          go_wp2_with fail
                          go_roundg (hs.length - (k + 1))
                          case measure => have := HKN.out; omega
                          case rel => exact ⟨k + 1, HKN.out, rfl, by rw [HSn.out]; simp, by simp, bdrewN hbr _⟩
                      · have hkk : k = hs.length := by omega
                        subst hkk
                        rw [hitB_all HIn.out]
                        go_wp2_with fail
                        go_ret
                        exact ⟨rfl, after HBh.out hbr HBh.out.size⟩
                  · have hz' : ((doR K (askS m)).1 == 0) = false := by simpa using hz
                    rw [hz'] at y5
                    have hsm := HSm.out (by rw [eK]; exact do_code hz)
                    subst hsm
                    clear hz hz' eK h1
                    go_wp2_with fail
                    go_ret
                    exact ⟨rfl, HBw.out⟩
                · have h1' := d1 h1
                  by_cases h3 : m.kind = 3
                  · have h3' := d0 h3
                    have h33 : (m.kind == 3) = true := by simp [h3]
                    cases ho : ovB K.A.es m.deal with
                    | false =>
                      clear HRR h1 h3 hs d0 d1
                      go_wp2_with fail
                      go_ret
                      exact ⟨rfl, HBw.out⟩
                    | true =>
                      by_cases hd : dnB K.A.es m.deal = m.yes
                      · rw [hd]
                        have hdd : (m.yes != m.yes) = false := by simp
                        clear HRR h1 h3 hs d0 d1 hd
                        go_wp2_with fail
                        go_ret
                        exact ⟨rfl, HBw.out⟩
                      · obtain ⟨b, hb⟩ : ∃ b, over K.A.es m.deal = some b := Option.isSome_iff_exists.1 ho
                        have hbd : dnB K.A.es m.deal = b := by unfold dnB; rw [hb]; cases b <;> rfl
                        have hdd : (dnB K.A.es m.deal != m.yes) = true := by simpa using hd
                        have he := HRR.out
                        rw [ans_other HG.out.good h3 hb (by rw [← hbd]; exact hd)] at he
                        clear hbd hb hd h1 h3 hs d0 d1 ho
                        generalize dnB K.A.es m.deal = dn at *
                        have ea : a = noMl := (congrArg (fun t => t.1) he).symm
                        have ez : z = false := (congrArg (fun t => t.2.1) he).symm
                        have eK : K2 = K := (congrArg (fun t => t.2.2) he).symm
                        have hsm := HSm.out eK
                        subst hsm
                        subst ez
                        subst ea
                        have y0 : wc.cell? ⟨bb, 0, none⟩ = some (.int .i64 0) := hB7.c0
                        have y1 : wc.cell? ⟨bb, 1, none⟩ = some (.int .i64 0) := hB7.c1
                        have y2 : wc.cell? ⟨bb, 2, none⟩ = some (.int .i64 0) := hB7.c2
                        have y3 : wc.cell? ⟨bb, 3, none⟩ = some (.int .i64 0) := hB7.c3
                        have y4 : wc.cell? ⟨bb, 4, none⟩ = some (.int .i64 0) := hB7.c4
                        have y5 : wc.cell? ⟨bb, 5, none⟩ = some (.bool false) := hB7.c5
                        have yl := hB7.lt
                        have hqm : ∀ W : World, (Op.equalIn 10000 71 (.agg #[.int .i64 0, .int .i64 0, .int .i64 0, .int .i64 0, .int .i64 0, .bool false]) (.agg #[.int .i64 0, .int .i64 0, .int .i64 0, .int .i64 0, .int .i64 0, .bool false])).run Try.prog W = .ok true W := fun W => eqMl noMl noMl W
                        clear he HRR hB7 eK
                        have hy : m.yes = !dn := by revert hdd; cases dn <;> cases m.yes <;> simp
                        rw [hy] at m5
                        clear hdd hy
                        cases dn
                        all_goals
                          simp only [Bool.not_false, Bool.not_true] at m5
                          go_wp2_with fail
                          go_ret
                          exact ⟨rfl, HBw.out⟩
                  · have h3' := d1 h3
                    have he := HRR.out
                    rw [ans_kind hs h1 h3] at he
                    clear h1 h3 hs d0 d1
                    have ea : a = noMl := (congrArg (fun t => t.1) he).symm
                    have ez : z = false := (congrArg (fun t => t.2.1) he).symm
                    have eK : K2 = K := (congrArg (fun t => t.2.2) he).symm
                    have hsm := HSm.out eK
                    subst hsm
                    subst ez
                    subst ea
                    have y0 : wc.cell? ⟨bb, 0, none⟩ = some (.int .i64 0) := hB7.c0
                    have y1 : wc.cell? ⟨bb, 1, none⟩ = some (.int .i64 0) := hB7.c1
                    have y2 : wc.cell? ⟨bb, 2, none⟩ = some (.int .i64 0) := hB7.c2
                    have y3 : wc.cell? ⟨bb, 3, none⟩ = some (.int .i64 0) := hB7.c3
                    have y4 : wc.cell? ⟨bb, 4, none⟩ = some (.int .i64 0) := hB7.c4
                    have y5 : wc.cell? ⟨bb, 5, none⟩ = some (.bool false) := hB7.c5
                    have yl := hB7.lt
                    have hqm : ∀ W : World, (Op.equalIn 10000 71 (.agg #[.int .i64 0, .int .i64 0, .int .i64 0, .int .i64 0, .int .i64 0, .bool false]) (.agg #[.int .i64 0, .int .i64 0, .int .i64 0, .int .i64 0, .int .i64 0, .bool false])).run Try.prog W = .ok true W := fun W => eqMl noMl noMl W
                    clear he HRR hB7 eK
                    go_wp2_with fail
                    go_ret
                    exact ⟨rfl, HBw.out⟩
              · have hs' := d1 hs
                have he := HRR.out
                rw [ans_shop hs] at he
                clear hs d0 d1
                have ea : a = noMl := (congrArg (fun t => t.1) he).symm
                have ez : z = false := (congrArg (fun t => t.2.1) he).symm
                have eK : K2 = K := (congrArg (fun t => t.2.2) he).symm
                have hsm := HSm.out eK
                subst hsm
                subst ez
                subst ea
                have y0 : wc.cell? ⟨bb, 0, none⟩ = some (.int .i64 0) := hB7.c0
                have y1 : wc.cell? ⟨bb, 1, none⟩ = some (.int .i64 0) := hB7.c1
                have y2 : wc.cell? ⟨bb, 2, none⟩ = some (.int .i64 0) := hB7.c2
                have y3 : wc.cell? ⟨bb, 3, none⟩ = some (.int .i64 0) := hB7.c3
                have y4 : wc.cell? ⟨bb, 4, none⟩ = some (.int .i64 0) := hB7.c4
                have y5 : wc.cell? ⟨bb, 5, none⟩ = some (.bool false) := hB7.c5
                have yl := hB7.lt
                have hqm : ∀ W : World, (Op.equalIn 10000 71 (.agg #[.int .i64 0, .int .i64 0, .int .i64 0, .int .i64 0, .int .i64 0, .bool false]) (.agg #[.int .i64 0, .int .i64 0, .int .i64 0, .int .i64 0, .int .i64 0, .bool false])).run Try.prog W = .ok true W := fun W => eqMl noMl noMl W
                clear he HRR hB7 eK
                go_wp2_with fail
                go_ret
                exact ⟨rfl, HBw.out⟩
    · rw [if_neg hok] at hN
      subst hN
      clear hok
      go_wp2_with fail
      go_ret
      exact ⟨rfl, hb4⟩

end Go.Proofs.Ytbgnajcmhmpjlab

namespace Go.Proofs.Ytbgnajcmhmpjlab
open Go.ChangeShapes Go.WideShapes Go.ChangeAt Go.RowKit Go.Deep

theorem Try.ownClerkOthers : ownKnob Try.prog.godebug = none := by kernel_rfl
theorem Try.laidOutClerkOthers : laidOutB Try.prog = true := by kernel_rfl

set_option maxRecDepth 100000 in
theorem clerkOthers_lifted (os : Os) (started : os.Started) (H : Type) (enc : TypeId × Value → H) :
    ReturnsInHanded {} Try.checked os 11 .any (Rows.clerkOthersSpec.pre6 enc Try.prog Try.f11 Rows.clerkOthersRow.domain false) (Rows.clerkOthersSpec.post enc Try.prog Try.f11 false true false false) := by
  refine returnsInHanded_of_change (C := Try.checked) Try.ownClerkOthers started (by kernel_rfl) Try.func11
    (ChangeSpec.witness6 (enc := enc) (C := Try.checked) false ⟨#[], #[.int .i64 0, .agg #[.int .i64 0, .int .i64 0, .int .i64 0, .int .i64 0, .int .i64 0, .int .i64 0], .slice none 0 0, .agg #[.int .i64 0, .int .i64 0, .int .i64 0, .int .i64 0, .int .i64 0, .bool false]], []⟩ 8 (by kernel_rfl) (by kernel_rfl) (by kernel_rfl) (by kernel_rfl)) ?_
  intro W base args ds gs before hval0 hW _ _
  have hval : ∀ (j : Nat) t v, Try.f11.params[j]? = some t → args[j]? = some v → Value.okWide Try.prog W .any base t v := hval0
  have hW' := hW
  obtain ⟨p, q, hA0, hV, rfl, hfz, hnd⟩ := hW
  have hA : DataW.TrodAll enc Try.prog W 0 (fun _ => true) true Try.f11.params.toList args.toList ds p := hA0
  rw [Try.params11] at hA hval
  obtain ⟨v0, v1, v2, v3, d0, d1, d2, d3, p0, p1, p2, p3, rfl, rfl, rfl, h0, h1, h2, h3⟩ := trodAll_four hA
  obtain ⟨rfl, rfl⟩ := trodVars_none hV
  have k0 := h0
  have lt0 : ∀ x ∈ p0, x.block < W.heap.size := by obtain ⟨m, hm⟩ := k0; exact DataW.trod_lt m _ _ _ hm
  have k1 := h1
  have lt1 : ∀ x ∈ p1, x.block < W.heap.size := by obtain ⟨m, hm⟩ := k1; exact DataW.trod_lt m _ _ _ hm
  have k2 := h2
  have lt2 : ∀ x ∈ p2, x.block < W.heap.size := by obtain ⟨m, hm⟩ := k2; exact DataW.trod_lt m _ _ _ hm
  have k3 := h3
  have lt3 : ∀ x ∈ p3, x.block < W.heap.size := by obtain ⟨m, hm⟩ := k3; exact DataW.trod_lt m _ _ _ hm
  obtain ⟨n, rfl, _, _, wn⟩ := open_int Try.underlying3 (hval 0 3 v0 rfl rfl) h0
  obtain ⟨ws, rfl⟩ := open_world (hval 1 23 v1 rfl rfl) h1
  obtain ⟨a0, l0, c0, rfl⟩ := okWide_slice Try.underlying66 (hval 2 66 v2 rfl rfl)
  obtain ⟨l, hl, hll⟩ := open_mails h2
  obtain ⟨x, rfl⟩ := open_mailV (hval 3 71 v3 rfl rfl) h3
  clear hA0 hval0
  refine (cothers_walk n ws a0 l0 c0 l x W hl hll).mono fun e W' ⟨hret, hb⟩ => ?_
  subst hret
  exact ⟨_, rfl, _, _, _, [], _, [], hW', trodAll_mk1 (shut_bool Try.underlying4 true), trodAll_mk4 (Below.trod Try.laidOutClerkOthers (by kernel_rfl) (of_decide_eq_true (by kernel_rfl)) k0 hb lt0) (Below.trod Try.laidOutClerkOthers (by kernel_rfl) (of_decide_eq_true (by kernel_rfl)) k1 hb lt1) (Below.trod Try.laidOutClerkOthers (by kernel_rfl) (of_decide_eq_true (by kernel_rfl)) k2 hb lt2) (Below.trod Try.laidOutClerkOthers (by kernel_rfl) (of_decide_eq_true (by kernel_rfl)) k3 hb lt3), rfl, hb.frame _, fun h => by cases h⟩

theorem clerkOthers_holds : Rows.ClerkOthersSaid :=
  OpenClaim.holds_of_wide 11 Try.f11 rfl rfl rfl rfl rfl rfl rfl ⟨rfl, rfl, rfl, rfl, rfl⟩ rfl rfl rfl rfl rfl (by kernel_rfl) Try.func11 (by kernel_rfl)
    (of_decide_eq_true (by kernel_rfl)) (by unfold Func.isWrapper; first | (rw [if_pos (by decide +kernel)]; kernel_rfl) | (rw [if_neg (by decide +kernel)]; exact ⟨rfl, rfl⟩))
    (fun os started H enc _ => clerkOthers_lifted os started H enc)

#print axioms clerkOthers_holds

end Go.Proofs.Ytbgnajcmhmpjlab
