/- The contract of add: what is not held yet is held, if the counter has as much, and room for it. -/
import Derived.Test.YtbgnajcmhmpjlabSChk
import Derived.Deep.RegionHeld3
import Derived.Deep.RegionLaw
namespace Go.Proofs.Ytbgnajcmhmpjlab
open Go.RowKit

theorem ShopRaw.congr {w : World} {p : Nat} {no : Int} {c c' : Nat → Int} {hv : Value} {ov dn ov' dn' : Nat → Bool} (h : ShopRaw w p no c hv ov dn) (hc : ∀ j, j < 6 → c j = c' j) (ho : ∀ d, d < 8 → ov d = ov' d) (hd : ∀ d, d < 8 → dn d = dn' d) : ShopRaw w p no c' hv ov' dn' :=
  ⟨h.lt, h.no, fun j hj => by rw [← hc j hj]; exact h.cs j hj, h.hv, fun d hd' => by rw [← ho d hd']; exact h.ov d hd', fun d hd' => by rw [← hd d hd']; exact h.dn d hd', h.loose⟩
def upd3 (c : Nat → Int) (m : Nat) (a b e : Int) : Nat → Int := upd (upd (upd c (m * 3) a) (m * 3 + 1) b) (m * 3 + 2) e
theorem ShopRaw.set3 {w : World} {p : Nat} {no : Int} {c : Nat → Int} {hv : Value} {ov dn : Nat → Bool} (h : ShopRaw w p no c hv ov dn) (m : Nat) (hm : m < 2) (a b e : Int) :
    ShopRaw (((w.setCell ⟨p, 1 + m * 3, none⟩ (.int .i64 a)).setCell ⟨p, 1 + m * 3 + 1, none⟩ (.int .i64 b)).setCell ⟨p, 1 + m * 3 + 2, none⟩ (.int .i64 e)) p no (upd3 c m a b e) hv ov dn :=
  ((h.setC (m * 3) (by omega) a).setC (m * 3 + 1) (by omega) b).setC (m * 3 + 2) (by omega) e
theorem ShopRaw.c3 {w : World} {p : Nat} {no : Int} {c : Nat → Int} {hv : Value} {ov dn : Nat → Bool} (h : ShopRaw w p no c hv ov dn) (m : Nat) (hm : m < 2) :
    w.cell? ⟨p, 1 + m * 3, none⟩ = some (.int .i64 (c (m * 3))) ∧ w.cell? ⟨p, 1 + m * 3 + 1, none⟩ = some (.int .i64 (c (m * 3 + 1))) ∧ w.cell? ⟨p, 1 + m * 3 + 2, none⟩ = some (.int .i64 (c (m * 3 + 2))) :=
  ⟨h.cs (m * 3) (by omega), h.cs (m * 3 + 1) (by omega), h.cs (m * 3 + 2) (by omega)⟩
theorem cnt6_at (A : Bk) (m : Nat) (hm : m < 2) : cnt6 A (m * 3) = A.val m ∧ cnt6 A (m * 3 + 1) = A.out m ∧ cnt6 A (m * 3 + 2) = A.inn m := by
  have : m = 0 ∨ m = 1 := by omega
  rcases this with rfl | rfl
  · exact ⟨rfl, by show outs _ _ = outs _ _; congr 1; omega, by show inns _ _ = inns _ _; congr 1; omega⟩
  · exact ⟨rfl, rfl, rfl⟩
/-- The six numbers, if just those of the counter m have changed. -/
theorem cnt6_of (A A' : Bk) (m : Nat) (hm : m < 2) (a b e : Int) (h0 : A'.val m = a) (h1 : A'.out m = b) (h2 : A'.inn m = e) (ho : ∀ k, k < 2 → k ≠ m → A'.val k = A.val k ∧ A'.out k = A.out k ∧ A'.inn k = A.inn k) : ∀ j, j < 6 → upd3 (cnt6 A) m a b e j = cnt6 A' j := by
  intro j hj
  obtain ⟨k, s, hk, hs, rfl⟩ : ∃ k s, k < 2 ∧ s < 3 ∧ j = k * 3 + s := ⟨j / 3, j % 3, by omega, by omega, by omega⟩
  obtain ⟨a0, a1, a2⟩ := cnt6_at A' k hk
  obtain ⟨b0, b1, b2⟩ := cnt6_at A k hk
  by_cases e1 : k = m
  · subst e1
    match s, hs with
    | 0, _ => rw [show k * 3 + 0 = k * 3 from rfl, a0, h0]; simp [upd3, upd]
    | 1, _ => rw [a1, h1]; simp [upd3, upd]
    | 2, _ => rw [a2, h2]; simp [upd3, upd]
  · obtain ⟨o0, o1, o2⟩ := ho k hk e1
    have q : upd3 (cnt6 A) m a b e (k * 3 + s) = cnt6 A (k * 3 + s) := by
      unfold upd3 upd
      rw [if_neg (by omega), if_neg (by omega), if_neg (by omega)]
    rw [q]
    match s, hs with
    | 0, _ => rw [show k * 3 + 0 = k * 3 from rfl, a0, b0, o0]
    | 1, _ => rw [a1, b1, o1]
    | 2, _ => rw [a2, b2, o2]

/-- A book behind a Hold of this code. -/
def addB (A : Bk) (code deal c d : Int) : Bk := if code = 0 then { A with hs := A.hs ++ [(deal, c, d)] } else A
/-- A book with one hold more. -/
def more1 (A : Bk) (deal c d : Int) : Bk := { A with hs := A.hs ++ [(deal, c, d)] }
theorem more1_out (A : Bk) (deal c d : Int) (k : Nat) : (more1 A deal c d).out k = A.out k + outOf (deal, c, d) (A.no * 2 + k) ∧ (more1 A deal c d).inn k = A.inn k + innOf (deal, c, d) (A.no * 2 + k) ∧ (more1 A deal c d).val k = A.val k := by
  refine ⟨?_, ?_, by cases k <;> rfl⟩
  · show outs (A.hs ++ _) _ = _; rw [outs_append]; simp [outs, Bk.out, more1]
  · show inns (A.hs ++ _) _ = _; rw [inns_append]; simp [inns, Bk.inn, more1]
theorem more1_cnt (A : Bk) (deal d : Int) (m : Nat) (hm : m < 2) (h : hC (A.val m) (A.out m) (A.inn m) d = 0) :
    ∀ j, j < 6 → upd3 (cnt6 A) m (hV (A.val m) (A.out m) (A.inn m) d) (hO (A.val m) (A.out m) (A.inn m) d) (hI (A.val m) (A.out m) (A.inn m) d) j = cnt6 (more1 A deal (A.no * 2 + m) d) j := by
  obtain ⟨_, n0, n1, n2, hw⟩ := hold_zero h
  obtain ⟨m1, m2, m3⟩ := more1_out A deal (A.no * 2 + m) d m
  refine cnt6_of A _ m hm _ _ _ ?_ ?_ ?_ ?_
  · rw [m3]
    rcases hw with ⟨_, _, e, _⟩ | ⟨_, _, e, _⟩ <;> rw [e]
  · rw [m1]
    rcases hw with ⟨hn, _, _, e, _⟩ | ⟨hn, _, _, e, _⟩
    · rw [e]; simp only [outOf, if_true, if_pos hn]; omega
    · rw [e]; simp only [outOf, if_true]; rw [if_neg (by omega)]; omega
  · rw [m2]
    rcases hw with ⟨hn, _, _, _, e⟩ | ⟨hn, _, _, _, e⟩
    · rw [e]; simp only [innOf, if_true, if_pos hn]; omega
    · rw [e]; simp only [innOf, if_true]; rw [if_neg (by omega)]
  · intro k hk hne
    obtain ⟨k1, k2, k3⟩ := more1_out A deal (A.no * 2 + m) d k
    have q : ¬ (A.no * 2 + (m : Int) = A.no * 2 + (k : Int)) := by omega
    refine ⟨k3, ?_, ?_⟩
    · rw [k1]; simp only [outOf, if_neg q]; omega
    · rw [k2]; simp only [innOf, if_neg q]; omega

theorem infoHold : (Try.prog.info? 92).map (fun i => (i.zero, i.size, i.bytes)) = some (some (.agg #[.int .i64 0, .int .i64 0, .int .i64 0]), 3, 24) := by kernel_rfl
theorem hold_lies {W : World} {H : Nat} {x y z : Value} (h0 : W.cell? ⟨H, 0, none⟩ = some x) (h1 : W.cell? ⟨H, 1, none⟩ = some y) (h2 : W.cell? ⟨H, 2, none⟩ = some z) : ∀ j u, [x, y, z][j]? = some u → W.cell? ((⟨H, 0, none⟩ : Addr).add j) = some u := by
  intro j u hj
  match j, hj with
  | 0, hj => simp at hj; subst hj; simpa [Addr.add] using h0
  | 1, hj => simp at hj; subst hj; simpa [Addr.add] using h1
  | 2, hj => simp at hj; subst hj; simpa [Addr.add] using h2
  | j + 3, hj => simp at hj
theorem hold_cell {a c d : Int} : ∀ u ∈ [Value.int .i64 a, .int .i64 c, .int .i64 d], u.oneCell' = true := by
  intro u hu
  simp only [List.mem_cons, List.not_mem_nil, or_false] at hu
  rcases hu with rfl | rfl | rfl <;> rfl
theorem box_three {W : World} {H : Nat} {x y z : Value} (hl : H < W.heap.size) (h0 : W.cell? ⟨H, 0, none⟩ = some x) (h1 : W.cell? ⟨H, 1, none⟩ = some y) (h2 : W.cell? ⟨H, 2, none⟩ = some z) : BoxAt W H [x, y, z] := by
  refine ⟨hl, fun j u hj => ?_⟩
  match j, hj with
  | 0, hj => simp at hj; subst hj; exact h0
  | 1, hj => simp at hj; subst hj; exact h1
  | 2, hj => simp at hj; subst hj; exact h2
  | j + 3, hj => simp at hj

theorem own_slice {w : World} {B e s n : Nat} {v : Value} {xs : List Value} (h : w.ownsRow B e s v n xs) : ∃ ga cap, v = .slice ga n cap := by
  rcases h.2 with ⟨e1, e0⟩ | ⟨g, cap, cur, e1, _⟩
  · exact ⟨none, 0, by rw [e1, e0]⟩
  · exact ⟨_, cap, e1⟩

set_option maxHeartbeats 4000000 in
set_option maxRecDepth 100000 in
theorem add_any (O : Nat → Prop) (A : Bk) (p : Nat) (deal d : Int) (m : Nat) (hm : m < 2) (w : World) (h : ShopIn O w p A) (n0 : 0 ≤ A.no) (n3 : A.no < 3) (hlen : A.hs.length < 2 ^ 40) :
    Calls Try.prog 104 #[.pointer (some ⟨p, 0, none⟩), .agg #[.int .i64 deal, .int .i64 (A.no * 2 + m), .int .i64 d]] w fun e w' => e = .returned (.int .i64 (hC (A.val m) (A.out m) (A.inn m) d)) ∧ ∃ O', ShopIn O' w' p (addB A (hC (A.val m) (A.out m) (A.inn m) d) deal (A.no * 2 + m) d) ∧ Save O w w' ∧ Moved O O' w := by
  obtain ⟨i0, hi, hz0, hz1, hz2⟩ := info_parts infoHold
  obtain ⟨hv, hR, hown, hsub⟩ := h.raw
  have HOwn : Hid (∀ k, O k → k < w.heap.size) := h.own
  have HMine : Hid (O p) := h.mine
  have HIn : Hid (ShopIn O w p A) := h
  have HRow : Hid (w.ownsRow (p + 1) 92 3 hv A.hs.length (flat3 A.hs)) := hown
  have HSub : Hid (∀ k, hv.ownBlock = some k → O k) := hsub
  obtain ⟨e0, e1, e2⟩ := cnt6_at A m hm
  obtain ⟨c0, c1, c2⟩ := hR.c3 m hm
  rw [e0] at c0
  rw [e1] at c1
  rw [e2] at c2
  have HC : Hid _ := more1_cnt A deal d m hm
  have HH := holdIs (A.val m) (A.out m) (A.inn m) d
  have hlt := hR.lt
  have hne : p ≠ w.heap.size := by omega
  generalize hq : A.no * 2 + (m : Int) = c at HC ⊢
  have hc : c = A.no * 2 ∨ c = A.no * 2 + 1 := by omega
  have hcm : c - A.no * 2 = m := by omega
  generalize A.val m = v at c0 HC HH ⊢
  generalize A.out m = o at c1 HC HH ⊢
  generalize A.inn m = i at c2 HC HH ⊢
  have m0 : (0 : Int) ≤ (m : Int) := by omega
  have m2 : (m : Int) < 2 := by omega
  have HRaw : Hid (ShopRaw w p A.no (cnt6 A) hv (fun d => ovB A.es d) (fun d => dnB A.es d)) := hR
  clear h hown hsub hR hq e0 e1 e2
  go_enter Try.func104, Try.ntmps104
  go_wp2_with fail
  refine (place_any A.no c _ n0 n3 hc).mono ?_
  rw [hcm]
  rintro e w1 ⟨rfl, rfl⟩
  have hX1 := BoxAt.new w [.int .i64 deal, .int .i64 c, .int .i64 d] 92
  have hb1 : Below w.heap.size w (w.alloc (.cells #[.int .i64 deal, .int .i64 c, .int .i64 d] 92)) := (Below.refl _ _).alloc (Nat.le_refl _) _
  have hz : (w.alloc (.cells #[.int .i64 deal, .int .i64 c, .int .i64 d] 92)).heap.size = w.heap.size + 1 := by simp
  generalize (w.alloc (.cells #[.int .i64 deal, .int .i64 c, .int .i64 d] 92)) = W1 at hX1 hb1 hz ⊢
  have k0 : W1.cell? ⟨p, 1 + m * 3, none⟩ = some (.int .i64 v) := (hb1.cell (p := ⟨p, _, none⟩) hlt).trans c0
  have k1 : W1.cell? ⟨p, 1 + m * 3 + 1, none⟩ = some (.int .i64 o) := (hb1.cell (p := ⟨p, _, none⟩) hlt).trans c1
  have k2 : W1.cell? ⟨p, 1 + m * 3 + 2, none⟩ = some (.int .i64 i) := (hb1.cell (p := ⟨p, _, none⟩) hlt).trans c2
  have x2 := hX1.2 2 _ rfl
  have hp1 : p < W1.heap.size := by omega
  have hw1 : w.heap.size < W1.heap.size := by omega
  have HZ1 : Hid _ := hz
  clear c0 c1 c2 hcm hz
  go_upto_region 2 with fail
  go_cut [6, 7] (fun s6 s7 wx => ∃ nb, s6 = .pointer (some ⟨nb, 0, none⟩) ∧ s7 = .int .i64 (hC v o i d) ∧ BoxAt wx nb [.int .i64 (hV v o i d), .int .i64 (hO v o i d), .int .i64 (hI v o i d)] ∧ W1.heap.size ≤ nb ∧ Below W1.heap.size W1 wx)
  case first =>
    have HK : Hid (∀ w', Below W1.heap.size W1 w' → w'.cell? ⟨p, 1 + m * 3, none⟩ = some (.int .i64 v) ∧ w'.cell? ⟨p, 1 + m * 3 + 1, none⟩ = some (.int .i64 o) ∧ w'.cell? ⟨p, 1 + m * 3 + 2, none⟩ = some (.int .i64 i) ∧ w'.cell? ⟨w.heap.size, 2, none⟩ = some (.int .i64 d) ∧ Below W1.heap.size W1 w') := fun w' hb =>
      ⟨((bcell hb).1 _ _ hp1).trans k0, ((bcell hb).1 _ _ hp1).trans k1, ((bcell hb).1 _ _ hp1).trans k2, ((bcell hb).1 _ _ hw1).trans x2, hb⟩
    clear hX1 hb1
    go_region_held3 (fun w' => w'.cell? ⟨p, 1 + m * 3, none⟩ = some (.int .i64 v) ∧ w'.cell? ⟨p, 1 + m * 3 + 1, none⟩ = some (.int .i64 o) ∧ w'.cell? ⟨p, 1 + m * 3 + 2, none⟩ = some (.int .i64 i) ∧ w'.cell? ⟨w.heap.size, 2, none⟩ = some (.int .i64 d) ∧ Below W1.heap.size W1 w')
      (first | exact HK.out _ (by go_grown))
      (first | (go_at_call 114; refine (HH _).mono ?_; rintro e w9 ⟨rfl, hb9⟩; have hw9 : Below W1.heap.size W1 w9 := after (by go_grown) hb9 (by simp <;> omega); have hz9 : W1.heap.size ≤ w9.heap.size := hw9.size; have hy9 := hb9.size; simp [Nat.add_one_le_iff] at hy9; obtain ⟨hc9, hf9⟩ := bcell hb9))
    all_goals
      clear HK
      go_wp2_with fail
      go_meet
      case rel =>
        refine ⟨_, rfl, rfl, ?_, ?_, ?_⟩
        · refine box_three ?_ ?_ ?_ ?_
          · have := hb9.size
            simp at this ⊢
            try omega
          all_goals simp [go_sem, hc9]
        · first | exact Nat.le_refl _ | (simp; omega) | omega
        · go_grown
  case rest =>
    obtain ⟨nb, rfl, rfl, hC6, hnb, hb2⟩ := hcut
    have hb3 : Below w.heap.size w wc := hb1.trans (hb2.mono (by omega))
    have hX2 := hX1.next hb2
    have hR2 := HRaw.out.next hb3
    have HRow2 : Hid (wc.ownsRow (p + 1) 92 3 hv A.hs.length (flat3 A.hs)) := own_next HRow.out hb3
    have hzc := hb3.size
    clear HRaw HRow k0 k1 k2 x2 hX1 hb1 hb2
    by_cases hz : hC v o i d = 0
    · have hz' : (hC v o i d != 0) = false := by simp [hz]
      have HZ : Hid _ := hz
      clear hz
      have y0 := hC6.2 0 _ rfl
      have y1 := hC6.2 1 _ rfl
      have y2 := hC6.2 2 _ rfl
      obtain ⟨k0, k1, k2⟩ := hR2.c3 m hm
      have hfr := hR2.loose
      have hpn : p ≠ nb := by omega
      go_wp2_with fail
      go_region
      have hR3 := (hR2.set3 m hm (hV v o i d) (hO v o i d) (hI v o i d)).next ((Below.refl _ _).drew)
      have hS3 : Save O w (((wc.setCell ⟨p, 1 + m * 3, none⟩ (.int .i64 (hV v o i d))).setCell ⟨p, 1 + m * 3 + 1, none⟩ (.int .i64 (hO v o i d))).setCell ⟨p, 1 + m * 3 + 2, none⟩ (.int .i64 (hI v o i d))).drew := ((Save.of_below hb3).set3 p HMine.out _ _ _ _ _ _).next ((Below.refl _ _).drew)
      have HRow3 : Hid ((((wc.setCell ⟨p, 1 + m * 3, none⟩ (.int .i64 (hV v o i d))).setCell ⟨p, 1 + m * 3 + 1, none⟩ (.int .i64 (hO v o i d))).setCell ⟨p, 1 + m * 3 + 2, none⟩ (.int .i64 (hI v o i d))).drew.ownsRow (p + 1) 92 3 hv A.hs.length (flat3 A.hs)) :=
        own_next (ownsRow_setCell_below (ownsRow_setCell_below (ownsRow_setCell_below HRow2.out (Nat.lt_succ_self p) _) (Nat.lt_succ_self p) _) (Nat.lt_succ_self p) _) ((Below.refl _ _).drew)
      have hX3 : BoxAt (((wc.setCell ⟨p, 1 + m * 3, none⟩ (.int .i64 (hV v o i d))).setCell ⟨p, 1 + m * 3 + 1, none⟩ (.int .i64 (hO v o i d))).setCell ⟨p, 1 + m * 3 + 2, none⟩ (.int .i64 (hI v o i d))).drew w.heap.size [.int .i64 deal, .int .i64 c, .int .i64 d] :=
        ⟨by simpa using hX2.1, fun j u hj => by
          show ((((wc.setCell ⟨p, 1 + m * 3, none⟩ (.int .i64 (hV v o i d))).setCell ⟨p, 1 + m * 3 + 1, none⟩ (.int .i64 (hO v o i d))).setCell ⟨p, 1 + m * 3 + 2, none⟩ (.int .i64 (hI v o i d)))).cell? _ = _
          rw [cell_set_block (by omega), cell_set_block (by omega), cell_set_block (by omega)]; exact hX2.2 j u hj⟩
      generalize (((wc.setCell ⟨p, 1 + m * 3, none⟩ (.int .i64 (hV v o i d))).setCell ⟨p, 1 + m * 3 + 1, none⟩ (.int .i64 (hO v o i d))).setCell ⟨p, 1 + m * 3 + 2, none⟩ (.int .i64 (hI v o i d))).drew = W3 at hR3 hS3 HRow3 hX3 ⊢
      have g0 := hR3.hv
      have x0 := hX3.2 0 _ rfl
      have x1 := hX3.2 1 _ rfl
      have x2 := hX3.2 2 _ rfl
      have hp3 := hR3.lt
      have hl3 := hX3.1
      have hf3 := hR3.loose
      have HR3 : Hid (ShopRaw W3 p A.no (upd3 (cnt6 A) m (hV v o i d) (hO v o i d) (hI v o i d)) hv (fun d => ovB A.es d) (fun d => dnB A.es d)) := hR3
      have HS3 : Hid (Save O w W3) := hS3
      clear hR3 hS3 HRow2 hR2 hX2 hX3 hC6 hfr k0 k1 k2 y0 y1 y2 hb3
      have HN1 : Hid (some p ≠ hv.ownBlock) := fun e => by have := (HRow3.out.lt p e.symm).1; omega
      have HN2 : Hid (some w.heap.size ≠ hv.ownBlock) := fun e => by have := HOwn.out _ (HSub.out _ e.symm); omega
      go_upto_region 6 with fail
      go_region_law
        (first | (refine step_append_two (by rfl) (.tmp 36) (.tmp 38) 39 (by rfl) (p + 1) 92 i0 (.agg #[.int .i64 0, .int .i64 0, .int .i64 0]) 3 24 Try.underlying39 hi hz0 hz1 hz2 rfl (by decide) hv _ _ (by simp [Act.eval]) (own_next HRow3.out (by go_grown)) ⟨W3.heap.size, 0, none⟩ 1 1 [.int .i64 deal, .int .i64 c, .int .i64 d] (by simp [Act.eval]) rfl (hold_lies (by simp [go_sem]) (by simp [go_sem]) (by simp [go_sem])) hold_cell (by unfold maxLen; omega) (by omega) (by simp; omega) (by decide) ?_; intro v8 w8 hown8 hgrow8 hwh8; obtain ⟨ga8, cap8, rfl⟩ := own_slice hown8; have HO8 : Hid (w8.ownsRow (p + 1) 92 3 (.slice ga8 (A.hs.length + 1) cap8) (A.hs.length + 1) (flat3 A.hs ++ [.int .i64 deal, .int .i64 c, .int .i64 d])) := hown8; clear hown8; have HW8 : Hid _ := hwh8; clear hwh8; have hk8 : w8.cell? ⟨p, 7, none⟩ = some hv ∧ w8.cell? ⟨w.heap.size, 0, none⟩ = some (.int .i64 deal) ∧ w8.cell? ⟨w.heap.size, 1, none⟩ = some (.int .i64 c) ∧ w8.cell? ⟨w.heap.size, 2, none⟩ = some (.int .i64 d) := ⟨hgrow8.cell (by simp [go_sem, g0, hp3]) HN1.out, hgrow8.cell (by simp [go_sem, x0, hl3]) HN2.out, hgrow8.cell (by simp [go_sem, x1, hl3]) HN2.out, hgrow8.cell (by simp [go_sem, x2, hl3]) HN2.out⟩; have q78 := hk8.1; have hf8 : ∀ k, w8.frozen? ⟨p, k, none⟩ = false := fun k => (World.frozen?_of_block (hgrow8.block p (by simp; omega) HN1.out)).trans (by simp [go_sem, hf3, hp3])))
      all_goals
        have hR8 : ShopRaw w8 p A.no (upd3 (cnt6 A) m (hV v o i d) (hO v o i d) (hI v o i d)) hv (fun d => ovB A.es d) (fun d => dnB A.es d) := (HR3.out.next (by go_grown)).save (O := fun k => hv.ownBlock = some k) ((Save.refl _ _).grown hgrow8 (fun k e _ => e)) (fun e => HN1.out e.symm)
        have hS8 : Save O w w8 := (HS3.out.next (by go_grown)).grown hgrow8 (fun k e _ => HSub.out k e)
        have hsz8 : W3.heap.size ≤ w8.heap.size := Nat.le_trans (by simp) hgrow8.size
        clear hk8 hf8 q78 g0 x0 x1 x2
        go_wp2_with fail
        go_ret
        refine ⟨by rw [HZ.out]; rfl, fun k => O k ∨ (.slice ga8 (A.hs.length + 1) cap8 : Value).ownBlock = some k, ?_, hS8.setCell (p := ⟨p, 7, none⟩) (fun _ => HMine.out) _, fun k hk => ?_⟩
        · refine ⟨fun k hk => ?_, .inl HMine.out, .slice ga8 (A.hs.length + 1) cap8, ?_, ?_, fun k hk => .inr hk⟩
          · show k < (w8.setCell _ _).heap.size
            rw [show (w8.setCell (⟨p, 7, none⟩ : Addr) (.slice ga8 (A.hs.length + 1) cap8)).heap.size = w8.heap.size by simp]
            rcases hk with hk | hk
            · have := HOwn.out k hk
              omega
            · exact (HO8.out.lt k hk).2
          · have hf : addB A (hC v o i d) deal c d = more1 A deal c d := by unfold addB; rw [if_pos HZ.out]; rfl
            rw [hf]
            exact (hR8.setH _).congr (HC.out HZ.out) (fun _ _ => rfl) (fun _ _ => rfl)
          · have hf : addB A (hC v o i d) deal c d = more1 A deal c d := by unfold addB; rw [if_pos HZ.out]; rfl
            rw [hf]
            have e1 : (more1 A deal c d).hs.length = A.hs.length + 1 := by simp [more1]
            have e2 : flat3 (more1 A deal c d).hs = flat3 A.hs ++ [.int .i64 deal, .int .i64 c, .int .i64 d] := flat3_snoc _ _ _ _
            rw [e1, e2]
            exact ownsRow_setCell_below HO8.out (Nat.lt_succ_self p) _
        · rcases hk with hk | hk
          · exact .inl hk
          · rcases HW8.out k hk with h1 | h1
            · exact .inl (HSub.out k h1)
            · right
              have := HS3.out.size
              have e : (W3.alloc (.cells #[.int .i64 deal, .int .i64 c, .int .i64 d] 92)).heap.size = W3.heap.size + 1 := by simp
              simp at h1
              omega
    · have hz' : (hC v o i d != 0) = true := by simpa using hz
      have HZ : Hid _ := hz
      clear hz
      go_wp2_with fail
      go_ret
      exact ⟨rfl, O, by unfold addB; rw [if_neg HZ.out]; exact HIn.out.next hb3, .of_below hb3, .refl _ _⟩

end Go.Proofs.Ytbgnajcmhmpjlab
