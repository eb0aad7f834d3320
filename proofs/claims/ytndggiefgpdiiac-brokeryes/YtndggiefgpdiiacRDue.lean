/- The contract of broker's Due. -/
import Derived.Test.YtndggiefgpdiiacRAsk
namespace Go.Proofs.Ytndggiefgpdiiac
open Go.RowKit

theorem own_base {w : World} {B C e s n : Nat} {v : Value} {xs : List Value} (h : w.ownsRow C e s v n xs) (hB : B ≤ C) : w.ownsRow B e s v n xs := by
  refine ⟨h.1, h.2.imp id ?_⟩
  rintro ⟨g, cap, cur, h1, h2, h3⟩
  exact ⟨g, cap, cur, h1, Nat.le_trans hB h2, h3⟩
theorem flat6_cells {w : World} {B e g n cap : Nat} {l : List Ml} (h : w.ownsRow B e 6 (.slice (some ⟨g, 0, none⟩) n cap) n (flat6 l)) : ∀ j u, (flat6 l)[j]? = some u → w.cell? ((⟨g, 0, none⟩ : Addr).add j) = some u := by
  intro j u hj
  rw [addr_add]
  exact (own_row h).2.2.2.2 j u hj

set_option maxHeartbeats 4000000 in
set_option maxRecDepth 100000 in
theorem rdue_any (O : Nat → Prop) (B : Bok) (q : Nat) (w : World) (h : BrkIn O w q B) (hI : BInv B) :
    Calls Try.prog 13 #[.pointer (some ⟨q, 0, none⟩)] w fun e w' => (∃ v, e = .returned v ∧ w'.ownsRow w.heap.size 37 6 v (dueR B).length (flat6 (dueR B))) ∧ Below w.heap.size w w' := by
  obtain ⟨i0, hi, hz0, hz1, hz2⟩ := info_parts infoMail
  obtain ⟨rv, dv, P, hR, _⟩ := h.raw
  have c0 := hR.c0
  obtain ⟨ga, cap, rfl⟩ := own_sl hR.row
  have hPl := hR.len
  rw [← hPl] at c0 hR
  have HR : Hid (BrkRaw w q B (.slice ga B.L.length cap) dv P) := hR
  have HInv : Hid (BInv B) := hI
  have h8 : (B.L.length : Int) ≤ 8 := by have := hI.len; omega
  clear hR h hI hPl
  go_enter Try.func13, Try.ntmps13
  go_wp2_with fail
  go_loopg [3, 4, 5, 11] B.L.length (fun g s3 _ _ s11 wr => ∃ (k : Nat) (v3 : Value), k ≤ B.L.length ∧ g = B.L.length - k ∧ v3 = s3 ∧ s11 = .int .i64 k ∧ wr.ownsRow w.heap.size 37 6 v3 (duesTo B.L k).length (flat6 (duesTo B.L k)) ∧ Below w.heap.size w wr)
  case atStart => exact ⟨0, _, Nat.zero_le _, rfl, rfl, rfl, by rw [duesTo_zero]; exact World.ownsRow_nil _ _ _ _, Below.refl _ _⟩
  case round =>
    obtain ⟨k, v3, hk, rfl, rfl, rfl, hown, hS⟩ := hrel
    clear c0
    by_cases hlt : k < B.L.length
    · obtain ⟨D, hkD⟩ : ∃ x, B.L[k]? = some x := ⟨_, List.getElem?_eq_getElem hlt⟩
      obtain ⟨g, cap', v, erv, _, h9, hrow, _, _⟩ := HR.out.deal9 hkD
      obtain ⟨rfl, rfl⟩ : ga = some ⟨g, 0, none⟩ ∧ cap = cap' := by simpa using erv
      have hF := HInv.out.fit D (List.mem_of_getElem? hkD)
      obtain ⟨gw, capw, rfl, hWa, _⟩ := wants_of_own hrow
      have h9' : Deal9 wr g k D (.slice gw D.w.length capw) := by
        have q : ∀ o, wr.cell? ⟨g, o, none⟩ = w.cell? ⟨g, o, none⟩ := fun o => (bcell hS).1 _ _ h9.lt
        exact ⟨(q _).trans h9.c0, (q _).trans h9.c1, (q _).trans h9.c2, (q _).trans h9.c3, (q _).trans h9.c4, (q _).trans h9.c5, (q _).trans h9.c6, (q _).trans h9.c7, (q _).trans h9.c8, Nat.lt_of_lt_of_le h9.lt hS.size, loose g hS h9.lt h9.fr⟩
      have j0 : (0 : Int) ≤ (k : Int) := by omega
      have j1 : (k : Int) < (B.L.length : Int) := by omega
      obtain ⟨d0, d1, d2, d3, d4, d5, d6, d7, d8, dl, _⟩ := h9'
      have HWa : Hid (WantsAt wr gw D.w) := hWa.below hS (Nat.le_refl _)
      have HF : Hid (D.w.length ≤ 4) := hF.few
      have HOw : Hid (wr.ownsRow w.heap.size 37 6 v3 (duesTo B.L k).length (flat6 (duesTo B.L k))) := hown
      have HKL : Hid (k < B.L.length) := hlt
      have HN : Hid _ := duesTo_next hkD
      have HLn : Hid ((duesTo B.L k).length ≤ 32 ∧ (dueD (k : Int) D).length ≤ 4) := ⟨by have := duesTo_len (k := k) HInv.out.fit; have := HInv.out.len; omega, due_len (k : Int) hF⟩
      clear hown hk hlt hkD h9 hrow hF hWa erv
      go_upto_region 5 with fail
      have hb2 : Below wr.heap.size wr (wr.alloc (.cells (dcells (D, .slice gw D.w.length capw)).toArray 53)) := (Below.refl _ _).alloc (Nat.le_refl _) _
      have hY := BoxAt.new wr (dcells (D, .slice gw D.w.length capw)) 53
      change Below _ _ (wr.alloc (.cells #[.slice gw D.w.length capw, .int .i64 D.st, .bool (decide ((0 : Int) ∈ D.yes)), .bool (decide ((1 : Int) ∈ D.yes)), .bool (decide ((2 : Int) ∈ D.yes)), .bool (decide ((3 : Int) ∈ D.yes)), .bool (decide ((0 : Int) ∈ D.ov)), .bool (decide ((1 : Int) ∈ D.ov)), .bool (decide ((2 : Int) ∈ D.ov))] 53)) at hb2
      change BoxAt (wr.alloc (.cells #[.slice gw D.w.length capw, .int .i64 D.st, .bool (decide ((0 : Int) ∈ D.yes)), .bool (decide ((1 : Int) ∈ D.yes)), .bool (decide ((2 : Int) ∈ D.yes)), .bool (decide ((3 : Int) ∈ D.yes)), .bool (decide ((0 : Int) ∈ D.ov)), .bool (decide ((1 : Int) ∈ D.ov)), .bool (decide ((2 : Int) ∈ D.ov))] 53)) _ _ at hY
      have HB2 : Hid (Below wr.heap.size wr (wr.alloc (.cells #[.slice gw D.w.length capw, .int .i64 D.st, .bool (decide ((0 : Int) ∈ D.yes)), .bool (decide ((1 : Int) ∈ D.yes)), .bool (decide ((2 : Int) ∈ D.yes)), .bool (decide ((3 : Int) ∈ D.yes)), .bool (decide ((0 : Int) ∈ D.ov)), .bool (decide ((1 : Int) ∈ D.ov)), .bool (decide ((2 : Int) ∈ D.ov))] 53))) := hb2
      generalize (wr.alloc (.cells #[.slice gw D.w.length capw, .int .i64 D.st, .bool (decide ((0 : Int) ∈ D.yes)), .bool (decide ((1 : Int) ∈ D.yes)), .bool (decide ((2 : Int) ∈ D.yes)), .bool (decide ((3 : Int) ∈ D.yes)), .bool (decide ((0 : Int) ∈ D.ov)), .bool (decide ((1 : Int) ∈ D.ov)), .bool (decide ((2 : Int) ∈ D.ov))] 53)) = w2 at hY HB2 ⊢
      have HOw2 : Hid (w2.ownsRow w.heap.size 37 6 v3 (duesTo B.L k).length (flat6 (duesTo B.L k))) := own_next HOw.out HB2.out
      have HS2 : Hid (Below w.heap.size w w2) := after hS HB2.out hS.size
      have HWa2 : Hid (WantsAt w2 gw D.w) := HWa.out.below HB2.out (Nat.le_refl _)
      generalize wr.heap.size = B2 at hY ⊢
      have y0 := hY.2 0 _ rfl
      have y1 := hY.2 1 _ rfl
      have y2 := hY.2 2 _ rfl
      have y3 := hY.2 3 _ rfl
      have y4 := hY.2 4 _ rfl
      have y5 := hY.2 5 _ rfl
      have y6 := hY.2 6 _ rfl
      have y7 := hY.2 7 _ rfl
      have y8 := hY.2 8 _ rfl
      clear hb2 hY d0 d1 d2 d3 d4 d5 d6 d7 d8 dl HOw HWa HB2 hS
      obtain ⟨dd, hdd⟩ : ∃ dd, dd = dueD (k : Int) D := ⟨_, rfl⟩
      by_cases hst : D.st = 0
      · have hst' : (D.st == 0) = true := by simp [hst]
        have HA : Hid _ := rasks_any D (k : Int) gw capw w2 HWa2.out HF.out
        have e0 : asksR (k : Int) D.yes 0 D.w = dd := by rw [hdd]; unfold dueD; rw [if_pos hst]
        rw [e0] at HA
        rw [← hdd] at HN HLn
        clear hst hdd e0
        go_upto_region 6 with fail
        go_wp2_with fail
        refine Calls.mono HA.out ?_
        rintro e w3 ⟨⟨v7, rfl, hown7⟩, hb3⟩
        have HO7 : Hid (w3.ownsRow w2.heap.size 37 6 v7 dd.length (flat6 dd)) := hown7
        have HOw3 : Hid (w3.ownsRow w.heap.size 37 6 v3 (duesTo B.L k).length (flat6 (duesTo B.L k))) := own_next HOw2.out hb3
        have HS3 : Hid (Below w.heap.size w w3) := after HS2.out hb3 HS2.out.size
        have HSz : Hid (w.heap.size ≤ w3.heap.size) := HS3.out.size
        clear hown7 hb3 HOw2 HS2 HWa2 HA y0 y1 y2 y3 y4 y5 y6 y7 y8
        rcases HO7.out.2 with ⟨rfl, e0⟩ | ⟨g7, cap7, cur, rfl, _⟩
        · have e1 : dd = [] := List.length_eq_zero_iff.1 e0
          clear e0
          rcases HOw3.out.2 with ⟨rfl, e2⟩ | ⟨g3, cap3, cur3, rfl, _⟩
          · clear e2
            go_wp2_with fail
            go_roundg (B.L.length - (k + 1))
            case measure => have := HKL.out; omega
            case rel => exact ⟨k + 1, _, HKL.out, rfl, rfl, by simp, by rw [HN.out, e1, List.append_nil]; exact HOw3.out, HS3.out⟩
          · go_wp2_with fail
            go_roundg (B.L.length - (k + 1))
            case measure => have := HKL.out; omega
            case rel => exact ⟨k + 1, _, HKL.out, rfl, rfl, by simp, by rw [HN.out, e1, List.append_nil]; exact HOw3.out, HS3.out⟩
        · have HFl : Hid ((flat6 dd).length = dd.length * 6) := flat6_length dd
          have HCe : Hid _ := flat6_cells HO7.out
          go_wp2_with (at_builtin; refine wpList_append_own _ rfl (.tmp 19) (.tmp 22) 41 rfl w.heap.size 37 i0 (.agg #[.int .i64 0, .int .i64 0, .int .i64 0, .int .i64 0, .int .i64 0, .bool false]) 6 48 Try.underlying41 hi hz0 hz1 hz2 rfl (by decide) v3 _ _ rfl HOw3.out ⟨g7, 0, none⟩ dd.length cap7 (flat6 dd) rfl HFl.out HCe.out (flat6_one _) (by have := HLn.out; unfold maxLen; omega) (by have := HLn.out; omega) HSz.out ?_; intro v8 w8 hown8 hgrow8 _; have HO8 : Hid (w8.ownsRow w.heap.size 37 6 v8 ((duesTo B.L k).length + dd.length) (flat6 (duesTo B.L k) ++ flat6 dd)) := hown8; clear hown8; have HG8 : Hid (Below w.heap.size w w8) := own_below HOw3.out hgrow8 HS3.out HSz.out (Nat.le_refl _); clear hgrow8)
          go_roundg (B.L.length - (k + 1))
          case measure => have := HKL.out; omega
          case rel =>
            refine ⟨k + 1, v8, HKL.out, rfl, rfl, by simp, ?_, HG8.out⟩
            rw [HN.out, List.length_append, flat6_append]
            exact HO8.out
      · have hst' : (D.st == 0) = false := by simpa using hst
        have HA : Hid _ := rends_any D (k : Int) gw capw w2 HWa2.out HF.out
        have e0 : endsR (k : Int) D = dd := by rw [hdd]; unfold dueD; rw [if_neg hst]
        rw [e0] at HA
        rw [← hdd] at HN HLn
        clear hst hdd e0
        go_upto_region 7 with fail
        go_wp2_with fail
        refine Calls.mono HA.out ?_
        rintro e w3 ⟨⟨v7, rfl, hown7⟩, hb3⟩
        have HO7 : Hid (w3.ownsRow w2.heap.size 37 6 v7 dd.length (flat6 dd)) := hown7
        have HOw3 : Hid (w3.ownsRow w.heap.size 37 6 v3 (duesTo B.L k).length (flat6 (duesTo B.L k))) := own_next HOw2.out hb3
        have HS3 : Hid (Below w.heap.size w w3) := after HS2.out hb3 HS2.out.size
        have HSz : Hid (w.heap.size ≤ w3.heap.size) := HS3.out.size
        clear hown7 hb3 HOw2 HS2 HWa2 HA y0 y1 y2 y3 y4 y5 y6 y7 y8
        rcases HO7.out.2 with ⟨rfl, e0⟩ | ⟨g7, cap7, cur, rfl, _⟩
        · have e1 : dd = [] := List.length_eq_zero_iff.1 e0
          clear e0
          rcases HOw3.out.2 with ⟨rfl, e2⟩ | ⟨g3, cap3, cur3, rfl, _⟩
          · clear e2
            go_wp2_with fail
            go_roundg (B.L.length - (k + 1))
            case measure => have := HKL.out; omega
            case rel => exact ⟨k + 1, _, HKL.out, rfl, rfl, by simp, by rw [HN.out, e1, List.append_nil]; exact HOw3.out, HS3.out⟩
          · go_wp2_with fail
            go_roundg (B.L.length - (k + 1))
            case measure => have := HKL.out; omega
            case rel => exact ⟨k + 1, _, HKL.out, rfl, rfl, by simp, by rw [HN.out, e1, List.append_nil]; exact HOw3.out, HS3.out⟩
        · have HFl : Hid ((flat6 dd).length = dd.length * 6) := flat6_length dd
          have HCe : Hid _ := flat6_cells HO7.out
          go_wp2_with (at_builtin; refine wpList_append_own _ rfl (.tmp 24) (.tmp 27) 41 rfl w.heap.size 37 i0 (.agg #[.int .i64 0, .int .i64 0, .int .i64 0, .int .i64 0, .int .i64 0, .bool false]) 6 48 Try.underlying41 hi hz0 hz1 hz2 rfl (by decide) v3 _ _ rfl HOw3.out ⟨g7, 0, none⟩ dd.length cap7 (flat6 dd) rfl HFl.out HCe.out (flat6_one _) (by have := HLn.out; unfold maxLen; omega) (by have := HLn.out; omega) HSz.out ?_; intro v8 w8 hown8 hgrow8 _; have HO8 : Hid (w8.ownsRow w.heap.size 37 6 v8 ((duesTo B.L k).length + dd.length) (flat6 (duesTo B.L k) ++ flat6 dd)) := hown8; clear hown8; have HG8 : Hid (Below w.heap.size w w8) := own_below HOw3.out hgrow8 HS3.out HSz.out (Nat.le_refl _); clear hgrow8)
          go_roundg (B.L.length - (k + 1))
          case measure => have := HKL.out; omega
          case rel =>
            refine ⟨k + 1, v8, HKL.out, rfl, rfl, by simp, ?_, HG8.out⟩
            rw [HN.out, List.length_append, flat6_append]
            exact HO8.out
    · have hkk : k = B.L.length := by omega
      subst hkk
      rw [duesTo_all] at hown
      have HOw : Hid (wr.ownsRow w.heap.size 37 6 v3 (duesR 0 B.L).length (flat6 (duesR 0 B.L))) := hown
      clear hown
      go_wp2_with fail
      go_ret
      exact ⟨⟨v3, rfl, HOw.out⟩, hS⟩

end Go.Proofs.Ytndggiefgpdiiac
