/- The contracts of broker's hearSay and Hear. -/
import Derived.Test.YtndggiefgpdiiacRHear
namespace Go.Proofs.Ytndggiefgpdiiac
open Go.RowKit

theorem num_lies {W : World} {H : Nat} {a : Value} (h0 : W.cell? ⟨H, 0, none⟩ = some a) : ∀ j u, [a][j]? = some u → W.cell? ((⟨H, 0, none⟩ : Addr).add j) = some u := by
  intro j u hj
  match j, hj with
  | 0, hj => simp at hj; subst hj; simpa [Addr.add] using h0
  | j + 1, hj => simp at hj
theorem ixW_some {l : List (Int × Int)} {c d : Int} {i : Nat} (h : wantAt l c d = some i) : ixW l c d = (i : Int) := by unfold ixW; rw [h]
theorem ixW_none {l : List (Int × Int)} {c d : Int} (h : wantAt l c d = none) : ixW l c d = -1 := by unfold ixW; rw [h]

set_option maxHeartbeats 8000000 in
set_option maxRecDepth 100000 in
theorem rsay_any (O : Nat → Prop) (B : Bok) (q : Nat) (m : Ml) (D : Dl) (w : World) (h : BrkIn O w q B) (hI : BInv B) (hd : dealAt B m.deal = some D) (hk2 : m.kind = 2) :
    Calls Try.prog 18 #[.pointer (some ⟨q, 0, none⟩), .agg #[.int .i64 m.kind, .int .i64 m.deal, .int .i64 m.shop, .int .i64 m.c, .int .i64 m.d, .bool m.yes]] w fun e w' => e = .returned (.tuple #[]) ∧ BrkTo O w w' q (hearR B m) := by
  have HI : Hid (BrkIn O w q B) := h
  have HInv : Hid (BInv B) := hI
  have hF := hI.fit D (dealAt_mem hd)
  obtain ⟨rv, dv, P, hR, hsub⟩ := h.raw
  obtain ⟨k, hmk0, hk, hkD⟩ := dealAt_some hd
  have hmk : Hid (m.deal = (k : Int)) := hmk0
  have HK2 : Hid (m.kind = 2) := hk2
  clear hmk0 hk2
  obtain ⟨g, cap, v, rfl, hP, h9, hrow, hqg, _⟩ := hR.deal9 hkD
  obtain ⟨gw, capw, rfl, hWa, _⟩ := wants_of_own hrow
  have c0 := hR.c0
  have hql := h.lt
  have j0 : (0 : Int) ≤ (k : Int) := by omega
  have j1 : (k : Int) < (B.L.length : Int) := by omega
  have j2 : (B.L.length : Int) ≤ 8 := by have := hI.len; omega
  go_enter Try.func18, Try.ntmps18
  go_upto_region 1 with fail
  have hb1 : Below w.heap.size w (w.alloc (.cells #[.int .i64 m.kind, .int .i64 m.deal, .int .i64 m.shop, .int .i64 m.c, .int .i64 m.d, .bool m.yes] 37)) := (Below.refl _ _).alloc (Nat.le_refl _) _
  have hX := MBx.new w m
  generalize (w.alloc (.cells #[.int .i64 m.kind, .int .i64 m.deal, .int .i64 m.shop, .int .i64 m.c, .int .i64 m.d, .bool m.yes] 37)) = w1 at hb1 hX ⊢
  have h91 := h9.next hb1
  have c01 : w1.cell? ⟨q, 0, none⟩ = some (.slice (some ⟨g, 0, none⟩) B.L.length cap) := ((bcell hb1).1 _ _ hql).trans c0
  have HWa : Hid (WantsAt w1 gw D.w) := hWa.below hb1 (Nat.le_refl _)
  have hgw : g < w.heap.size := h9.lt
  have HBg : Hid (g ≠ w.heap.size ∧ w.heap.size ≤ w.heap.size) := by constructor <;> omega
  generalize hB0 : w.heap.size = B0 at hX ⊢
  have HB0 : Hid (w.heap.size = B0) := hB0
  clear hB0
  have x1 := hX.c1
  rw [hmk.out] at x1
  have hz1 := hX.lt
  have HR : Hid (BrkRaw w q B (.slice (some ⟨g, 0, none⟩) B.L.length cap) dv P) := hR
  have HP : Hid (P[k]? = some (D, .slice gw D.w.length capw)) := hP
  have HSub : Hid (∀ u ∈ (.slice (some ⟨g, 0, none⟩) B.L.length cap : Value) :: dv :: P.map Prod.snd, ∀ k, u.ownBlock = some k → O k) := hsub
  have HB1 : Hid (Below w.heap.size w w1) := hb1
  have HD : Hid _ := hd
  have HF : Hid (D.w.length ≤ 4) := hF.few
  have HDm : Hid (D ∈ B.L) := dealAt_mem hd
  clear h hR hP hsub hb1 hd h9 c0 hrow hWa hql hkD hF hI
  go_quiet (fail)
  go_wp2_with fail
  have hbq := bdrewN HB1.out nq
  have hXq := hX.next (w1 := w1.drewN nq) (bdrewN (Below.refl _ _) _)
  have h9q := h91.next (w1 := w1.drewN nq) (bdrewN (Below.refl _ _) _)
  have HWq : Hid (WantsAt (w1.drewN nq) gw D.w) := HWa.out.below (bdrewN (Below.refl _ _) _) (Nat.le_refl _)
  generalize (w1.drewN nq) = w2 at hbq hXq h9q HWq ⊢
  clear hX h91 HWa c01 x1 hz1 HB1
  have y0 := h9q.c0
  have hgl := h9q.lt
  have x3 := hXq.c3
  have x4 := hXq.c4
  have hbl := hXq.lt
  have HK : Hid (∀ w', Below w2.heap.size w2 w' → w'.cell? ⟨g, k * 9, none⟩ = some (.slice gw D.w.length capw) ∧ w'.cell? ⟨B0, 3, none⟩ = some (.int .i64 m.c) ∧ w'.cell? ⟨B0, 4, none⟩ = some (.int .i64 m.d) ∧ Below w2.heap.size w2 w') := fun w' hb => ⟨((bcell hb).1 _ _ hgl).trans y0, ((bcell hb).1 _ _ hbl).trans x3, ((bcell hb).1 _ _ hbl).trans x4, hb⟩
  have HIx : Hid (∀ W, Below w2.heap.size w2 W → Calls Try.prog 23 #[.slice gw D.w.length capw, .agg #[.int .i64 m.c, .int .i64 m.d]] W fun e w' => e = .returned (.int .i64 (ixW D.w m.c m.d)) ∧ Below W.heap.size W w') := fun W hW => ridx_any gw D.w.length capw D.w m.c m.d W (HWq.out.below hW (Nat.le_refl _)) rfl (by have := HF.out; omega)
  go_cut [5] (fun s5 wx => s5 = .int .i64 (ixW D.w m.c m.d) ∧ Below w2.heap.size w2 wx)
  case first =>
    go_region_held3 (fun w' => w'.cell? ⟨g, k * 9, none⟩ = some (.slice gw D.w.length capw) ∧ w'.cell? ⟨B0, 3, none⟩ = some (.int .i64 m.c) ∧ w'.cell? ⟨B0, 4, none⟩ = some (.int .i64 m.d) ∧ Below w2.heap.size w2 w')
      (first | exact HK.out _ (by go_grown))
      (first | (go_at_call 23; refine Calls.mono (HIx.out _ (by go_grown)) ?_; rintro e w9 ⟨rfl, hb9⟩; have hw9 : Below w2.heap.size w2 w9 := after (by go_grown) hb9 (by simp); have hz9 : w2.heap.size ≤ w9.heap.size := hw9.size))
    all_goals
      go_wp2_with fail
      go_meet
      case rel => exact ⟨rfl, hw9⟩
  case rest =>
    obtain ⟨rfl, hbc⟩ := hcut
    have hX3 := hXq.next hbc
    have h93 := h9q.next hbc
    have hb3 : Below w.heap.size w wc := after hbq hbc hbq.size
    have HW3 : Hid (WantsAt wc gw D.w) := HWq.out.below hbc (Nat.le_refl _)
    clear hXq h9q hbq HWq y0 x3 x4 hgl hbl HK HIx hbc
    have y1 := h93.c1
    have x2 := hX3.c2
    have x3 := hX3.c3
    have x5 := hX3.c5
    have x1 := hX3.c1
    by_cases h0 : D.st = 0
    · have h0' : (D.st != 0) = false := by simp [h0]
      have H0 : Hid (D.st = 0) := h0
      clear h0
      cases hw : wantAt D.w m.c m.d with
      | none =>
        rw [ixW_none hw]
        have HE : Hid _ := hear_say_no HD.out HK2.out (.inr (.inl hw))
        clear hw
        go_upto_region 3 with fail
        go_quiet (fail)
        go_wp2_with fail
        exact bodyPost_ret (v := .tuple #[]) (by simp [results, Try.results18, go_sem]) rfl ⟨rfl, by rw [HE.out]; exact BrkTo.stay HI.out (bdrewN hb3 _)⟩
      | some i =>
        rw [ixW_some hw]
        have hiw := wantAt_some hw
        have hil := (List.getElem?_eq_some_iff.1 hiw).1
        have i0 : (0 : Int) ≤ (i : Int) := by omega
        have i4 : (i : Int) < 4 := by have := HF.out; omega
        by_cases hs : shp m.c = m.shop
        · have hs' : (shp m.c != m.shop) = false := by simp [hs]
          cases hy : m.yes with
          | false =>
            have HE : Hid _ := hear_say_nay HD.out HK2.out H0.out hw hs hy
            rw [hmk.out] at HE
            rw [hy] at x5
            have fz := h93.fr
            have HT : Hid (∀ w4, Below wc.heap.size wc w4 → BrkTo O w (w4.setCell ⟨g, k * 9 + 1, none⟩ (.int .i64 2)) q (putD B (k : Int) { D with st := 2 })) := fun w4 h4 => brk_set HI.out HSub.out (after hb3 h4 hb3.size) HR.out HP.out (by decide) rfl (dcells_st D _ 2)
            clear hw hs hy
            go_upto_region 3 with fail
            go_quiet ((go_at_call 9; exact Calls.quiet_of_same (shop_any _ _)))
            go_wp2_with fail
            exact bodyPost_ret (v := .tuple #[]) (by simp [results, Try.results18, go_sem]) rfl ⟨rfl, by rw [HE.out]; exact HT.out _ (bdrewN (Below.refl _ _) _)⟩
          | true =>
            have HE : Hid _ := hear_say_yes HD.out HK2.out H0.out hw hs hy
            rw [hmk.out] at HE
            rw [hy] at x5
            have HY : Hid (m.yes = true) := hy
            have HHl : Hid (i < 4 ∧ D.w[i]? = some (m.c, m.d)) := ⟨by have := HF.out; omega, hiw⟩
            clear hw hs hy hiw hil
            go_upto_region 3 with fail
            go_quiet ((go_at_call 9; exact Calls.quiet_of_same (shop_any _ _)))
            have hb4 := bdrewN hb3 nq
            have hX4 := hX3.next (w1 := wc.drewN nq) (bdrewN (Below.refl _ _) _)
            have h94 := h93.next (w1 := wc.drewN nq) (bdrewN (Below.refl _ _) _)
            have HW4 : Hid (WantsAt (wc.drewN nq) gw D.w) := HW3.out.below (bdrewN (Below.refl _ _) _) (Nat.le_refl _)
            generalize (wc.drewN nq) = w4 at hb4 hX4 h94 HW4 ⊢
            clear hX3 h93 hb3 HW3 y1 x2 x3 x5 x1
            have x5 := hX4.c5
            rw [HY.out] at x5
            obtain ⟨E, hE⟩ : ∃ E, E = ({ D with yes := addI D.yes (i : Int) } : Dl) := ⟨_, rfl⟩
            have z0 : w4.cell? ⟨g, k * 9 + 2 + i, none⟩ = some (.bool (decide ((i : Int) ∈ D.yes))) := by
              have h4 := HHl.out.1
              have : i = 0 ∨ i = 1 ∨ i = 2 ∨ i = 3 := by omega
              rcases this with rfl | rfl | rfl | rfl
              · exact h94.c2
              · exact h94.c3
              · exact h94.c4
              · exact h94.c5
            have fz := h94.fr
            have hgl := h94.lt
            have hR4 : BrkRaw w4 q B (.slice (some ⟨g, 0, none⟩) B.L.length cap) dv P := HR.out.save HI.out.lt (.of_below (O := fun _ => False) hb4) (fun q => q) (fun _ _ _ _ q => q)
            have hql4 : q < w4.heap.size := Nat.lt_of_lt_of_le HI.out.lt hb4.size
            have hR5 := hR4.set (D' := E) (j := 2 + i) (u := .bool true) hql4 HP.out (by have := HHl.out.1; omega) (by rw [hE]) (by rw [hE]; exact dcells_yes D _ i HHl.out.1)
            rw [← Nat.add_assoc] at hR5
            have hS5 : Save (fun b => b = g) w4 (w4.setCell ⟨g, k * 9 + 2 + i, none⟩ (.bool true)) := Save.setCell (O := fun b => b = g) (Save.refl _ _) (p := ⟨g, k * 9 + 2 + i, none⟩) (fun _ => rfl) _
            have hX5 := hX4.save hS5 (fun e => by have := HBg.out.1; have := HB0.out; omega)
            have HB4 : Hid (Below w.heap.size w w4) := hb4
            have hl5 : q < (w4.setCell ⟨g, k * 9 + 2 + i, none⟩ (.bool true)).heap.size := by simpa using hql4
            have hf5 : ∀ j, (w4.setCell ⟨g, k * 9 + 2 + i, none⟩ (.bool true)).frozen? ⟨q, j, none⟩ = false := by simpa [go_sem] using (HI.out.next hb4).loose
            have HSv5 : Hid (Save O w (w4.setCell ⟨g, k * 9 + 2 + i, none⟩ (.bool true))) := Save.setCell (Save.of_below hb4) (p := ⟨g, k * 9 + 2 + i, none⟩) (fun _ => HSub.out _ List.mem_cons_self g rfl) _
            go_upto_region 7 with fail
            generalize (w4.setCell ⟨g, k * 9 + 2 + i, none⟩ (.bool true)) = w5 at hR5 hX5 hl5 hf5 HSv5 ⊢
            clear hX4 h94 hb4 HW4 x5 z0 fz hgl hR4 hql4 hS5
            have hPk : (P.set k (E, .slice gw D.w.length capw))[k]? = some (E, .slice gw D.w.length capw) := List.getElem?_set_self (List.getElem?_eq_some_iff.1 HP.out).1
            have hEL : (putD B (k : Int) E).L[k]? = some E := by
              show (B.L.set (k : Int).toNat E)[k]? = some E
              rw [Int.toNat_natCast]
              exact List.getElem?_set_self hk
            obtain ⟨g', cap', v', e', hP', h95, hrow5, _, _⟩ := hR5.deal9 hEL
            have eg : g = g' := by
              simp only [Value.slice.injEq, Option.some.injEq, Addr.mk.injEq] at e'
              exact e'.1.1
            subst eg
            rw [hPk] at hP'
            have ev : v' = .slice gw D.w.length capw := by simpa using (Option.some.inj hP').symm
            subst ev
            have hEw : E.w = D.w := by rw [hE]
            obtain ⟨gw', capw', ew, hWa5, _⟩ := wants_of_own hrow5
            obtain ⟨rfl, rfl⟩ : gw = gw' ∧ capw = capw' := by
              simp only [Value.slice.injEq] at ew
              exact ⟨ew.1, ew.2.2⟩
            rw [hEw] at hWa5
            have HEw : Hid (E.w = D.w) := hEw
            have HWa5 : Hid (WantsAt w5 gw D.w) := hWa5
            obtain ⟨ll, hll⟩ : ∃ ll, ll = asksR m.deal E.yes 0 D.w := ⟨_, rfl⟩
            have HAs : Hid (∀ W, Below w5.heap.size w5 W → Calls Try.prog 20 #[.agg #[.slice gw D.w.length capw, .int .i64 E.st, .bool (decide ((0 : Int) ∈ E.yes)), .bool (decide ((1 : Int) ∈ E.yes)), .bool (decide ((2 : Int) ∈ E.yes)), .bool (decide ((3 : Int) ∈ E.yes)), .bool (decide ((0 : Int) ∈ E.ov)), .bool (decide ((1 : Int) ∈ E.ov)), .bool (decide ((2 : Int) ∈ E.ov))], .int .i64 m.deal] W fun e w' => (∃ v, e = .returned v ∧ w'.ownsRow W.heap.size 37 6 v ll.length (flat6 ll)) ∧ Below W.heap.size W w') := fun W hW => by
              have := rasks_any E m.deal gw capw W (by rw [HEw.out]; exact HWa5.out.below hW (Nat.le_refl _)) (by rw [HEw.out]; exact HF.out)
              rw [HEw.out] at this
              rw [hll]
              exact this
            have hyn := HInv.out.ynd D HDm.out
            have hyi := HInv.out.yin D HDm.out
            have HAll : Hid (ll.length = 0 ↔ (addI D.yes (i : Int)).length = D.w.length) := by
              have h1 := asks_empty (n := m.deal) (w := D.w) (addI_nodup hyn (i : Int)) (addI_in hyi HHl.out.2 rfl)
              show _ ↔ _
              rw [← h1, hll, List.length_eq_zero_iff, hE]
            have HEE : Hid (E = ({ D with yes := addI D.yes (i : Int) } : Dl)) := hE
            have HR5 : Hid (BrkRaw w5 q (putD B (k : Int) E) (.slice (some ⟨g, 0, none⟩) B.L.length cap) dv (P.set k (E, .slice gw D.w.length capw))) := hR5
            have HPk : Hid _ := hPk
            clear hR5 hPk hEL hP' e' hrow5 hEw ew hWa5 hyn hyi hll hE
            obtain ⟨d0, d1, d2, d3, d4, d5, d6, d7, d8, dl, df⟩ := h95
            have x1 := hX5.c1
            have xl := hX5.lt
            have HK : Hid (∀ w', Below w5.heap.size w5 w' → w'.cell? ⟨g, k * 9, none⟩ = some (.slice gw D.w.length capw) ∧ w'.cell? ⟨g, k * 9 + 1, none⟩ = some (.int .i64 E.st) ∧ w'.cell? ⟨g, k * 9 + 2, none⟩ = some (.bool (decide ((0 : Int) ∈ E.yes))) ∧ w'.cell? ⟨g, k * 9 + 3, none⟩ = some (.bool (decide ((1 : Int) ∈ E.yes))) ∧ w'.cell? ⟨g, k * 9 + 4, none⟩ = some (.bool (decide ((2 : Int) ∈ E.yes))) ∧ w'.cell? ⟨g, k * 9 + 5, none⟩ = some (.bool (decide ((3 : Int) ∈ E.yes))) ∧ w'.cell? ⟨g, k * 9 + 6, none⟩ = some (.bool (decide ((0 : Int) ∈ E.ov))) ∧ w'.cell? ⟨g, k * 9 + 7, none⟩ = some (.bool (decide ((1 : Int) ∈ E.ov))) ∧ w'.cell? ⟨g, k * 9 + 8, none⟩ = some (.bool (decide ((2 : Int) ∈ E.ov))) ∧ w'.cell? ⟨B0, 1, none⟩ = some (.int .i64 m.deal) ∧ Below w5.heap.size w5 w') := fun w' hb => ⟨((bcell hb).1 _ _ dl).trans d0, ((bcell hb).1 _ _ dl).trans d1, ((bcell hb).1 _ _ dl).trans d2, ((bcell hb).1 _ _ dl).trans d3, ((bcell hb).1 _ _ dl).trans d4, ((bcell hb).1 _ _ dl).trans d5, ((bcell hb).1 _ _ dl).trans d6, ((bcell hb).1 _ _ dl).trans d7, ((bcell hb).1 _ _ dl).trans d8, ((bcell hb).1 _ _ xl).trans x1, hb⟩
            clear d0 d1 d2 d3 d4 d5 d6 d7 d8
            go_region_held3 (fun w' => w'.cell? ⟨g, k * 9, none⟩ = some (.slice gw D.w.length capw) ∧ w'.cell? ⟨g, k * 9 + 1, none⟩ = some (.int .i64 E.st) ∧ w'.cell? ⟨g, k * 9 + 2, none⟩ = some (.bool (decide ((0 : Int) ∈ E.yes))) ∧ w'.cell? ⟨g, k * 9 + 3, none⟩ = some (.bool (decide ((1 : Int) ∈ E.yes))) ∧ w'.cell? ⟨g, k * 9 + 4, none⟩ = some (.bool (decide ((2 : Int) ∈ E.yes))) ∧ w'.cell? ⟨g, k * 9 + 5, none⟩ = some (.bool (decide ((3 : Int) ∈ E.yes))) ∧ w'.cell? ⟨g, k * 9 + 6, none⟩ = some (.bool (decide ((0 : Int) ∈ E.ov))) ∧ w'.cell? ⟨g, k * 9 + 7, none⟩ = some (.bool (decide ((1 : Int) ∈ E.ov))) ∧ w'.cell? ⟨g, k * 9 + 8, none⟩ = some (.bool (decide ((2 : Int) ∈ E.ov))) ∧ w'.cell? ⟨B0, 1, none⟩ = some (.int .i64 m.deal) ∧ Below w5.heap.size w5 w')
              (first | exact HK.out _ (by go_grown))
              (first | (go_at_call 20; refine Calls.mono (HAs.out _ (by go_grown)) ?_; rintro e w6 ⟨⟨v6, rfl, hown6⟩, hb6⟩; obtain ⟨ga6, cap6, rfl⟩ := own_sl hown6; clear hown6; have hw6 : Below w5.heap.size w5 w6 := after (by go_grown) hb6 (by simp); have hz6 : w5.heap.size ≤ w6.heap.size := hw6.size))
            have d1 := (HK.out w6 hw6).2.1
            clear HK HAs HWa5
            have hX6 := hX5.next hw6
            have x1 := hX6.c1
            have hf6 := loose q hw6 hl5 hf5
            have hg6 := loose g hw6 dl df
            have hl6 : q < w6.heap.size := Nat.lt_of_lt_of_le hl5 hw6.size
            have hR6 : BrkRaw w6 q (putD B (k : Int) E) (.slice (some ⟨g, 0, none⟩) B.L.length cap) dv (P.set k (E, .slice gw D.w.length capw)) := HR5.out.save hl5 (.of_below (O := fun _ => False) hw6) (fun q => q) (fun _ _ _ _ q => q)
            have HSv6 : Hid (Save O w w6) := HSv5.out.next hw6
            have HRows : Hid (∀ u ∈ (.slice (some ⟨g, 0, none⟩) B.L.length cap : Value) :: dv :: (P.set k (E, .slice gw D.w.length capw)).map Prod.snd, ∀ j, u.ownBlock = some j → O j ∧ j < w6.heap.size) := by
              intro u hu j hj
              rw [map_set_snd HP.out] at hu
              have h1 := HSub.out u hu j hj
              exact ⟨h1, Nat.lt_of_lt_of_le (HI.out.own j h1) HSv6.out.size⟩
            by_cases hl : (addI D.yes (i : Int)).length = D.w.length
            · have hl0 : ll.length = 0 := HAll.out.2 hl
              have hl' : ((ll.length : Int) == 0) = true := by simp [hl0]
              have HL : Hid _ := hl
              have hPk6 := HPk.out
              have hR7 := hR6.set (D' := { E with st := 1 }) (j := 1) (u := .int .i64 1) hl6 hPk6 (by decide) rfl (dcells_st E _ 1)
              have hS7 : Save (fun b => b = g) w6 (w6.setCell ⟨g, k * 9 + 1, none⟩ (.int .i64 1)) := Save.setCell (O := fun b => b = g) (Save.refl _ _) (p := ⟨g, k * 9 + 1, none⟩) (fun _ => rfl) _
              have hX7 := hX6.save hS7 (fun e => by have := HBg.out.1; have := HB0.out; omega)
              have hl7 : q < (w6.setCell ⟨g, k * 9 + 1, none⟩ (.int .i64 1)).heap.size := by simpa using hl6
              have hf7 : ∀ j, (w6.setCell ⟨g, k * 9 + 1, none⟩ (.int .i64 1)).frozen? ⟨q, j, none⟩ = false := by simpa [go_sem] using hf6
              have HSv7 : Hid (Save O w (w6.setCell ⟨g, k * 9 + 1, none⟩ (.int .i64 1))) := HSv6.out.setCell (p := ⟨g, k * 9 + 1, none⟩) (fun _ => HSub.out _ List.mem_cons_self g rfl) _
              have HRw7 : Hid (∀ u ∈ (.slice (some ⟨g, 0, none⟩) B.L.length cap : Value) :: dv :: ((P.set k (E, .slice gw D.w.length capw)).set k ({ E with st := 1 }, .slice gw D.w.length capw)).map Prod.snd, ∀ j, u.ownBlock = some j → O j ∧ j < (w6.setCell ⟨g, k * 9 + 1, none⟩ (.int .i64 1)).heap.size) := by
                intro u hu j hj
                rw [map_set_snd hPk6] at hu
                have := HRows.out u hu j hj
                exact ⟨this.1, by simpa using this.2⟩
              clear hl hl0 hPk6 hR6 hX6 x1
              go_upto_region 9 with fail
              generalize (w6.setCell ⟨g, k * 9 + 1, none⟩ (.int .i64 1)) = w7 at hR7 hX7 hl7 hf7 HSv7 HRw7 ⊢
              clear hS7 HSv6 hf6 hg6 hl6 d1 dl df xl
              have c1 := hR7.c1
              have hord : w7.ownsRow (q + 1) 3 1 dv B.ord.length (B.ord.map (Value.int .i64)) := hR7.ord
              obtain ⟨gd, capd, rfl⟩ := own_sl hord
              have HOrd : Hid (w7.ownsRow (q + 1) 3 1 (.slice gd B.ord.length capd) B.ord.length (B.ord.map (Value.int .i64))) := hord
              have HR7 : Hid (BrkRaw w7 q (putD (putD B (k : Int) E) (k : Int) { E with st := 1 }) (.slice (some ⟨g, 0, none⟩) B.L.length cap) (.slice gd B.ord.length capd) ((P.set k (E, .slice gw D.w.length capw)).set k ({ E with st := 1 }, .slice gw D.w.length capw))) := hR7
              have HN1 : Hid (some q ≠ (.slice gd B.ord.length capd : Value).ownBlock) := fun e => by have := (HOrd.out.lt q e.symm).1; omega
              have HLo : Hid (B.ord.length ≤ 8) := HInv.out.ordLen
              have x1 := hX7.c1
              have xl := hX7.lt
              obtain ⟨ii, hi, hz0, hz1, hz2⟩ := info_parts infoInt
              clear hR7 hord hX7
              go_region_law
                (first | (refine step_append_two (by rfl) (.tmp 64) (.tmp 67) 23 (by rfl) (q + 1) 3 ii (.int .i64 0) 1 8 Try.underlying23 hi hz0 hz1 hz2 rfl (by decide) (.slice gd B.ord.length capd) _ _ (by rfl) (own_next HOrd.out (by go_grown)) ⟨w7.heap.size, 0, none⟩ 1 1 [.int .i64 m.deal] (by rfl) rfl (num_lies (by simp [go_sem])) num_cell (by have := HLo.out; unfold maxLen; omega) (by have := HLo.out; omega) (by simp; omega) (by decide) ?_; intro v8 w8 hown8 hgrow8 hwh8; obtain ⟨ga8, cap8, rfl⟩ := own_sl hown8; have HO8 : Hid (w8.ownsRow (q + 1) 3 1 (.slice ga8 (B.ord.length + 1) cap8) (B.ord.length + 1) (B.ord.map (Value.int .i64) ++ [.int .i64 m.deal])) := hown8; clear hown8; have HW8 : Hid _ := hwh8; clear hwh8; have k8 : w8.cell? ⟨q, 1, none⟩ = some (.slice gd B.ord.length capd) := hgrow8.cell (by simp [go_sem, c1, hl7]) HN1.out; have f8 : ∀ k, w8.frozen? ⟨q, k, none⟩ = false := fun k => (World.frozen?_of_block (hgrow8.block q (by simp; omega) HN1.out)).trans (by simp [go_sem, hf7, hl7])))
              all_goals
                have h8 : Save (fun k => (Value.slice gd B.ord.length capd).ownBlock = some k) w7 w8 := (Save.of_below (by go_grown)).grown hgrow8 (fun k e _ => e)
                have hW8 : ∀ k, (Value.slice ga8 (B.ord.length + 1) cap8).ownBlock = some k → (Value.slice gd B.ord.length capd).ownBlock = some k ∨ w7.heap.size ≤ k := fun k hk => (HW8.out k hk).imp id (fun e => by rw [e]; simp)
                clear hgrow8 x1 c1
                go_wp2_with fail
                refine bodyPost_end (v := .tuple #[]) (by simp [results, Try.results18, go_sem]) rfl ⟨rfl, ?_⟩
                rw [HE.out, if_pos HL.out]
                have e8 : (B.ord ++ [(k : Int)]).length = B.ord.length + 1 := by simp
                have e9 : (B.ord ++ [(k : Int)]).map (Value.int .i64) = B.ord.map (Value.int .i64) ++ [.int .i64 m.deal] := by rw [hmk.out]; simp
                have hR9 := HR7.out.ordr (l := B.ord ++ [(k : Int)]) (v8 := .slice ga8 (B.ord.length + 1) cap8) hl7 (fun u hu j hj => (HRw7.out u hu j hj).2) h8 (by rw [e8, e9]; exact HO8.out) hW8
                have eB : ({ putD (putD B (k : Int) E) (k : Int) { E with st := 1 } with ord := B.ord ++ [(k : Int)] } : Bok) = { putD B (k : Int) { D with yes := addI D.yes (i : Int), st := 1 } with ord := B.ord ++ [(k : Int)] } := by
                  rw [HEE.out]
                  unfold putD
                  simp
                rw [eB] at hR9
                refine brk_to HI.out.own HI.out.mine ?_ hR9 (by simpa [go_sem] using f8) ?_
                · exact (HSv7.out.trans h8 (fun j _ e => (HRw7.out _ (by simp) j e).1)).setCell (p := ⟨q, 1, none⟩) (fun _ => HI.out.mine) _
                · intro u hu j hj
                  have hsz : (w8.setCell (⟨q, 1, none⟩ : Addr) (.slice ga8 (B.ord.length + 1) cap8)).heap.size = w8.heap.size := by simp
                  rw [hsz]
                  have z1 := HSv7.out.size
                  have z8 := h8.size
                  have old : ∀ x ∈ (.slice (some ⟨g, 0, none⟩) B.L.length cap : Value) :: (.slice gd B.ord.length capd) :: ((P.set k (E, .slice gw D.w.length capw)).set k ({ E with st := 1 }, .slice gw D.w.length capw)).map Prod.snd, x.ownBlock = some j → (O j ∨ w.heap.size ≤ j) ∧ j < w8.heap.size := fun x hx hj => ⟨.inl (HRw7.out x hx j hj).1, by have := (HRw7.out x hx j hj).2; omega⟩
                  rcases List.mem_cons.1 hu with rfl | hu
                  · exact old _ (by simp) hj
                  · rcases List.mem_cons.1 hu with rfl | hu
                    · refine ⟨?_, (HO8.out.lt j hj).2⟩
                      rcases hW8 j hj with e | e
                      · exact (old _ (by simp) e).1
                      · exact .inr (by omega)
                    · exact old _ (List.mem_cons_of_mem _ (List.mem_cons_of_mem _ hu)) hj
            · have hl0 : ¬ ll.length = 0 := fun q => hl (HAll.out.1 q)
              have hl' : ((ll.length : Int) == 0) = false := by rw [beq_eq_false_iff_ne]; omega
              have HL : Hid _ := hl
              clear hl hl0
              go_wp2_with fail
              refine bodyPost_end (v := .tuple #[]) (by simp [results, Try.results18, go_sem]) rfl ⟨rfl, ?_⟩
              rw [HE.out, if_neg HL.out, ← HEE.out]
              exact brk_to HI.out.own HI.out.mine HSv6.out hR6 hf6 (fun u hu j hj => ⟨.inl (HRows.out u hu j hj).1, (HRows.out u hu j hj).2⟩)
        · have hs' : (shp m.c != m.shop) = true := by simpa using hs
          have HE : Hid _ := hear_say_no HD.out HK2.out (.inr (.inr hs))
          clear hw hs
          go_upto_region 3 with fail
          go_quiet ((go_at_call 9; exact Calls.quiet_of_same (shop_any _ _)))
          go_wp2_with fail
          exact bodyPost_ret (v := .tuple #[]) (by simp [results, Try.results18, go_sem]) rfl ⟨rfl, by rw [HE.out]; exact BrkTo.stay HI.out (bdrewN hb3 _)⟩
    · have h0' : (D.st != 0) = true := by simpa using h0
      have HE : Hid _ := hear_say_no HD.out HK2.out (.inl h0)
      clear h0
      go_upto_region 3 with fail
      go_quiet (fail)
      go_wp2_with fail
      exact bodyPost_ret (v := .tuple #[]) (by simp [results, Try.results18, go_sem]) rfl ⟨rfl, by rw [HE.out]; exact BrkTo.stay HI.out (bdrewN hb3 _)⟩

theorem hear_none {B : Bok} {m : Ml} (h : dealAt B m.deal = none) : hearR B m = B := by
  unfold hearR
  rw [h]
theorem hear_other {B : Bok} {m : Ml} (h2 : m.kind ≠ 2) (h4 : m.kind ≠ 4) : hearR B m = B := by
  unfold hearR
  cases hd : dealAt B m.deal with
  | none => rfl
  | some D =>
    simp only
    rw [if_neg (fun q : m.kind = 2 ∧ _ => h2 q.1), if_neg (fun q : m.kind = 4 ∧ _ => h4 q.1)]
    split <;> rfl

set_option maxHeartbeats 4000000 in
set_option maxRecDepth 100000 in
theorem rhear_any (O : Nat → Prop) (B : Bok) (q : Nat) (m : Ml) (w : World) (h : BrkIn O w q B) (hI : BInv B) :
    Calls Try.prog 8 #[.pointer (some ⟨q, 0, none⟩), .agg #[.int .i64 m.kind, .int .i64 m.deal, .int .i64 m.shop, .int .i64 m.c, .int .i64 m.d, .bool m.yes]] w fun e w' => e = .returned (.tuple #[]) ∧ BrkTo O w w' q (hearR B m) := by
  have HI : Hid (BrkIn O w q B) := h
  have HInv : Hid (BInv B) := hI
  have hql := h.lt
  clear h hI
  go_enter Try.func8, Try.ntmps8
  go_upto_region 1 with fail
  have hb1 : Below w.heap.size w (w.alloc (.cells #[.int .i64 m.kind, .int .i64 m.deal, .int .i64 m.shop, .int .i64 m.c, .int .i64 m.d, .bool m.yes] 37)) := (Below.refl _ _).alloc (Nat.le_refl _) _
  have hX := MBx.new w m
  generalize (w.alloc (.cells #[.int .i64 m.kind, .int .i64 m.deal, .int .i64 m.shop, .int .i64 m.c, .int .i64 m.d, .bool m.yes] 37)) = w1 at hb1 hX ⊢
  have HI1 : Hid (BrkIn O w1 q B) := HI.out.next hb1
  have HH : Hid _ := rhas_any O B q m.deal w1 HI1.out HInv.out.len
  have HB1 : Hid (Below w.heap.size w w1) := hb1
  generalize w.heap.size = B0 at hX ⊢
  obtain ⟨_, x0, x1, x2, x3, x4, x5⟩ := hX
  clear hb1
  cases hd : dealAt B m.deal with
  | none =>
    rw [hd] at HH
    have HE : Hid _ := hear_none hd
    clear hd
    go_wp2_with fail
    refine Calls.mono HH.out ?_
    rintro e w' ⟨rfl, rfl⟩
    go_wp2_with fail
    exact bodyPost_ret (v := .tuple #[]) (by simp [results, Try.results8, go_sem]) rfl ⟨rfl, by rw [HE.out]; exact BrkTo.stay HI.out HB1.out⟩
  | some D =>
    rw [hd] at HH
    by_cases h2 : m.kind = 2
    · have HC : Hid _ := rsay_any O B q m D w1 HI1.out HInv.out hd h2
      have h2' : (m.kind == 2) = true := by simp [h2]
      clear hd h2
      go_wp2_with fail
      refine Calls.mono HH.out ?_
      rintro e w' ⟨rfl, rfl⟩
      go_wp2_with fail
      refine Calls.mono HC.out ?_
      rintro e w2 ⟨rfl, hT⟩
      go_wp2_with fail
      exact bodyPost_end (v := .tuple #[]) (by simp [results, Try.results8, go_sem]) rfl ⟨rfl, hT.behind HB1.out⟩
    · have h2' : (m.kind == 2) = false := by simpa using h2
      by_cases h4 : m.kind = 4
      · have HC : Hid _ := rover_any O B q m D w1 HI1.out HInv.out hd h4
        have h4' : (m.kind == 4) = true := by simp [h4]
        clear hd h2 h4
        go_wp2_with fail
        refine Calls.mono HH.out ?_
        rintro e w' ⟨rfl, rfl⟩
        go_wp2_with fail
        refine Calls.mono HC.out ?_
        rintro e w2 ⟨rfl, hT⟩
        go_wp2_with fail
        exact bodyPost_end (v := .tuple #[]) (by simp [results, Try.results8, go_sem]) rfl ⟨rfl, hT.behind HB1.out⟩
      · have h4' : (m.kind == 4) = false := by simpa using h4
        have HE : Hid (hearR B m = B) := hear_other h2 h4
        clear hd h2 h4
        go_wp2_with fail
        refine Calls.mono HH.out ?_
        rintro e w' ⟨rfl, rfl⟩
        go_wp2_with fail
        exact bodyPost_end (v := .tuple #[]) (by simp [results, Try.results8, go_sem]) rfl ⟨rfl, by rw [HE.out]; exact BrkTo.stay HI.out HB1.out⟩

end Go.Proofs.Ytndggiefgpdiiac
