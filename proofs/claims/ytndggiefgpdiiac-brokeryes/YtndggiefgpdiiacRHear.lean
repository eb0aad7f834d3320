/- The contracts of broker's hearOver, hearSay and Hear. -/
import Derived.Test.YtndggiefgpdiiacRDue
import Derived.Test.YtndggiefgpdiiacQuiet
namespace Go.Proofs.Ytndggiefgpdiiac
open Go.RowKit

/-- A mail in a block of one's own, read. -/
structure MBx (w : World) (b : Nat) (m : Ml) : Prop where
  lt : b < w.heap.size
  c0 : w.cell? ⟨b, 0, none⟩ = some (.int .i64 m.kind)
  c1 : w.cell? ⟨b, 1, none⟩ = some (.int .i64 m.deal)
  c2 : w.cell? ⟨b, 2, none⟩ = some (.int .i64 m.shop)
  c3 : w.cell? ⟨b, 3, none⟩ = some (.int .i64 m.c)
  c4 : w.cell? ⟨b, 4, none⟩ = some (.int .i64 m.d)
  c5 : w.cell? ⟨b, 5, none⟩ = some (.bool m.yes)
theorem MBx.new (w : World) (m : Ml) : MBx (w.alloc (.cells #[.int .i64 m.kind, .int .i64 m.deal, .int .i64 m.shop, .int .i64 m.c, .int .i64 m.d, .bool m.yes] 37)) w.heap.size m :=
  ⟨by simp, by simp [go_sem], by simp [go_sem], by simp [go_sem], by simp [go_sem], by simp [go_sem], by simp [go_sem]⟩
theorem MBx.save {O : Nat → Prop} {w w1 : World} {b : Nat} {m : Ml} (h : MBx w b m) (hs : Save O w w1) (hn : ¬ O b) : MBx w1 b m := by
  have q : ∀ o, w1.cell? ⟨b, o, none⟩ = w.cell? ⟨b, o, none⟩ := fun o => hs.cell (p := ⟨b, o, none⟩) h.lt hn
  exact ⟨Nat.lt_of_lt_of_le h.lt hs.size, (q _).trans h.c0, (q _).trans h.c1, (q _).trans h.c2, (q _).trans h.c3, (q _).trans h.c4, (q _).trans h.c5⟩
theorem MBx.next {w w1 : World} {b : Nat} {m : Ml} (h : MBx w b m) (hb : Below w.heap.size w w1) : MBx w1 b m := h.save (O := fun _ => False) (.of_below hb) (fun q => q)

theorem dec_addI (l : List Int) (m j : Int) : decide (j ∈ addI l m) = (decide (j = m) || decide (j ∈ l)) := by
  rw [Bool.eq_iff_iff]
  simp only [decide_eq_true_eq, Bool.or_eq_true, addI_mem]
  exact Or.comm
theorem dcells_ov (D : Dl) (v : Value) (m : Nat) (hm : m < 3) : dcells ({ D with ov := addI D.ov (m : Int) }, v) = (dcells (D, v)).set (6 + m) (.bool true) := by
  have : m = 0 ∨ m = 1 ∨ m = 2 := by omega
  rcases this with rfl | rfl | rfl <;> simp [dcells, dec_addI]
theorem dcells_yes (D : Dl) (v : Value) (m : Nat) (hm : m < 4) : dcells ({ D with yes := addI D.yes (m : Int) }, v) = (dcells (D, v)).set (2 + m) (.bool true) := by
  have : m = 0 ∨ m = 1 ∨ m = 2 ∨ m = 3 := by omega
  rcases this with rfl | rfl | rfl | rfl <;> simp [dcells, dec_addI]
theorem put_self {B : Bok} {n : Int} {D : Dl} (h : dealAt B n = some D) : putD B n D = B := by
  obtain ⟨k, rfl, hk, hD⟩ := dealAt_some h
  unfold putD
  have : B.L.set (k : Int).toNat D = B.L := by
    apply List.ext_getElem?
    intro j
    by_cases e : k = j
    · subst e
      rw [Int.toNat_natCast, List.getElem?_set_self hk, hD]
    · rw [Int.toNat_natCast, List.getElem?_set_ne e]
  rw [this]
/-- An over of a deal that is decided, from one of its shops. -/
theorem hear_over {B : Bok} {m : Ml} {D : Dl} (hd : dealAt B m.deal = some D) (hk : m.kind = 4) (h0 : D.st ≠ 0) (hs : m.shop ∈ shopsL D.w) : hearR B m = putD B m.deal { D with ov := addI D.ov m.shop } := by
  unfold hearR
  rw [hd]
  simp only
  rw [if_neg h0]
  by_cases ho : m.shop ∈ D.ov
  · rw [if_neg (fun q => q.2.2 ho)]
    have : addI D.ov m.shop = D.ov := by unfold addI; rw [if_pos ho]
    rw [this]
    exact (put_self hd).symm
  · rw [if_pos ⟨hk, hs, ho⟩]
    have : addI D.ov m.shop = D.ov ++ [m.shop] := by unfold addI; rw [if_neg ho]
    rw [this]
theorem hear_over_no {B : Bok} {m : Ml} {D : Dl} (hd : dealAt B m.deal = some D) (hk : m.kind = 4) (h : D.st = 0 ∨ m.shop ∉ shopsL D.w) : hearR B m = B := by
  unfold hearR
  rw [hd]
  simp only
  by_cases h0 : D.st = 0
  · rw [if_pos h0, if_neg (fun q => by omega)]
  · rw [if_neg h0, if_neg (fun q => h.elim h0 (fun z => z q.2.1))]
theorem hear_say_no {B : Bok} {m : Ml} {D : Dl} (hd : dealAt B m.deal = some D) (hk : m.kind = 2) (h : D.st ≠ 0 ∨ wantAt D.w m.c m.d = none ∨ shp m.c ≠ m.shop) : hearR B m = B := by
  unfold hearR
  rw [hd]
  simp only
  by_cases h0 : D.st = 0
  · rw [if_pos h0]
    by_cases h1 : shp m.c = m.shop
    · rw [if_pos ⟨hk, h1⟩]
      rcases h with h | h | h
      · exact absurd h0 h
      · rw [h]
      · exact absurd h1 h
    · rw [if_neg (fun q => h1 q.2)]
  · rw [if_neg h0, if_neg (fun q => by omega)]
theorem hear_say_nay {B : Bok} {m : Ml} {D : Dl} {i : Nat} (hd : dealAt B m.deal = some D) (hk : m.kind = 2) (h0 : D.st = 0) (hw : wantAt D.w m.c m.d = some i) (h1 : shp m.c = m.shop) (hy : m.yes = false) : hearR B m = putD B m.deal { D with st := 2 } := by
  unfold hearR
  rw [hd]
  simp only
  rw [if_pos h0, if_pos ⟨hk, h1⟩, hw]
  simp [hy]
theorem hear_say_yes {B : Bok} {m : Ml} {D : Dl} {i : Nat} (hd : dealAt B m.deal = some D) (hk : m.kind = 2) (h0 : D.st = 0) (hw : wantAt D.w m.c m.d = some i) (h1 : shp m.c = m.shop) (hy : m.yes = true) : hearR B m = if (addI D.yes i).length = D.w.length then { putD B m.deal { D with yes := addI D.yes i, st := 1 } with ord := B.ord ++ [m.deal] } else putD B m.deal { D with yes := addI D.yes i } := by
  unfold hearR
  rw [hd]
  simp only
  rw [if_pos h0, if_pos ⟨hk, h1⟩, hw]
  simp [hy]

/-- A cell of a deal is stored: the broker behind it. -/
theorem brk_set {O : Nat → Prop} {w w1 : World} {q g n cap k j : Nat} {B : Bok} {dv u v : Value} {P : List (Dl × Value)} {D D' : Dl} (h : BrkIn O w q B) (hsub : ∀ u ∈ (.slice (some ⟨g, 0, none⟩) n cap : Value) :: dv :: P.map Prod.snd, ∀ k, u.ownBlock = some k → O k) (hb : Below w.heap.size w w1) (hR : BrkRaw w q B (.slice (some ⟨g, 0, none⟩) n cap) dv P) (hk : P[k]? = some (D, v)) (hj : j < 9) (hw : D'.w = D.w) (e : dcells (D', v) = (dcells (D, v)).set j u) : BrkTo O w (w1.setCell ⟨g, k * 9 + j, none⟩ u) q (putD B (k : Int) D') := by
  have hR1 : BrkRaw w1 q B (.slice (some ⟨g, 0, none⟩) n cap) dv P := hR.save h.lt (.of_below (O := fun _ => False) hb) (fun q => q) (fun _ _ _ _ q => q)
  have hl1 : q < w1.heap.size := Nat.lt_of_lt_of_le h.lt hb.size
  have hS : Save O w (w1.setCell ⟨g, k * 9 + j, none⟩ u) := Save.setCell (Save.of_below hb) (p := ⟨g, k * 9 + j, none⟩) (fun _ => hsub _ List.mem_cons_self g rfl) _
  refine brk_to h.own h.mine hS (hR1.set hl1 hk hj hw e) (by simpa [go_sem] using (h.next hb).loose) ?_
  intro x hx i hi
  rw [map_set_snd hk] at hx
  have := h.own i (hsub x hx i hi)
  have := hb.size
  exact ⟨.inl (hsub x hx i hi), by simp; omega⟩

set_option maxHeartbeats 4000000 in
set_option maxRecDepth 100000 in
theorem rover_any (O : Nat → Prop) (B : Bok) (q : Nat) (m : Ml) (D : Dl) (w : World) (h : BrkIn O w q B) (hI : BInv B) (hd : dealAt B m.deal = some D) (hk4 : m.kind = 4) :
    Calls Try.prog 19 #[.pointer (some ⟨q, 0, none⟩), .agg #[.int .i64 m.kind, .int .i64 m.deal, .int .i64 m.shop, .int .i64 m.c, .int .i64 m.d, .bool m.yes]] w fun e w' => e = .returned (.tuple #[]) ∧ BrkTo O w w' q (hearR B m) := by
  have HI : Hid (BrkIn O w q B) := h
  have hF := hI.fit D (dealAt_mem hd)
  obtain ⟨rv, dv, P, hR, hsub⟩ := h.raw
  obtain ⟨k, hmk0, hk, hkD⟩ := dealAt_some hd
  have hmk : Hid (m.deal = (k : Int)) := hmk0
  have HK4 : Hid (m.kind = 4) := hk4
  clear hmk0 hk4
  obtain ⟨g, cap, v, rfl, hP, h9, hrow, hqg, _⟩ := hR.deal9 hkD
  obtain ⟨gw, capw, rfl, hWa, _⟩ := wants_of_own hrow
  have c0 := hR.c0
  have hql := h.lt
  have j0 : (0 : Int) ≤ (k : Int) := by omega
  have j1 : (k : Int) < (B.L.length : Int) := by omega
  have j2 : (B.L.length : Int) ≤ 8 := by have := hI.len; omega
  go_enter Try.func19, Try.ntmps19
  go_upto_region 1 with fail
  have hb1 : Below w.heap.size w (w.alloc (.cells #[.int .i64 m.kind, .int .i64 m.deal, .int .i64 m.shop, .int .i64 m.c, .int .i64 m.d, .bool m.yes] 37)) := (Below.refl _ _).alloc (Nat.le_refl _) _
  have hX := MBx.new w m
  generalize (w.alloc (.cells #[.int .i64 m.kind, .int .i64 m.deal, .int .i64 m.shop, .int .i64 m.c, .int .i64 m.d, .bool m.yes] 37)) = w1 at hb1 hX ⊢
  have h91 := h9.next hb1
  have c01 : w1.cell? ⟨q, 0, none⟩ = some (.slice (some ⟨g, 0, none⟩) B.L.length cap) := ((bcell hb1).1 _ _ hql).trans c0
  have HWa : Hid (WantsAt w1 gw D.w) := hWa.below hb1 (Nat.le_refl _)
  have hgw : g < w.heap.size := h9.lt
  have HBg : Hid (g ≠ w.heap.size) := by show _ ≠ _; omega
  generalize w.heap.size = B0 at hX HBg ⊢
  have x1 := hX.c1
  rw [hmk.out] at x1
  have hz1 := hX.lt
  have HR : Hid (BrkRaw w q B (.slice (some ⟨g, 0, none⟩) B.L.length cap) dv P) := hR
  have HP : Hid (P[k]? = some (D, .slice gw D.w.length capw)) := hP
  have HSub : Hid (∀ u ∈ (.slice (some ⟨g, 0, none⟩) B.L.length cap : Value) :: dv :: P.map Prod.snd, ∀ k, u.ownBlock = some k → O k) := hsub
  have HB1 : Hid (Below w.heap.size w w1) := hb1
  have HD : Hid _ := hd
  clear h hR hP hsub hb1 hd h9 c0 hrow hWa hql hkD
  go_quiet (fail)
  go_wp2_with fail
  have hbq := bdrewN HB1.out nq
  have hXq := hX.next (w1 := w1.drewN nq) (bdrewN (Below.refl _ _) _)
  have h9q := h91.next (w1 := w1.drewN nq) (bdrewN (Below.refl _ _) _)
  have HWq : Hid (WantsAt (w1.drewN nq) gw D.w) := HWa.out.below (bdrewN (Below.refl _ _) _) (Nat.le_refl _)
  generalize (w1.drewN nq) = w2 at hbq hXq h9q HWq ⊢
  clear hX h91 HWa c01 x1 hz1 HB1
  have y0 := h9q.c0
  have y1 := h9q.c1
  have hgl := h9q.lt
  have x2 := hXq.c2
  have hbl := hXq.lt
  by_cases h0 : D.st = 0
  · have HE : Hid _ := hear_over_no HD.out HK4.out (.inl h0)
    have h0' : (D.st != 0) = false := by simp [h0]
    clear h0
    go_quiet (fail)
    go_wp2_with fail
    exact bodyPost_end (v := .tuple #[]) (by simp [results, Try.results19, go_sem]) rfl ⟨rfl, by rw [HE.out]; exact BrkTo.stay HI.out (bdrewN hbq _)⟩
  · have h0' : (D.st != 0) = true := by simpa using h0
    have HF : Hid (D.w.length ≤ 4) := hF.few
    have HK : Hid (∀ w', Below w2.heap.size w2 w' → w'.cell? ⟨g, k * 9, none⟩ = some (.slice gw D.w.length capw) ∧ w'.cell? ⟨g, k * 9 + 1, none⟩ = some (.int .i64 D.st) ∧ w'.cell? ⟨B0, 2, none⟩ = some (.int .i64 m.shop) ∧ Below w2.heap.size w2 w') := fun w' hb => ⟨((bcell hb).1 _ _ hgl).trans y0, ((bcell hb).1 _ _ hgl).trans y1, ((bcell hb).1 _ _ hbl).trans x2, hb⟩
    have HSh : Hid (∀ W, Below w2.heap.size w2 W → Calls Try.prog 25 #[.slice gw D.w.length capw] W fun e w' => (∃ ga cap, e = .returned (.slice ga (shopsL D.w).length cap) ∧ NumsAt w' ga (shopsL D.w)) ∧ Below W.heap.size W w') := fun W hW => shops_any gw D.w.length capw D.w W (HWq.out.below hW (Nat.le_refl _)) rfl (by have := HF.out; omega)
    have HLs : Hid ((shopsL D.w).length ≤ 3) := shopsTo_length D.w 3
    have H0 : Hid (D.st ≠ 0) := h0
    clear h0 hF
    go_region_held3 (fun w' => w'.cell? ⟨g, k * 9, none⟩ = some (.slice gw D.w.length capw) ∧ w'.cell? ⟨g, k * 9 + 1, none⟩ = some (.int .i64 D.st) ∧ w'.cell? ⟨B0, 2, none⟩ = some (.int .i64 m.shop) ∧ Below w2.heap.size w2 w')
      (first | exact HK.out _ (by go_grown))
      (first | (go_at_call 25; refine Calls.mono (HSh.out _ (by go_grown)) ?_; rintro e w9 ⟨⟨ga, cap9, rfl, hA⟩, hb9⟩; have HA : Hid (NumsAt w9 ga (shopsL D.w)) := hA; clear hA; have hw9 : Below w2.heap.size w2 w9 := after (by go_grown) hb9 (by simp); have hz9 : w2.heap.size ≤ w9.heap.size := hw9.size) | (go_at_call 24; refine (rcon_any ga _ cap9 (shopsL D.w) m.shop _ HA.out rfl (by have := HLs.out; omega)).mono ?_; rintro e w10 ⟨rfl, rfl⟩))
    by_cases hs : m.shop ∈ shopsL D.w
    · rw [decide_eq_true hs]
      have HE : Hid _ := hear_over HD.out HK4.out H0.out hs
      rw [hmk.out] at HE
      obtain ⟨n, hn, hn3, _⟩ := shopsL_mem.1 hs
      have h93 := h9q.next hw9
      have n0 : (0 : Int) ≤ m.shop := by omega
      have n3 : m.shop < 3 := by omega
      have hnn : m.shop.toNat = n := by omega
      have z0 : w10.cell? ⟨g, k * 9 + 6 + m.shop.toNat, none⟩ = some (.bool (decide ((n : Int) ∈ D.ov))) := by
        rw [hnn]
        have : n = 0 ∨ n = 1 ∨ n = 2 := by omega
        rcases this with rfl | rfl | rfl
        · exact h93.c6
        · exact h93.c7
        · exact h93.c8
      have fz := h93.fr
      have HT : Hid (BrkTo O w (w10.setCell ⟨g, k * 9 + (6 + m.shop.toNat), none⟩ (.bool true)) q (putD B (k : Int) { D with ov := addI D.ov m.shop })) := by
        rw [hnn, hn]
        exact brk_set HI.out HSub.out (after hbq hw9 hbq.size) HR.out HP.out (by omega) rfl (dcells_ov D _ n hn3)
      rw [← Nat.add_assoc] at HT
      clear hs hn hnn y0 y1 x2 h9q hXq
      go_wp2_with fail
      go_region
      all_goals
        go_wp2_with fail
        exact bodyPost_end (v := .tuple #[]) (by simp [results, Try.results19, go_sem]) rfl ⟨rfl, by rw [HE.out]; exact HT.out.next (by go_grown)⟩
    · rw [decide_eq_false hs]
      have HE : Hid _ := hear_over_no HD.out HK4.out (.inr hs)
      clear hs
      go_wp2_with fail
      exact bodyPost_end (v := .tuple #[]) (by simp [results, Try.results19, go_sem]) rfl ⟨rfl, by rw [HE.out]; exact BrkTo.stay HI.out (after hbq hw9 hbq.size)⟩

end Go.Proofs.Ytndggiefgpdiiac
