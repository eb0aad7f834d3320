/- The plain mathematics of a broker alone: what is due stands once, and is told of the deal's own wants and shops; behind a Crash nothing is open; all said yes. No program is named here. -/
import Derived.Test.YtndggiefgpdiiacTBrk
import Derived.Test.YtndggiefgpdiiacTDue
namespace Go.Proofs.Ytndggiefgpdiiac
open Go.RowKit

/-- What is due of a deal. -/
theorem dueD_is {n : Int} {D : Dl} {m : Ml} (h : m ∈ dueD n D) : m.deal = n ∧ ((D.st = 0 ∧ m.kind = 1 ∧ (m.c, m.d) ∈ D.w ∧ m.shop = shp m.c ∧ m.yes = false) ∨ (D.st ≠ 0 ∧ m.kind = 3 ∧ m.yes = (D.st == 1) ∧ m.shop ∈ shopsL D.w ∧ m.shop ∉ D.ov)) := by
  unfold dueD at h
  split at h
  · rename_i h0
    obtain ⟨c, d, hm, rfl⟩ := asks_mem h
    exact ⟨rfl, .inl ⟨h0, rfl, hm, rfl, rfl⟩⟩
  · rename_i h0
    unfold endsR at h
    obtain ⟨s, hs, rfl⟩ := List.mem_map.1 h
    obtain ⟨h1, h2⟩ := List.mem_filter.1 hs
    exact ⟨rfl, .inr ⟨h0, rfl, rfl, h1, by simpa using h2⟩⟩
theorem due_is {B : Bok} {m : Ml} (h : m ∈ dueR B) : ∃ D, dealAt B m.deal = some D ∧ ((D.st = 0 ∧ m.kind = 1 ∧ (m.c, m.d) ∈ D.w ∧ m.shop = shp m.c ∧ m.yes = false) ∨ (D.st ≠ 0 ∧ m.kind = 3 ∧ m.yes = (D.st == 1) ∧ m.shop ∈ shopsL D.w ∧ m.shop ∉ D.ov)) := by
  obtain ⟨n, D, hD, hm⟩ := due_mem h
  obtain ⟨e, hc⟩ := dueD_is hm
  exact ⟨D, by rw [e]; exact hD, hc⟩
theorem asks_nodup {n : Int} {yes : List Int} : ∀ {w : List (Int × Int)} {k : Nat}, w.Pairwise (fun x y => x.1 ≠ y.1) → (asksR n yes k w).Nodup := by
  intro w
  induction w with
  | nil => intro k _; exact List.nodup_nil
  | cons x r ih =>
    intro k h
    obtain ⟨h1, h2⟩ := List.pairwise_cons.1 h
    simp only [asksR]
    split
    · exact ih h2
    · refine List.nodup_cons.2 ⟨fun hm => ?_, ih h2⟩
      obtain ⟨c, d, hcd, e⟩ := asks_mem hm
      have : x.1 = c := congrArg Ml.c e
      exact h1 _ hcd this
theorem ends_nodup (n : Int) (D : Dl) : (endsR n D).Nodup := by
  unfold endsR
  have h1 : ((shopsL D.w).filter (fun s => decide (s ∉ D.ov))).Pairwise (· < ·) := (shopsL_rising D.w).sublist List.filter_sublist
  refine List.pairwise_map.2 (h1.imp ?_)
  intro a b hab e
  have : a = b := congrArg Ml.shop e
  omega
theorem dueD_nodup {n : Int} {D : Dl} (h : Fit D.w) : (dueD n D).Nodup := by
  unfold dueD
  split
  · exact asks_nodup h.apart
  · exact ends_nodup n D
theorem dues_nodup : ∀ {L : List Dl} {k : Nat}, (∀ D ∈ L, Fit D.w) → (duesR k L).Nodup := by
  intro L
  induction L with
  | nil => intro k _; exact List.nodup_nil
  | cons D r ih =>
    intro k h
    simp only [duesR]
    refine List.nodup_append.2 ⟨dueD_nodup (h D (by simp)), ih (fun E hE => h E (by simp [hE])), ?_⟩
    intro a ha b hb e
    subst e
    obtain ⟨e1, _⟩ := dueD_is ha
    obtain ⟨i, E, _, hm⟩ := dues_mem hb
    obtain ⟨e2, _⟩ := dueD_is hm
    omega
theorem due_nodup {B : Bok} (h : BInv B) : (dueR B).Nodup := dues_nodup h.fit
/-- Behind a Crash: an end to each shop of each deal. -/
def sumShops : List Dl → Nat
  | [] => 0
  | D :: r => (shopsL D.w).length + sumShops r
theorem crash_closed {B : Bok} {n : Int} {D : Dl} (h : dealAt (crashR B) n = some D) : D.st ≠ 0 := by
  rw [dealAt_crash] at h
  cases hD : dealAt B n with
  | none => rw [hD] at h; cases h
  | some E =>
    rw [hD] at h
    obtain rfl := Option.some.inj h
    show (if E.st = 0 then (2 : Int) else E.st) ≠ 0
    split <;> omega
theorem dues_crash : ∀ (L : List Dl) (k : Nat), (duesR k (L.map crashD)).length = sumShops L := by
  intro L
  induction L with
  | nil => intro k; rfl
  | cons D r ih =>
    intro k
    simp only [List.map_cons, duesR, List.length_append, sumShops, ih]
    congr 1
    unfold dueD
    rw [if_neg (by show (if D.st = 0 then (2 : Int) else D.st) ≠ 0; split <;> omega)]
    unfold endsR
    rw [List.length_map]
    show ((shopsL D.w).filter (fun s => decide (s ∉ ([] : List Int)))).length = _
    congr 1
    exact List.filter_eq_self.2 (fun a _ => by simp)
theorem due_crash (B : Bok) : (dueR (crashR B)).length = sumShops B.L := dues_crash B.L 0
theorem due_room {B : Bok} (h : BInv B) : (dueR B).length ≤ 32 := by
  have h1 := dues_len (L := B.L) (k := 0) h.fit
  have h2 := h.len
  show (duesR 0 B.L).length ≤ 32
  omega

/-- The place of a want that stands once. -/
theorem wantAt_at {l : List (Int × Int)} {k : Nat} {c d : Int} (hp : l.Pairwise (fun x y => x.1 ≠ y.1)) (h : l[k]? = some (c, d)) : wantAt l c d = some k := by
  unfold wantAt
  obtain ⟨hk, hx⟩ := List.getElem?_eq_some_iff.1 h
  rw [List.findIdx?_eq_some_iff_getElem]
  refine ⟨hk, by rw [hx]; simp, fun j hj => ?_⟩
  have := (List.pairwise_iff_getElem.1 hp) j k (by omega) hk hj
  rw [hx] at this
  simp only [Bool.not_eq_true, Bool.and_eq_false_imp, beq_iff_eq]
  intro e
  exact absurd e this
/-- One deal alone: a say of its k-th want. -/
def sayD (D : Dl) (k : Nat) (yes : Bool) : Dl := if D.st = 0 then (if yes = true then { D with yes := addI D.yes (k : Int), st := if (addI D.yes (k : Int)).length = D.w.length then 1 else 0 } else { D with st := 2 }) else D
theorem hear_one {D : Dl} {ord : List Int} {k : Nat} {c d : Int} (hF : Fit D.w) (hk : D.w[k]? = some (c, d)) (yes : Bool) : hearR ⟨[D], ord⟩ ⟨2, 0, shp c, c, d, yes⟩ = ⟨[sayD D k yes], if D.st = 0 ∧ (sayD D k yes).st = 1 then ord ++ [0] else ord⟩ := by
  have hd : dealAt ⟨[D], ord⟩ (⟨2, 0, shp c, c, d, yes⟩ : Ml).deal = some D := rfl
  have hw : wantAt D.w (⟨2, 0, shp c, c, d, yes⟩ : Ml).c (⟨2, 0, shp c, c, d, yes⟩ : Ml).d = some k := wantAt_at hF.apart hk
  have h2 : (⟨2, 0, shp c, c, d, yes⟩ : Ml).kind = 2 ∧ shp (⟨2, 0, shp c, c, d, yes⟩ : Ml).c = (⟨2, 0, shp c, c, d, yes⟩ : Ml).shop := ⟨rfl, rfl⟩
  have h4 : ¬ ((⟨2, 0, shp c, c, d, yes⟩ : Ml).kind = 4 ∧ (⟨2, 0, shp c, c, d, yes⟩ : Ml).shop ∈ shopsL D.w ∧ (⟨2, 0, shp c, c, d, yes⟩ : Ml).shop ∉ D.ov) := fun q => absurd (show (2 : Int) = 4 from q.1) (by decide)
  generalize hm : (⟨2, 0, shp c, c, d, yes⟩ : Ml) = m at hd hw h2 h4 ⊢
  have hdl : m.deal = 0 := by rw [← hm]
  have hy : m.yes = yes := by rw [← hm]
  unfold hearR sayD
  rw [hd]
  simp only
  rw [hw, hy, hdl]
  by_cases h0 : D.st = 0
  · rw [if_pos h0, if_pos h2, if_pos h0]
    simp only
    cases yes with
    | false =>
      rw [if_neg (by simp), if_neg (by simp), if_neg (by simp)]
      rfl
    | true =>
      rw [if_pos rfl, if_pos rfl]
      by_cases hl : (addI D.yes (k : Int)).length = D.w.length
      · rw [if_pos hl, if_pos hl, if_pos ⟨h0, rfl⟩]
        rfl
      · rw [if_neg hl, if_neg hl, if_neg (by simp)]
        unfold putD
        simp [h0]
  · rw [if_neg h0, if_neg h4, if_neg h0, if_neg (fun q => h0 q.1)]

/-- A step that a broker is asked: begin of wants, quit of a number, hear of a mail, crash, hear of an answer to what is due with the number n. -/
structure BSp where
  what : Int
  n : Int
  w : List (Int × Int)
  m : Ml
  yes : Bool
/-- An answer to what is due. -/
def ansM (m : Ml) (yes : Bool) : Ml := if m.kind = 1 then ⟨2, m.deal, m.shop, m.c, m.d, yes⟩ else ⟨4, m.deal, m.shop, m.c, m.d, m.yes⟩
def bstepR (B : Bok) (x : BSp) : Bok :=
  if x.what = 0 then (beginR B x.w).2.2 else if x.what = 1 then (quitR B x.n).2 else if x.what = 2 then hearR B x.m else if x.what = 3 then crashR B else if x.what = 4 then (match (dueR B)[rnd x.n (dueR B).length]? with
    | none => B
    | some m => hearR B (ansM m x.yes)) else B
theorem BInv.step {B : Bok} (h : BInv B) (x : BSp) : BInv (bstepR B x) ∧ Stays B (bstepR B x) := by
  unfold bstepR
  split
  · exact ⟨h.begin _, stays_begin _ _⟩
  · split
    · exact ⟨h.quit _, stays_quit _ _⟩
    · split
      · exact ⟨h.hear _, stays_hear h _⟩
      · split
        · exact ⟨h.crash, stays_crash _⟩
        · split
          · split
            · exact ⟨h, .refl _⟩
            · exact ⟨h.hear _, stays_hear h _⟩
          · exact ⟨h, .refl _⟩
/-- What was decided stays so: the states as they are told. -/
theorem Stays.state {B B' : Bok} (h : Stays B B') {n : Int} (hn : stR B n ≠ -1) (h0 : stR B n ≠ 0) : stR B' n = stR B n := by
  unfold stR at hn h0 ⊢
  cases hD : dealAt B n with
  | none => rw [hD] at hn; exact absurd rfl hn
  | some D =>
    rw [hD] at h0
    obtain ⟨D', e, _, hs⟩ := h.st n D hD
    rw [e]
    exact hs h0
theorem BInv.state {B : Bok} (h : BInv B) {n : Nat} (hn : n < B.L.length) : (stR B n = 0 ∨ stR B n = 1 ∨ stR B n = 2) ∧ (stR B n = 1 ↔ (n : Int) ∈ B.ord) := by
  have hD : dealAt B (n : Int) = some B.L[n] := by rw [dealAt_nat]; exact List.getElem?_eq_getElem hn
  rw [stR_some hD]
  refine ⟨h.st _ (List.getElem_mem hn), ?_⟩
  rw [h.ord]
  constructor
  · intro e; exact ⟨_, hD, e⟩
  · rintro ⟨E, hE, he⟩
    rw [hD] at hE
    obtain rfl := Option.some.inj hE
    exact he
theorem stR_out {B : Bok} {n : Int} (h : n < 0 ∨ (B.L.length : Int) ≤ n) : stR B n = -1 := by
  unfold stR dealAt
  split
  · rename_i D hD
    split at hD
    · cases hD
    · have := (List.getElem?_eq_some_iff.1 hD).1
      omega
  · rfl
theorem BInv.ordLen {B : Bok} (h : BInv B) : B.ord.length ≤ 8 := by
  have h1 := length_le_of_below (k := 8) h.nd (fun x hx => by
    obtain ⟨D, hD, _⟩ := (h.ord x).1 hx
    obtain ⟨k, rfl, hk, _⟩ := dealAt_some hD
    have := h.len
    omega)
  exact h1
theorem BInv.yesLen {B : Bok} (h : BInv B) {D : Dl} (hD : D ∈ B.L) : D.yes.length ≤ 4 ∧ D.ov.length ≤ 3 ∧ D.w.length ≤ 4 := by
  have h1 := length_le_of_below (k := D.w.length) (h.ynd D hD) (h.yin D hD)
  have h2 := (h.fit D hD).few
  have h3 := length_le_of_below (k := 3) (h.ond D hD) (fun x hx => by
    have := shopsL_range (h.oin D hD x hx)
    omega)
  exact ⟨by omega, h3, h2⟩

end Go.Proofs.Ytndggiefgpdiiac
