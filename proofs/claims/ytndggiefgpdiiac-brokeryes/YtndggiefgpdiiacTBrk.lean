/- The plain mathematics of a broker alone: what holds all along of its book, what stays, what is due. No program is named here. -/
import Derived.Test.YtndggiefgpdiiacTBook
namespace Go.Proofs.Ytndggiefgpdiiac
open Go.RowKit

/-- What holds all along of a broker's book. -/
structure BInv (B : Bok) : Prop where
  len : B.L.length ≤ 8
  fit : ∀ D ∈ B.L, Fit D.w
  st : ∀ D ∈ B.L, D.st = 0 ∨ D.st = 1 ∨ D.st = 2
  nd : B.ord.Nodup
  ord : ∀ n, n ∈ B.ord ↔ ∃ D, dealAt B n = some D ∧ D.st = 1
  ynd : ∀ D ∈ B.L, D.yes.Nodup
  yin : ∀ D ∈ B.L, ∀ i ∈ D.yes, 0 ≤ i ∧ i < (D.w.length : Int)
  ond : ∀ D ∈ B.L, D.ov.Nodup
  oin : ∀ D ∈ B.L, ∀ s ∈ D.ov, s ∈ shopsL D.w
theorem binv_new : BInv ⟨[], []⟩ := ⟨by simp, by simp, by simp, by simp, fun n => ⟨fun h => by simp at h, fun ⟨D, h, _⟩ => by have := dealAt_mem h; simp at this⟩, by simp, by simp, by simp, by simp⟩
theorem mem_set {α : Type} {l : List α} {k : Nat} {x y : α} (h : y ∈ l.set k x) : y = x ∨ y ∈ l := by
  rcases List.mem_or_eq_of_mem_set h with h | h
  · exact .inr h
  · exact .inl h
/-- A deal is other than it was: its wants are as they were. -/
theorem BInv.put {B : Bok} (h : BInv B) {n : Int} {D D' : Dl} (hd : dealAt B n = some D) (hw : D'.w = D.w) (hs : D'.st = 0 ∨ D'.st = 1 ∨ D'.st = 2) (h1 : D'.st = 1 ↔ D.st = 1) (hy : D'.yes.Nodup) (hyi : ∀ i ∈ D'.yes, 0 ≤ i ∧ i < (D.w.length : Int)) (ho : D'.ov.Nodup) (hoi : ∀ s ∈ D'.ov, s ∈ shopsL D.w) : BInv (putD B n D') := by
  have hm := dealAt_mem hd
  have each : ∀ {P : Dl → Prop}, P D' → (∀ E ∈ B.L, P E) → ∀ E ∈ (putD B n D').L, P E := fun {P} p0 p1 E hE => by
    rcases mem_set hE with rfl | q
    · exact p0
    · exact p1 E q
  refine ⟨by rw [put_len]; exact h.len, each (P := fun E => Fit E.w) (by rw [hw]; exact h.fit D hm) h.fit, each hs h.st, h.nd, fun j => ?_, each hy h.ynd, each (P := fun E => ∀ i ∈ E.yes, 0 ≤ i ∧ i < (E.w.length : Int)) (by rw [hw]; exact hyi) h.yin, each ho h.ond, each (P := fun E => ∀ s ∈ E.ov, s ∈ shopsL E.w) (by rw [hw]; exact hoi) h.oin⟩
  rw [put_ord, h.ord]
  constructor
  · rintro ⟨E, hE, he⟩
    rw [dealAt_put hd]
    by_cases e : j = n
    · subst e
      rw [hd] at hE
      obtain rfl := Option.some.inj hE
      exact ⟨D', by rw [if_pos rfl], h1.2 he⟩
    · exact ⟨E, by rw [if_neg e]; exact hE, he⟩
  · rintro ⟨E, hE, he⟩
    rw [dealAt_put hd] at hE
    by_cases e : j = n
    · subst e
      rw [if_pos rfl] at hE
      obtain rfl := Option.some.inj hE
      exact ⟨D, hd, h1.1 he⟩
    · rw [if_neg e] at hE
      exact ⟨E, hE, he⟩
theorem dealAt_more {B : Bok} {D : Dl} (j : Int) : dealAt { B with L := B.L ++ [D] } j = if j = (B.L.length : Int) then some D else dealAt B j := by
  unfold dealAt
  by_cases hj : j < 0
  · rw [if_pos hj, if_neg (by omega), if_pos hj]
  · rw [if_neg hj, if_neg hj]
    by_cases e : j = (B.L.length : Int)
    · subst e
      rw [if_pos rfl]
      simp
    · rw [if_neg e]
      by_cases hl : j.toNat < B.L.length
      · simp [List.getElem?_append_left hl]
      · have h1 : (B.L ++ [D])[j.toNat]? = none := List.getElem?_eq_none (by simp; omega)
        have h2 : B.L[j.toNat]? = none := List.getElem?_eq_none (by omega)
        simp only [h1, h2]
theorem BInv.begin {B : Bok} (h : BInv B) (l : List (Int × Int)) : BInv (beginR B l).2.2 := by
  unfold beginR
  split
  · rename_i hc
    split
    · exact h
    · rename_i h8
      have each : ∀ {P : Dl → Prop}, P ⟨l, 0, [], []⟩ → (∀ E ∈ B.L, P E) → ∀ E ∈ B.L ++ [⟨l, 0, [], []⟩], P E := fun {P} p0 p1 E hE => by
        rcases List.mem_append.1 hE with q | q
        · exact p1 E q
        · rw [List.mem_singleton.1 q]; exact p0
      refine ⟨?_, each (P := fun E => Fit E.w) (fit_iff.1 hc) h.fit, each (.inl rfl) h.st, h.nd, fun j => ?_, each List.nodup_nil h.ynd, each (P := fun E => ∀ i ∈ E.yes, 0 ≤ i ∧ i < (E.w.length : Int)) (fun i hi => by simp at hi) h.yin, each List.nodup_nil h.ond, each (P := fun E => ∀ s ∈ E.ov, s ∈ shopsL E.w) (fun i hi => by simp at hi) h.oin⟩
      · show (B.L ++ [_]).length ≤ 8
        simp; omega
      · show j ∈ B.ord ↔ _
        rw [h.ord]
        constructor
        · rintro ⟨E, hE, he⟩
          refine ⟨E, ?_, he⟩
          rw [dealAt_more]
          obtain ⟨k, rfl, hk, _⟩ := dealAt_some hE
          rw [if_neg (by omega)]
          exact hE
        · rintro ⟨E, hE, he⟩
          rw [dealAt_more] at hE
          split at hE
          · obtain rfl := Option.some.inj hE
            exact absurd (show (0 : Int) = 1 from he) (by decide)
          · exact ⟨E, hE, he⟩
  · exact h
theorem BInv.quit {B : Bok} (h : BInv B) (n : Int) : BInv (quitR B n).2 := by
  unfold quitR
  cases hd : dealAt B n with
  | none => exact h
  | some D =>
    simp only
    split
    · rename_i h0
      have hm := dealAt_mem hd
      exact h.put hd rfl (.inr (.inr rfl)) ⟨fun e => absurd (show (2 : Int) = 1 from e) (by decide), fun e => by omega⟩ (h.ynd D hm) (h.yin D hm) (h.ond D hm) (h.oin D hm)
    · exact h
theorem addI_in {D : Dl} {i k : Nat} {c d : Int} (hy : ∀ j ∈ D.yes, 0 ≤ j ∧ j < (D.w.length : Int)) (hi : D.w[i]? = some (c, d)) (hk : D.w.length = k) : ∀ j ∈ addI D.yes (i : Int), 0 ≤ j ∧ j < (k : Int) := by
  intro j hj
  rcases addI_mem.1 hj with q | rfl
  · have := hy j q; omega
  · have := (List.getElem?_eq_some_iff.1 hi).1
    omega
theorem BInv.hear {B : Bok} (h : BInv B) (m : Ml) : BInv (hearR B m) := by
  rcases hearR_cases B m with e | ⟨D, i, hd, h0, _, _, hi, ⟨_, e⟩ | ⟨_, _, e⟩ | ⟨_, _, e⟩⟩ | ⟨D, hd, h0, _, hs, hn, e⟩
  · rw [e]; exact h
  · rw [e]
    have hm := dealAt_mem hd
    exact h.put hd rfl (.inr (.inr rfl)) ⟨fun e => absurd (show (2 : Int) = 1 from e) (by decide), fun e => by omega⟩ (h.ynd D hm) (h.yin D hm) (h.ond D hm) (h.oin D hm)
  · rw [e]
    have hm := dealAt_mem hd
    exact h.put hd rfl (h.st D hm) Iff.rfl (addI_nodup (h.ynd D hm) _) (addI_in (h.yin D hm) hi rfl) (h.ond D hm) (h.oin D hm)
  · rw [e]
    have hm := dealAt_mem hd
    have hno : m.deal ∉ B.ord := fun q => by
      obtain ⟨E, hE, he⟩ := (h.ord _).1 q
      rw [hd] at hE
      obtain rfl := Option.some.inj hE
      omega
    have each : ∀ {P : Dl → Prop}, P { D with yes := addI D.yes i, st := 1 } → (∀ E ∈ B.L, P E) → ∀ E ∈ (putD B m.deal { D with yes := addI D.yes i, st := 1 }).L, P E := fun {P} p0 p1 E hE => by
      rcases mem_set hE with rfl | q
      · exact p0
      · exact p1 E q
    refine ⟨?_, each (P := fun E => Fit E.w) (h.fit D hm) h.fit, each (.inr (.inl rfl)) h.st, ?_, fun j => ?_, each (addI_nodup (h.ynd D hm) _) h.ynd, each (P := fun E => ∀ i ∈ E.yes, 0 ≤ i ∧ i < (E.w.length : Int)) (addI_in (h.yin D hm) hi rfl) h.yin, each (h.ond D hm) h.ond, each (P := fun E => ∀ s ∈ E.ov, s ∈ shopsL E.w) (h.oin D hm) h.oin⟩
    · show (putD B m.deal _).L.length ≤ 8
      rw [put_len]; exact h.len
    · exact List.nodup_append.2 ⟨h.nd, by simp, fun a ha b hb e => by rw [List.mem_singleton.1 hb] at e; exact hno (e ▸ ha)⟩
    · show j ∈ B.ord ++ [m.deal] ↔ _
      rw [List.mem_append, List.mem_singleton, h.ord]
      constructor
      · rintro (⟨E, hE, he⟩ | rfl)
        · refine ⟨E, ?_, he⟩
          show dealAt (putD B m.deal _) j = some E
          rw [dealAt_put hd]
          by_cases e : j = m.deal
          · subst e
            rw [hd] at hE
            obtain rfl := Option.some.inj hE
            omega
          · rw [if_neg e]; exact hE
        · refine ⟨{ D with yes := addI D.yes i, st := 1 }, ?_, rfl⟩
          show dealAt (putD B m.deal _) m.deal = _
          rw [dealAt_put hd, if_pos rfl]
      · rintro ⟨E, hE, he⟩
        by_cases e : j = m.deal
        · exact .inr e
        · left
          refine ⟨E, ?_, he⟩
          have hE' : dealAt (putD B m.deal { D with yes := addI D.yes i, st := 1 }) j = some E := hE
          rw [dealAt_put hd, if_neg e] at hE'
          exact hE'
  · rw [e]
    have hm := dealAt_mem hd
    refine h.put hd rfl (h.st D hm) Iff.rfl (h.ynd D hm) (h.yin D hm) (List.nodup_append.2 ⟨h.ond D hm, by simp, fun a ha b hb e => by rw [List.mem_singleton.1 hb] at e; exact hn (e ▸ ha)⟩) ?_
    intro s hs'
    rcases List.mem_append.1 hs' with q | q
    · exact h.oin D hm s q
    · rw [List.mem_singleton.1 q]; exact hs
theorem dealAt_crash (B : Bok) (n : Int) : dealAt (crashR B) n = (dealAt B n).map crashD := by
  unfold dealAt crashR
  split
  · rfl
  · simp
theorem BInv.crash {B : Bok} (h : BInv B) : BInv (crashR B) := by
  have each : ∀ {P : Dl → Prop}, (∀ E ∈ B.L, P (crashD E)) → ∀ E ∈ (crashR B).L, P E := fun {P} p E hE => by
    obtain ⟨D, hD, rfl⟩ := List.mem_map.1 hE
    exact p D hD
  refine ⟨by show (B.L.map crashD).length ≤ 8; simpa using h.len, each (P := fun E => Fit E.w) (fun E hE => h.fit E hE), each (fun E hE => ?_), h.nd, fun j => ?_, each (fun _ _ => List.nodup_nil), each (P := fun E => ∀ i ∈ E.yes, 0 ≤ i ∧ i < (E.w.length : Int)) (fun E _ i hi => by simp [crashD] at hi), each (fun _ _ => List.nodup_nil), each (P := fun E => ∀ s ∈ E.ov, s ∈ shopsL E.w) (fun E _ i hi => by simp [crashD] at hi)⟩
  · have := h.st E hE
    show (if E.st = 0 then (2 : Int) else E.st) = 0 ∨ (if E.st = 0 then (2 : Int) else E.st) = 1 ∨ (if E.st = 0 then (2 : Int) else E.st) = 2
    split <;> omega
  · show j ∈ B.ord ↔ _
    rw [h.ord]
    constructor
    · rintro ⟨E, hE, he⟩
      refine ⟨crashD E, by rw [dealAt_crash, hE]; rfl, ?_⟩
      show (if E.st = 0 then (2 : Int) else E.st) = 1
      rw [if_neg (by omega)]; exact he
    · rintro ⟨E, hE, he⟩
      rw [dealAt_crash] at hE
      cases hD : dealAt B j with
      | none => rw [hD] at hE; cases hE
      | some D =>
        rw [hD] at hE
        obtain rfl := Option.some.inj hE
        have he' : (if D.st = 0 then (2 : Int) else D.st) = 1 := he
        refine ⟨D, rfl, ?_⟩
        split at he' <;> omega

/-- What a step leaves: deals stay, want what they wanted, what is decided is decided; one deal more is done, at most, that was not. -/
structure Stays (B B' : Bok) : Prop where
  len : B.L.length ≤ B'.L.length
  st : ∀ n D, dealAt B n = some D → ∃ D', dealAt B' n = some D' ∧ D'.w = D.w ∧ (D.st ≠ 0 → D'.st = D.st)
  ord : B'.ord = B.ord ∨ ∃ n, B'.ord = B.ord ++ [n] ∧ n ∉ B.ord
theorem Stays.refl (B : Bok) : Stays B B := ⟨Nat.le_refl _, fun _ D h => ⟨D, h, rfl, fun _ => rfl⟩, .inl rfl⟩
theorem stays_put {B : Bok} {n : Int} {D D' : Dl} (h : dealAt B n = some D) (hw : D'.w = D.w) (hs : D.st ≠ 0 → D'.st = D.st) : Stays B (putD B n D') := by
  refine ⟨by rw [put_len]; exact Nat.le_refl _, fun j E hE => ?_, .inl rfl⟩
  rw [dealAt_put h]
  by_cases e : j = n
  · subst e
    rw [h] at hE
    obtain rfl := Option.some.inj hE
    exact ⟨D', by rw [if_pos rfl], hw, hs⟩
  · exact ⟨E, by rw [if_neg e]; exact hE, rfl, fun _ => rfl⟩
theorem stays_begin (B : Bok) (l : List (Int × Int)) : Stays B (beginR B l).2.2 := by
  unfold beginR
  split
  · split
    · exact .refl B
    · refine ⟨by show B.L.length ≤ (B.L ++ [_]).length; simp, fun j E hE => ⟨E, ?_, rfl, fun _ => rfl⟩, .inl rfl⟩
      show dealAt { B with L := B.L ++ [_] } j = some E
      rw [dealAt_more]
      obtain ⟨k, rfl, hk, _⟩ := dealAt_some hE
      rw [if_neg (by omega)]
      exact hE
  · exact .refl B
theorem stays_quit (B : Bok) (n : Int) : Stays B (quitR B n).2 := by
  unfold quitR
  cases hd : dealAt B n with
  | none => exact .refl B
  | some D =>
    simp only
    split
    · rename_i h0
      exact stays_put hd rfl (fun q => absurd h0 q)
    · exact .refl B
theorem stays_hear {B : Bok} (h : BInv B) (m : Ml) : Stays B (hearR B m) := by
  rcases hearR_cases B m with e | ⟨D, i, hd, h0, _, _, hi, ⟨_, e⟩ | ⟨_, _, e⟩ | ⟨_, _, e⟩⟩ | ⟨D, hd, h0, _, hs, hn, e⟩
  · rw [e]; exact .refl B
  · rw [e]; exact stays_put hd rfl (fun q => absurd h0 q)
  · rw [e]; exact stays_put hd rfl (fun _ => rfl)
  · rw [e]
    have hno : m.deal ∉ B.ord := fun q => by
      obtain ⟨E, hE, he⟩ := (h.ord _).1 q
      rw [hd] at hE
      obtain rfl := Option.some.inj hE
      omega
    have := stays_put (D' := { D with yes := addI D.yes i, st := 1 }) hd rfl (fun q => absurd h0 q)
    exact ⟨this.len, this.st, .inr ⟨m.deal, rfl, hno⟩⟩
  · rw [e]; exact stays_put hd rfl (fun _ => rfl)
theorem stays_crash (B : Bok) : Stays B (crashR B) := by
  refine ⟨by show B.L.length ≤ (B.L.map crashD).length; simp, fun j E hE => ⟨crashD E, by rw [dealAt_crash, hE]; rfl, rfl, fun q => ?_⟩, .inl rfl⟩
  show (if E.st = 0 then (2 : Int) else E.st) = E.st
  rw [if_neg q]

end Go.Proofs.Ytndggiefgpdiiac
