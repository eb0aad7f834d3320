/- A broker of one's own, made since a world: its steps; brokerBegun. -/
import Derived.Deep.RegionLaw
import Derived.BigQuiet
import Derived.Deep.LoopGhost
import Derived.Deep.RegionHeld3
import Derived.WalkKit
import Derived.Test.YtbgnajcmhmpjlabH1

/- The plain mathematics of a broker alone: what holds all along of its book, what stays, what is due. No program is named here. -/
namespace Go.Proofs.Ytbgnajcmhmpjlab
open Go.RowKit

/-- What holds all along of a broker's book. -/
structure BInv (B : Bok) : Prop where
  len : B.L.length ≤ 8
  fit : ∀ D ∈ B.L, Fit D.w
  st : ∀ D ∈ B.L, D.st = 0 ∨ D.st = 1 ∨ D.st = 2
  nd : B.ord.Nodup
  ord : ∀ n, n ∈ B.ord ↔ ∃ D, dealAt B n = some D ∧ D.st = 1
  ynd : ∀ D ∈ B.L, D.yes.Nodup
  yin : ∀ D ∈ B.L, ∀ i ∈ D.yes, 0 ≤ i ∧ i < (D.w.length : Int)
  ond : ∀ D ∈ B.L, D.ov.Nodup
  oin : ∀ D ∈ B.L, ∀ s ∈ D.ov, s ∈ shopsL D.w
theorem binv_new : BInv ⟨[], []⟩ := ⟨by simp, by simp, by simp, by simp, fun n => ⟨fun h => by simp at h, fun ⟨D, h, _⟩ => by have := dealAt_mem h; simp at this⟩, by simp, by simp, by simp, by simp⟩
theorem mem_set {α : Type} {l : List α} {k : Nat} {x y : α} (h : y ∈ l.set k x) : y = x ∨ y ∈ l := by
  rcases List.mem_or_eq_of_mem_set h with h | h
  · exact .inr h
  · exact .inl h
/-- A deal is other than it was: its wants are as they were. -/
theorem BInv.put {B : Bok} (h : BInv B) {n : Int} {D D' : Dl} (hd : dealAt B n = some D) (hw : D'.w = D.w) (hs : D'.st = 0 ∨ D'.st = 1 ∨ D'.st = 2) (h1 : D'.st = 1 ↔ D.st = 1) (hy : D'.yes.Nodup) (hyi : ∀ i ∈ D'.yes, 0 ≤ i ∧ i < (D.w.length : Int)) (ho : D'.ov.Nodup) (hoi : ∀ s ∈ D'.ov, s ∈ shopsL D.w) : BInv (putD B n D') := by
  have hm := dealAt_mem hd
  have each : ∀ {P : Dl → Prop}, P D' → (∀ E ∈ B.L, P E) → ∀ E ∈ (putD B n D').L, P E := fun {P} p0 p1 E hE => by
    rcases mem_set hE with rfl | q
    · exact p0
    · exact p1 E q
  refine ⟨by rw [put_len]; exact h.len, each (P := fun E => Fit E.w) (by rw [hw]; exact h.fit D hm) h.fit, each hs h.st, h.nd, fun j => ?_, each hy h.ynd, each (P := fun E => ∀ i ∈ E.yes, 0 ≤ i ∧ i < (E.w.length : Int)) (by rw [hw]; exact hyi) h.yin, each ho h.ond, each (P := fun E => ∀ s ∈ E.ov, s ∈ shopsL E.w) (by rw [hw]; exact hoi) h.oin⟩
  rw [put_ord, h.ord]
  constructor
  · rintro ⟨E, hE, he⟩
    rw [dealAt_put hd]
    by_cases e : j = n
    · subst e
      rw [hd] at hE
      obtain rfl := Option.some.inj hE
      exact ⟨D', by rw [if_pos rfl], h1.2 he⟩
    · exact ⟨E, by rw [if_neg e]; exact hE, he⟩
  · rintro ⟨E, hE, he⟩
    rw [dealAt_put hd] at hE
    by_cases e : j = n
    · subst e
      rw [if_pos rfl] at hE
      obtain rfl := Option.some.inj hE
      exact ⟨D, hd, h1.1 he⟩
    · rw [if_neg e] at hE
      exact ⟨E, hE, he⟩
theorem dealAt_more {B : Bok} {D : Dl} (j : Int) : dealAt { B with L := B.L ++ [D] } j = if j = (B.L.length : Int) then some D else dealAt B j := by
  unfold dealAt
  by_cases hj : j < 0
  · rw [if_pos hj, if_neg (by omega), if_pos hj]
  · rw [if_neg hj, if_neg hj]
    by_cases e : j = (B.L.length : Int)
    · subst e
      rw [if_pos rfl]
      simp
    · rw [if_neg e]
      by_cases hl : j.toNat < B.L.length
      · simp [List.getElem?_append_left hl]
      · have h1 : (B.L ++ [D])[j.toNat]? = none := List.getElem?_eq_none (by simp; omega)
        have h2 : B.L[j.toNat]? = none := List.getElem?_eq_none (by omega)
        simp only [h1, h2]
theorem BInv.begin {B : Bok} (h : BInv B) (l : List (Int × Int)) : BInv (beginR B l).2.2 := by
  unfold beginR
  split
  · rename_i hc
    split
    · exact h
    · rename_i h8
      have each : ∀ {P : Dl → Prop}, P ⟨l, 0, [], []⟩ → (∀ E ∈ B.L, P E) → ∀ E ∈ B.L ++ [⟨l, 0, [], []⟩], P E := fun {P} p0 p1 E hE => by
        rcases List.mem_append.1 hE with q | q
        · exact p1 E q
        · rw [List.mem_singleton.1 q]; exact p0
      refine ⟨?_, each (P := fun E => Fit E.w) (fit_iff.1 hc) h.fit, each (.inl rfl) h.st, h.nd, fun j => ?_, each List.nodup_nil h.ynd, each (P := fun E => ∀ i ∈ E.yes, 0 ≤ i ∧ i < (E.w.length : Int)) (fun i hi => by simp at hi) h.yin, each List.nodup_nil h.ond, each (P := fun E => ∀ s ∈ E.ov, s ∈ shopsL E.w) (fun i hi => by simp at hi) h.oin⟩
      · show (B.L ++ [_]).length ≤ 8
        simp; omega
      · show j ∈ B.ord ↔ _
        rw [h.ord]
        constructor
        · rintro ⟨E, hE, he⟩
          refine ⟨E, ?_, he⟩
          rw [dealAt_more]
          obtain ⟨k, rfl, hk, _⟩ := dealAt_some hE
          rw [if_neg (by omega)]
          exact hE
        · rintro ⟨E, hE, he⟩
          rw [dealAt_more] at hE
          split at hE
          · obtain rfl := Option.some.inj hE
            exact absurd (show (0 : Int) = 1 from he) (by decide)
          · exact ⟨E, hE, he⟩
  · exact h
theorem BInv.quit {B : Bok} (h : BInv B) (n : Int) : BInv (quitR B n).2 := by
  unfold quitR
  cases hd : dealAt B n with
  | none => exact h
  | some D =>
    simp only
    split
    · rename_i h0
      have hm := dealAt_mem hd
      exact h.put hd rfl (.inr (.inr rfl)) ⟨fun e => absurd (show (2 : Int) = 1 from e) (by decide), fun e => by omega⟩ (h.ynd D hm) (h.yin D hm) (h.ond D hm) (h.oin D hm)
    · exact h
theorem addI_in {D : Dl} {i k : Nat} {c d : Int} (hy : ∀ j ∈ D.yes, 0 ≤ j ∧ j < (D.w.length : Int)) (hi : D.w[i]? = some (c, d)) (hk : D.w.length = k) : ∀ j ∈ addI D.yes (i : Int), 0 ≤ j ∧ j < (k : Int) := by
  intro j hj
  rcases addI_mem.1 hj with q | rfl
  · have := hy j q; omega
  · have := (List.getElem?_eq_some_iff.1 hi).1
    omega
theorem BInv.hear {B : Bok} (h : BInv B) (m : Ml) : BInv (hearR B m) := by
  rcases hearR_cases B m with e | ⟨D, i, hd, h0, _, _, hi, ⟨_, e⟩ | ⟨_, _, e⟩ | ⟨_, _, e⟩⟩ | ⟨D, hd, h0, _, hs, hn, e⟩
  · rw [e]; exact h
  · rw [e]
    have hm := dealAt_mem hd
    exact h.put hd rfl (.inr (.inr rfl)) ⟨fun e => absurd (show (2 : Int) = 1 from e) (by decide), fun e => by omega⟩ (h.ynd D hm) (h.yin D hm) (h.ond D hm) (h.oin D hm)
  · rw [e]
    have hm := dealAt_mem hd
    exact h.put hd rfl (h.st D hm) Iff.rfl (addI_nodup (h.ynd D hm) _) (addI_in (h.yin D hm) hi rfl) (h.ond D hm) (h.oin D hm)
  · rw [e]
    have hm := dealAt_mem hd
    have hno : m.deal ∉ B.ord := fun q => by
      obtain ⟨E, hE, he⟩ := (h.ord _).1 q
      rw [hd] at hE
      obtain rfl := Option.some.inj hE
      omega
    have each : ∀ {P : Dl → Prop}, P { D with yes := addI D.yes i, st := 1 } → (∀ E ∈ B.L, P E) → ∀ E ∈ (putD B m.deal { D with yes := addI D.yes i, st := 1 }).L, P E := fun {P} p0 p1 E hE => by
      rcases mem_set hE with rfl | q
      · exact p0
      · exact p1 E q
    refine ⟨?_, each (P := fun E => Fit E.w) (h.fit D hm) h.fit, each (.inr (.inl rfl)) h.st, ?_, fun j => ?_, each (addI_nodup (h.ynd D hm) _) h.ynd, each (P := fun E => ∀ i ∈ E.yes, 0 ≤ i ∧ i < (E.w.length : Int)) (addI_in (h.yin D hm) hi rfl) h.yin, each (h.ond D hm) h.ond, each (P := fun E => ∀ s ∈ E.ov, s ∈ shopsL E.w) (h.oin D hm) h.oin⟩
    · show (putD B m.deal _).L.length ≤ 8
      rw [put_len]; exact h.len
    · exact List.nodup_append.2 ⟨h.nd, by simp, fun a ha b hb e => by rw [List.mem_singleton.1 hb] at e; exact hno (e ▸ ha)⟩
    · show j ∈ B.ord ++ [m.deal] ↔ _
      rw [List.mem_append, List.mem_singleton, h.ord]
      constructor
      · rintro (⟨E, hE, he⟩ | rfl)
        · refine ⟨E, ?_, he⟩
          show dealAt (putD B m.deal _) j = some E
          rw [dealAt_put hd]
          by_cases e : j = m.deal
          · subst e
            rw [hd] at hE
            obtain rfl := Option.some.inj hE
            omega
          · rw [if_neg e]; exact hE
        · refine ⟨{ D with yes := addI D.yes i, st := 1 }, ?_, rfl⟩
          show dealAt (putD B m.deal _) m.deal = _
          rw [dealAt_put hd, if_pos rfl]
      · rintro ⟨E, hE, he⟩
        by_cases e : j = m.deal
        · exact .inr e
        · left
          refine ⟨E, ?_, he⟩
          have hE' : dealAt (putD B m.deal { D with yes := addI D.yes i, st := 1 }) j = some E := hE
          rw [dealAt_put hd, if_neg e] at hE'
          exact hE'
  · rw [e]
    have hm := dealAt_mem hd
    refine h.put hd rfl (h.st D hm) Iff.rfl (h.ynd D hm) (h.yin D hm) (List.nodup_append.2 ⟨h.ond D hm, by simp, fun a ha b hb e => by rw [List.mem_singleton.1 hb] at e; exact hn (e ▸ ha)⟩) ?_
    intro s hs'
    rcases List.mem_append.1 hs' with q | q
    · exact h.oin D hm s q
    · rw [List.mem_singleton.1 q]; exact hs
theorem dealAt_crash (B : Bok) (n : Int) : dealAt (crashR B) n = (dealAt B n).map crashD := by
  unfold dealAt crashR
  split
  · rfl
  · simp
theorem BInv.crash {B : Bok} (h : BInv B) : BInv (crashR B) := by
  have each : ∀ {P : Dl → Prop}, (∀ E ∈ B.L, P (crashD E)) → ∀ E ∈ (crashR B).L, P E := fun {P} p E hE => by
    obtain ⟨D, hD, rfl⟩ := List.mem_map.1 hE
    exact p D hD
  refine ⟨by show (B.L.map crashD).length ≤ 8; simpa using h.len, each (P := fun E => Fit E.w) (fun E hE => h.fit E hE), each (fun E hE => ?_), h.nd, fun j => ?_, each (fun _ _ => List.nodup_nil), each (P := fun E => ∀ i ∈ E.yes, 0 ≤ i ∧ i < (E.w.length : Int)) (fun E _ i hi => by simp [crashD] at hi), each (fun _ _ => List.nodup_nil), each (P := fun E => ∀ s ∈ E.ov, s ∈ shopsL E.w) (fun E _ i hi => by simp [crashD] at hi)⟩
  · have := h.st E hE
    show (if E.st = 0 then (2 : Int) else E.st) = 0 ∨ (if E.st = 0 then (2 : Int) else E.st) = 1 ∨ (if E.st = 0 then (2 : Int) else E.st) = 2
    split <;> omega
  · show j ∈ B.ord ↔ _
    rw [h.ord]
    constructor
    · rintro ⟨E, hE, he⟩
      refine ⟨crashD E, by rw [dealAt_crash, hE]; rfl, ?_⟩
      show (if E.st = 0 then (2 : Int) else E.st) = 1
      rw [if_neg (by omega)]; exact he
    · rintro ⟨E, hE, he⟩
      rw [dealAt_crash] at hE
      cases hD : dealAt B j with
      | none => rw [hD] at hE; cases hE
      | some D =>
        rw [hD] at hE
        obtain rfl := Option.some.inj hE
        have he' : (if D.st = 0 then (2 : Int) else D.st) = 1 := he
        refine ⟨D, rfl, ?_⟩
        split at he' <;> omega

/-- What a step leaves: deals stay, want what they wanted, what is decided is decided; one deal more is done, at most, that was not. -/
structure Stays (B B' : Bok) : Prop where
  len : B.L.length ≤ B'.L.length
  st : ∀ n D, dealAt B n = some D → ∃ D', dealAt B' n = some D' ∧ D'.w = D.w ∧ (D.st ≠ 0 → D'.st = D.st)
  ord : B'.ord = B.ord ∨ ∃ n, B'.ord = B.ord ++ [n] ∧ n ∉ B.ord
theorem Stays.refl (B : Bok) : Stays B B := ⟨Nat.le_refl _, fun _ D h => ⟨D, h, rfl, fun _ => rfl⟩, .inl rfl⟩
theorem stays_put {B : Bok} {n : Int} {D D' : Dl} (h : dealAt B n = some D) (hw : D'.w = D.w) (hs : D.st ≠ 0 → D'.st = D.st) : Stays B (putD B n D') := by
  refine ⟨by rw [put_len]; exact Nat.le_refl _, fun j E hE => ?_, .inl rfl⟩
  rw [dealAt_put h]
  by_cases e : j = n
  · subst e
    rw [h] at hE
    obtain rfl := Option.some.inj hE
    exact ⟨D', by rw [if_pos rfl], hw, hs⟩
  · exact ⟨E, by rw [if_neg e]; exact hE, rfl, fun _ => rfl⟩
theorem stays_begin (B : Bok) (l : List (Int × Int)) : Stays B (beginR B l).2.2 := by
  unfold beginR
  split
  · split
    · exact .refl B
    · refine ⟨by show B.L.length ≤ (B.L ++ [_]).length; simp, fun j E hE => ⟨E, ?_, rfl, fun _ => rfl⟩, .inl rfl⟩
      show dealAt { B with L := B.L ++ [_] } j = some E
      rw [dealAt_more]
      obtain ⟨k, rfl, hk, _⟩ := dealAt_some hE
      rw [if_neg (by omega)]
      exact hE
  · exact .refl B
theorem stays_quit (B : Bok) (n : Int) : Stays B (quitR B n).2 := by
  unfold quitR
  cases hd : dealAt B n with
  | none => exact .refl B
  | some D =>
    simp only
    split
    · rename_i h0
      exact stays_put hd rfl (fun q => absurd h0 q)
    · exact .refl B
theorem stays_hear {B : Bok} (h : BInv B) (m : Ml) : Stays B (hearR B m) := by
  rcases hearR_cases B m with e | ⟨D, i, hd, h0, _, _, hi, ⟨_, e⟩ | ⟨_, _, e⟩ | ⟨_, _, e⟩⟩ | ⟨D, hd, h0, _, hs, hn, e⟩
  · rw [e]; exact .refl B
  · rw [e]; exact stays_put hd rfl (fun q => absurd h0 q)
  · rw [e]; exact stays_put hd rfl (fun _ => rfl)
  · rw [e]
    have hno : m.deal ∉ B.ord := fun q => by
      obtain ⟨E, hE, he⟩ := (h.ord _).1 q
      rw [hd] at hE
      obtain rfl := Option.some.inj hE
      omega
    have := stays_put (D' := { D with yes := addI D.yes i, st := 1 }) hd rfl (fun q => absurd h0 q)
    exact ⟨this.len, this.st, .inr ⟨m.deal, rfl, hno⟩⟩
  · rw [e]; exact stays_put hd rfl (fun _ => rfl)
theorem stays_crash (B : Bok) : Stays B (crashR B) := by
  refine ⟨by show B.L.length ≤ (B.L.map crashD).length; simp, fun j E hE => ⟨crashD E, by rw [dealAt_crash, hE]; rfl, rfl, fun q => ?_⟩, .inl rfl⟩
  show (if E.st = 0 then (2 : Int) else E.st) = E.st
  rw [if_neg q]

end Go.Proofs.Ytbgnajcmhmpjlab

/- How package broker's Broker lies in memory: a row of deals, nine cells each, and a row of wants for each of them. -/
namespace Go.Proofs.Ytbgnajcmhmpjlab
open Go.RowKit

theorem fm_at {α β : Type} {f : α → List β} {s : Nat} (hf : ∀ x, (f x).length = s) : ∀ {l : List α} {k : Nat} {x : α}, l[k]? = some x → ∀ {j : Nat}, j < s → (l.flatMap f)[k * s + j]? = (f x)[j]?
  | y :: r, 0, x, h, j, hj => by
    obtain rfl : y = x := by simpa using h
    rw [List.flatMap_cons, Nat.zero_mul, Nat.zero_add, List.getElem?_append_left (by rw [hf]; exact hj)]
  | y :: r, k + 1, x, h, j, hj => by
    have := fm_at hf (l := r) (k := k) (x := x) (by simpa using h) hj
    rw [List.flatMap_cons, List.getElem?_append_right (by rw [hf, Nat.succ_mul]; omega), hf, show (k + 1) * s + j - s = k * s + j by rw [Nat.succ_mul]; omega]
    exact this
theorem fm_len {α β : Type} {f : α → List β} {s : Nat} (hf : ∀ x, (f x).length = s) : ∀ (l : List α), (l.flatMap f).length = l.length * s
  | [] => by simp
  | y :: r => by rw [List.flatMap_cons, List.length_append, fm_len hf r, hf, List.length_cons, Nat.succ_mul]; omega
theorem fm_set {α β : Type} {f : α → List β} {s : Nat} (hf : ∀ x, (f x).length = s) : ∀ {l : List α} {k : Nat} {x y : α} {j : Nat} {u : β}, l[k]? = some x → j < s → f y = (f x).set j u → (l.set k y).flatMap f = (l.flatMap f).set (k * s + j) u
  | z :: r, 0, x, y, j, u, h, hj, e => by
    obtain rfl : z = x := by simpa using h
    rw [List.set_cons_zero, List.flatMap_cons, List.flatMap_cons, e, Nat.zero_mul, Nat.zero_add, List.set_append_left _ _ (by rw [hf]; exact hj)]
  | z :: r, k + 1, x, y, j, u, h, hj, e => by
    have := fm_set hf (l := r) (k := k) (x := x) (y := y) (j := j) (u := u) (by simpa using h) hj e
    rw [List.set_cons_succ, List.flatMap_cons, List.flatMap_cons, this, List.set_append_right _ _ (by rw [hf, Nat.succ_mul]; omega), hf, show (k + 1) * s + j - s = k * s + j by rw [Nat.succ_mul]; omega]

/-- A deal, cell by cell; v: the head of its wants' row. -/
def dcells (x : Dl × Value) : List Value := [x.2, .int .i64 x.1.st, .bool (decide ((0 : Int) ∈ x.1.yes)), .bool (decide ((1 : Int) ∈ x.1.yes)), .bool (decide ((2 : Int) ∈ x.1.yes)), .bool (decide ((3 : Int) ∈ x.1.yes)), .bool (decide ((0 : Int) ∈ x.1.ov)), .bool (decide ((1 : Int) ∈ x.1.ov)), .bool (decide ((2 : Int) ∈ x.1.ov))]
theorem dcells_len (x : Dl × Value) : (dcells x).length = 9 := rfl
def flatB (P : List (Dl × Value)) : List Value := P.flatMap dcells
theorem flatB_length (P : List (Dl × Value)) : (flatB P).length = P.length * 9 := fm_len dcells_len P
theorem flatB_snoc (P : List (Dl × Value)) (x : Dl × Value) : flatB (P ++ [x]) = flatB P ++ dcells x := by unfold flatB; simp
theorem flatB_at {P : List (Dl × Value)} {k : Nat} {x : Dl × Value} (h : P[k]? = some x) {j : Nat} (hj : j < 9) : (flatB P)[k * 9 + j]? = (dcells x)[j]? := fm_at dcells_len h hj
theorem flatB_set {P : List (Dl × Value)} {k : Nat} {x y : Dl × Value} {j : Nat} {u : Value} (h : P[k]? = some x) (hj : j < 9) (e : dcells y = (dcells x).set j u) : flatB (P.set k y) = (flatB P).set (k * 9 + j) u := fm_set dcells_len h hj e

/-- A broker at the block q: the heads of its rows. -/
structure BrkRaw (w : World) (q : Nat) (B : Bok) (rv dv : Value) (P : List (Dl × Value)) : Prop where
  fst : B.L = P.map Prod.fst
  c0 : w.cell? ⟨q, 0, none⟩ = some rv
  c1 : w.cell? ⟨q, 1, none⟩ = some dv
  row : w.ownsRow (q + 1) 140 9 rv P.length (flatB P)
  ord : w.ownsRow (q + 1) 3 1 dv B.ord.length (B.ord.map (Value.int .i64))
  deal : ∀ x ∈ P, w.ownsRow (q + 1) 69 2 x.2 x.1.w.length (flat x.1.w)
  apart : ApartV (rv :: dv :: P.map Prod.snd)
/-- A broker, in blocks of O. -/
structure BrkIn (O : Nat → Prop) (w : World) (q : Nat) (B : Bok) : Prop where
  own : ∀ k, O k → k < w.heap.size
  mine : O q
  loose : ∀ k, w.frozen? ⟨q, k, none⟩ = false
  raw : ∃ (rv dv : Value) (P : List (Dl × Value)), BrkRaw w q B rv dv P ∧ ∀ u ∈ rv :: dv :: P.map Prod.snd, ∀ k, u.ownBlock = some k → O k
theorem BrkIn.lt {O : Nat → Prop} {w : World} {q : Nat} {B : Bok} (h : BrkIn O w q B) : q < w.heap.size := h.own q h.mine
theorem BrkRaw.len {w : World} {q : Nat} {B : Bok} {rv dv : Value} {P : List (Dl × Value)} (h : BrkRaw w q B rv dv P) : B.L.length = P.length := by rw [h.fst, List.length_map]
theorem BrkRaw.at {w : World} {q : Nat} {B : Bok} {rv dv : Value} {P : List (Dl × Value)} (h : BrkRaw w q B rv dv P) {k : Nat} {D : Dl} (hk : B.L[k]? = some D) : ∃ v, P[k]? = some (D, v) := by
  rw [h.fst, List.getElem?_map] at hk
  cases hp : P[k]? with
  | none => rw [hp] at hk; cases hk
  | some x =>
    rw [hp] at hk
    obtain rfl := Option.some.inj hk
    exact ⟨x.2, rfl⟩
theorem BrkRaw.save {O' : Nat → Prop} {w w1 : World} {q : Nat} {B : Bok} {rv dv : Value} {P : List (Dl × Value)} (h : BrkRaw w q B rv dv P) (hl : q < w.heap.size) (hb : Save O' w w1) (hq : ¬ O' q) (out : ∀ u ∈ rv :: dv :: P.map Prod.snd, ∀ k, u.ownBlock = some k → ¬ O' k) : BrkRaw w1 q B rv dv P :=
  ⟨h.fst, (hb.cell (p := ⟨q, 0, none⟩) hl hq).trans h.c0, (hb.cell (p := ⟨q, 1, none⟩) hl hq).trans h.c1, own_save h.row hb (out rv (by simp)), own_save h.ord hb (out dv (by simp)), fun x hx => own_save (h.deal x hx) hb (out _ (List.mem_cons_of_mem _ (List.mem_cons_of_mem _ (List.mem_map_of_mem hx)))), h.apart⟩
theorem BrkIn.save {O O' : Nat → Prop} {w w1 : World} {q : Nat} {B : Bok} (h : BrkIn O w q B) (hb : Save O' w w1) (hn : ∀ k, O k → ¬ O' k) : BrkIn O w1 q B := by
  obtain ⟨rv, dv, P, h1, h7⟩ := h.raw
  have hl := h.lt
  have hq := hn q h.mine
  exact ⟨fun k hk => Nat.lt_of_lt_of_le (h.own k hk) hb.size, h.mine, fun k => (hb.frozen (p := ⟨q, k, none⟩) hl hq).trans (h.loose k), rv, dv, P, h1.save hl hb hq (fun u hu k hk => hn k (h7 u hu k hk)), h7⟩
theorem BrkIn.next {O : Nat → Prop} {w w1 : World} {q : Nat} {B : Bok} (h : BrkIn O w q B) (hb : Below w.heap.size w w1) : BrkIn O w1 q B :=
  h.save (O' := fun _ => False) (.of_below hb) (fun _ _ q => q)
/-- What a step leaves: the book is B', all but O is as it was. -/
def BrkTo (O : Nat → Prop) (w w' : World) (q : Nat) (B' : Bok) : Prop := ∃ O', BrkIn O' w' q B' ∧ Save O w w' ∧ Moved O O' w
theorem BrkTo.stay {O : Nat → Prop} {w w' : World} {q : Nat} {B : Bok} (h : BrkIn O w q B) (hb : Below w.heap.size w w') : BrkTo O w w' q B := ⟨O, h.next hb, .of_below hb, .refl _ _⟩
theorem BrkTo.behind {O : Nat → Prop} {w w1 w' : World} {q : Nat} {B' : Bok} (hb : Below w.heap.size w w1) (hs : BrkTo O w1 w' q B') : BrkTo O w w' q B' := by
  obtain ⟨O', h1, h2, h3⟩ := hs
  exact ⟨O', h1, (Save.of_below hb).trans h2 (fun _ _ hj => hj), fun k hk => (h3 k hk).imp id (fun q => Nat.le_trans hb.size q)⟩
theorem BrkTo.next {O : Nat → Prop} {w w1 w' : World} {q : Nat} {B' : Bok} (hs : BrkTo O w w1 q B') (hb : Below w1.heap.size w1 w') : BrkTo O w w' q B' := by
  obtain ⟨O', h1, h2, h3⟩ := hs
  exact ⟨O', h1.next hb, h2.next hb, h3⟩
/-- The rows are as a step has them: the broker behind it. -/
theorem brk_to {O : Nat → Prop} {w w9 : World} {q : Nat} {B' : Bok} {rv dv : Value} {P : List (Dl × Value)} (hO : ∀ k, O k → k < w.heap.size) (hm : O q) (hS : Save O w w9) (hR : BrkRaw w9 q B' rv dv P) (hf : ∀ k, w9.frozen? ⟨q, k, none⟩ = false) (hrow : ∀ u ∈ rv :: dv :: P.map Prod.snd, ∀ k, u.ownBlock = some k → (O k ∨ w.heap.size ≤ k) ∧ k < w9.heap.size) : BrkTo O w w9 q B' := by
  refine ⟨fun k => O k ∨ ∃ u ∈ rv :: dv :: P.map Prod.snd, u.ownBlock = some k, ⟨fun k hk => ?_, .inl hm, hf, rv, dv, P, hR, fun u hu k hk => .inr ⟨u, hu, hk⟩⟩, hS, fun k hk => ?_⟩
  · rcases hk with hk | ⟨u, hu, hk⟩
    · exact Nat.lt_of_lt_of_le (hO k hk) hS.size
    · exact (hrow u hu k hk).2
  · rcases hk with hk | ⟨u, hu, hk⟩
    · exact .inl hk
    · exact (hrow u hu k hk).1
theorem map_set_snd {P : List (Dl × Value)} {k : Nat} {D D' : Dl} {v : Value} (hk : P[k]? = some (D, v)) : (P.set k (D', v)).map Prod.snd = P.map Prod.snd := by
  rw [List.map_set]
  apply List.ext_getElem?
  intro j
  by_cases e : k = j
  · subst e
    have hkl := (List.getElem?_eq_some_iff.1 hk).1
    rw [List.getElem?_set_self (by simpa using hkl), List.getElem?_map, hk]
    rfl
  · rw [List.getElem?_set_ne e]
theorem BrkRaw.gcap {w : World} {q g n cap : Nat} {B : Bok} {dv : Value} {P : List (Dl × Value)} (h : BrkRaw w q B (.slice (some ⟨g, 0, none⟩) n cap) dv P) : P.length = n := by
  rcases h.row.2 with ⟨e1, e0⟩ | ⟨g', cap', cur, e1, _⟩
  · cases e1
  · simp only [Value.slice.injEq] at e1; omega
/-- One cell of a deal is stored. -/
theorem BrkRaw.set {w : World} {q g n cap k j : Nat} {B : Bok} {dv u v : Value} {P : List (Dl × Value)} {D D' : Dl} (h : BrkRaw w q B (.slice (some ⟨g, 0, none⟩) n cap) dv P) (hl : q < w.heap.size) (hk : P[k]? = some (D, v)) (hj : j < 9) (hw : D'.w = D.w) (e : dcells (D', v) = (dcells (D, v)).set j u) : BrkRaw (w.setCell ⟨g, k * 9 + j, none⟩ u) q (putD B (k : Int) D') (.slice (some ⟨g, 0, none⟩) n cap) dv (P.set k (D', v)) := by
  have hn := h.gcap
  subst hn
  obtain ⟨hB, _⟩ := own_row h.row
  have hkl := (List.getElem?_eq_some_iff.1 hk).1
  have hS : Save (fun b => b = g) w (w.setCell ⟨g, k * 9 + j, none⟩ u) := Save.setCell (O := fun b => b = g) (Save.refl _ _) (p := ⟨g, k * 9 + j, none⟩) (fun _ => rfl) _
  have hq : ¬ q = g := by omega
  have out : ∀ u ∈ dv :: P.map Prod.snd, ∀ i, u.ownBlock = some i → i ≠ g := fun u hu i hi e => (List.pairwise_cons.1 h.apart).1 u hu g rfl (by rw [hi, e])
  refine ⟨?_, (hS.cell (p := ⟨q, 0, none⟩) hl hq).trans h.c0, (hS.cell (p := ⟨q, 1, none⟩) hl hq).trans h.c1, ?_, own_save h.ord hS (fun i hi => out _ (by simp) i hi), fun x hx => ?_, by rw [map_set_snd hk]; exact h.apart⟩
  · show B.L.set (k : Int).toNat D' = _
    rw [List.map_set, ← h.fst]
    simp
  · rw [flatB_set hk hj e, List.length_set]
    exact own_set h.row (by rw [flatB_length]; omega) _
  · rcases mem_set hx with rfl | hx
    · have hm := List.mem_of_getElem? hk
      show World.ownsRow _ _ _ _ v D'.w.length (flat D'.w)
      rw [hw]
      exact own_save (h.deal _ hm) hS (fun i hi => out _ (List.mem_cons_of_mem _ (List.mem_map_of_mem hm)) i hi)
    · exact own_save (h.deal _ hx) hS (fun i hi => out _ (List.mem_cons_of_mem _ (List.mem_map_of_mem hx)) i hi)
/-- The row of deals is another one: the deals' wants are as they were. -/
theorem BrkRaw.rows {w w' : World} {q g n cap : Nat} {B : Bok} {dv : Value} {P P' : List (Dl × Value)} (h : BrkRaw w q B (.slice (some ⟨g, 0, none⟩) n cap) dv P) (hl : q < w.heap.size) (hS : Save (fun b => b = g) w w') (hr : w'.ownsRow (q + 1) 140 9 (.slice (some ⟨g, 0, none⟩) n cap) P'.length (flatB P')) (hs : P'.map (fun x => (x.1.w, x.2)) = P.map (fun x => (x.1.w, x.2))) : BrkRaw w' q { B with L := P'.map Prod.fst } (.slice (some ⟨g, 0, none⟩) n cap) dv P' := by
  have hn := h.gcap
  subst hn
  obtain ⟨hB, _⟩ := own_row h.row
  have hq : ¬ q = g := by omega
  have out : ∀ u ∈ dv :: P.map Prod.snd, ∀ i, u.ownBlock = some i → i ≠ g := fun u hu i hi e => (List.pairwise_cons.1 h.apart).1 u hu g rfl (by rw [hi, e])
  have e2 : P'.map Prod.snd = P.map Prod.snd := by
    have := congrArg (List.map Prod.snd) hs
    simpa [List.map_map, Function.comp_def] using this
  refine ⟨rfl, (hS.cell (p := ⟨q, 0, none⟩) hl hq).trans h.c0, (hS.cell (p := ⟨q, 1, none⟩) hl hq).trans h.c1, hr, own_save h.ord hS (fun i hi => out _ (by simp) i hi), fun x hx => ?_, by rw [e2]; exact h.apart⟩
  have hm : (x.1.w, x.2) ∈ P.map (fun x => (x.1.w, x.2)) := by rw [← hs]; exact List.mem_map_of_mem (f := fun x : Dl × Value => (x.1.w, x.2)) hx
  obtain ⟨y, hy, e⟩ := List.mem_map.1 hm
  simp only [Prod.mk.injEq] at e
  have := h.deal y hy
  rw [e.1, e.2] at this
  exact own_save this hS (fun i hi => out _ (List.mem_cons_of_mem _ (by rw [← e2]; exact List.mem_map_of_mem hx)) i hi)
/-- The order in which deals were done is another row now. -/
theorem BrkRaw.ordr {w w8 : World} {q : Nat} {B : Bok} {rv dv v8 : Value} {P : List (Dl × Value)} {l : List Int} (h : BrkRaw w q B rv dv P) (hl : q < w.heap.size) (hall : ∀ u ∈ rv :: dv :: P.map Prod.snd, ∀ j, u.ownBlock = some j → j < w.heap.size)
    (h8 : Save (fun b => dv.ownBlock = some b) w w8) (hr8 : w8.ownsRow (q + 1) 3 1 v8 l.length (l.map (Value.int .i64))) (hw8 : ∀ j, v8.ownBlock = some j → dv.ownBlock = some j ∨ w.heap.size ≤ j) :
    BrkRaw (w8.setCell ⟨q, 1, none⟩ v8) q { B with ord := l } rv v8 P := by
  have hqo : ¬ dv.ownBlock = some q := fun e => by
    have := (h.ord.lt q e).1
    omega
  have far : ∀ {i : Nat} {u : Value}, (rv :: dv :: P.map Prod.snd)[i]? = some u → i ≠ 1 → ∀ j, u.ownBlock = some j → ¬ dv.ownBlock = some j := fun {i u} hi hne j h1 h2 => apart_at h.apart hi (show (rv :: dv :: P.map Prod.snd)[1]? = some dv from rfl) hne j h1 h2
  have bq : ∀ {e s : Nat} {u : Value} {m : Nat} {xs : List Value}, w8.ownsRow (q + 1) e s u m xs → (w8.setCell ⟨q, 1, none⟩ v8).ownsRow (q + 1) e s u m xs := fun hr => ownsRow_setCell_below hr (Nat.lt_succ_self q) _
  refine ⟨h.fst, (cell_set_off (by omega)).trans ((h8.cell (p := ⟨q, 0, none⟩) hl hqo).trans h.c0), cell_set_same ((h8.cell (p := ⟨q, 1, none⟩) hl hqo).trans h.c1), bq (own_save h.row h8 (fun j hj => far (i := 0) rfl (by omega) j hj)), bq hr8, fun x hx => ?_, ?_⟩
  · obtain ⟨k, hk, rfl⟩ := List.getElem_of_mem hx
    exact bq (own_save (h.deal _ hx) h8 (fun i hi => far (i := k + 2) (u := P[k].2) (by simp [hk]) (by omega) i hi))
  · exact apart_set h.apart (show (rv :: dv :: P.map Prod.snd)[1]? = some dv from rfl) (u' := v8) (fun j hj => (hw8 j hj).imp id (fun q u hu e => by have := hall u hu j e; omega))
/-- A deal more: a new row of wants, and the row of deals is another one now. -/
theorem BrkRaw.begin {w w7 w8 : World} {q : Nat} {B : Bok} {rv dv v7 v8 : Value} {P : List (Dl × Value)} {l : List (Int × Int)} (h : BrkRaw w q B rv dv P) (hl : q < w.heap.size) (hall : ∀ u ∈ rv :: dv :: P.map Prod.snd, ∀ j, u.ownBlock = some j → j < w.heap.size)
    (h7 : Below w.heap.size w w7) (hr7 : w7.ownsRow (q + 1) 69 2 v7 l.length (flat l)) (hw7 : ∀ j, v7.ownBlock = some j → w.heap.size ≤ j ∧ j < w7.heap.size)
    (h8 : Save (fun b => rv.ownBlock = some b) w7 w8) (hr8 : w8.ownsRow (q + 1) 140 9 v8 (P.length + 1) (flatB P ++ [v7, .int .i64 0, .bool false, .bool false, .bool false, .bool false, .bool false, .bool false, .bool false])) (hw8 : ∀ j, v8.ownBlock = some j → rv.ownBlock = some j ∨ w7.heap.size ≤ j) :
    BrkRaw (w8.setCell ⟨q, 0, none⟩ v8) q { B with L := B.L ++ [⟨l, 0, [], []⟩] } v8 dv (P ++ [(⟨l, 0, [], []⟩, v7)]) := by
  have hq7 : q < w7.heap.size := Nat.lt_of_lt_of_le hl h7.size
  have hqr : ¬ rv.ownBlock = some q := fun e => by
    have := (h.row.lt q e).1
    omega
  have hc : ∀ j, (w8.cell? ⟨q, j, none⟩) = w.cell? ⟨q, j, none⟩ := fun j => (h8.cell (p := ⟨q, j, none⟩) hq7 hqr).trans (h7.cell (p := ⟨q, j, none⟩) hl)
  have far : ∀ {i : Nat} {u : Value}, (rv :: dv :: P.map Prod.snd)[i]? = some u → i ≠ 0 → ∀ j, u.ownBlock = some j → ¬ rv.ownBlock = some j := fun {i u} hi hne j h1 h2 => apart_at h.apart hi (show (rv :: dv :: P.map Prod.snd)[0]? = some rv from rfl) hne j h1 h2
  have bq : ∀ {e s : Nat} {u : Value} {m : Nat} {xs : List Value}, w8.ownsRow (q + 1) e s u m xs → (w8.setCell ⟨q, 0, none⟩ v8).ownsRow (q + 1) e s u m xs := fun hr => ownsRow_setCell_below hr (Nat.lt_succ_self q) _
  have up : ∀ {e s : Nat} {u : Value} {m : Nat} {xs : List Value}, w.ownsRow (q + 1) e s u m xs → (∀ j, u.ownBlock = some j → ¬ rv.ownBlock = some j) → (w8.setCell ⟨q, 0, none⟩ v8).ownsRow (q + 1) e s u m xs := fun hr hf => bq (own_save (own_next hr h7) h8 hf)
  refine ⟨by simp [h.fst], cell_set_same ((hc 0).trans h.c0), (cell_set_off (by omega)).trans ((hc 1).trans h.c1), ?_, up h.ord (fun j hj => far (i := 1) rfl (by omega) j hj), fun x hx => ?_, ?_⟩
  · rw [flatB_snoc, List.length_append]
    exact bq hr8
  · rcases List.mem_append.1 hx with hx | hx
    · obtain ⟨k, hk, rfl⟩ := List.getElem_of_mem hx
      exact up (h.deal _ hx) (fun i hi => far (i := k + 2) (u := P[k].2) (by simp [hk]) (by omega) i hi)
    · obtain rfl := List.mem_singleton.1 hx
      refine bq (own_save hr7 h8 (fun j hj e => ?_))
      have h1 := hw7 j hj
      have h2 := hall rv (by simp) j e
      omega
  · have hfl : (P ++ [((⟨l, 0, [], []⟩ : Dl), v7)]).map Prod.snd = P.map Prod.snd ++ [v7] := by simp
    rw [hfl]
    have h1 : ApartV ((rv :: dv :: P.map Prod.snd) ++ [v7]) := by
      refine apart_more h.apart (List.pairwise_singleton _ _) ?_
      intro u hu k hk x hx e
      obtain rfl := List.mem_singleton.1 hu
      have h1 := hw7 k hk
      have h2 := hall x hx k e
      omega
    have h2 := apart_set (l := (rv :: dv :: P.map Prod.snd) ++ [v7]) (i := 0) (u := rv) (u' := v8) h1 rfl (fun j hj => (hw8 j hj).imp id (fun q x hx e => by
      rcases List.mem_append.1 hx with z | z
      · have := hall x z j e
        have := h7.size
        omega
      · obtain rfl := List.mem_singleton.1 z
        have := hw7 j e
        omega))
    simpa using h2

end Go.Proofs.Ytbgnajcmhmpjlab

/- What is due of a broker's book. No program is named here. -/
namespace Go.Proofs.Ytbgnajcmhmpjlab
open Go.RowKit

theorem shopsL_range {w : List (Int × Int)} {s : Int} (h : s ∈ shopsL w) : 0 ≤ s ∧ s < 3 := by
  obtain ⟨n, rfl, hn, _⟩ := shopsL_mem.1 h
  omega
theorem asks_mem {n : Int} {yes : List Int} {m : Ml} : ∀ {w : List (Int × Int)} {k : Nat}, m ∈ asksR n yes k w → ∃ c d, (c, d) ∈ w ∧ m = ⟨1, n, shp c, c, d, false⟩ := by
  intro w
  induction w with
  | nil => intro k h; simp [asksR] at h
  | cons x r ih =>
    intro k h
    simp only [asksR] at h
    split at h
    · obtain ⟨c, d, h1, h2⟩ := ih h
      exact ⟨c, d, by simp [h1], h2⟩
    · rcases List.mem_cons.1 h with q | q
      · exact ⟨x.1, x.2, by simp, q⟩
      · obtain ⟨c, d, h1, h2⟩ := ih q
        exact ⟨c, d, by simp [h1], h2⟩
theorem dues_mem {m : Ml} : ∀ {L : List Dl} {k : Nat}, m ∈ duesR k L → ∃ i D, L[i]? = some D ∧ m ∈ dueD ((k + i : Nat) : Int) D := by
  intro L
  induction L with
  | nil => intro k h; simp [duesR] at h
  | cons D r ih =>
    intro k h
    simp only [duesR] at h
    rcases List.mem_append.1 h with q | q
    · exact ⟨0, D, rfl, q⟩
    · obtain ⟨i, E, h1, h2⟩ := ih q
      exact ⟨i + 1, E, by simpa using h1, by rw [show k + (i + 1) = k + 1 + i by omega]; exact h2⟩
theorem mem_dues {m : Ml} : ∀ {L : List Dl} {k i : Nat} {D : Dl}, L[i]? = some D → m ∈ dueD ((k + i : Nat) : Int) D → m ∈ duesR k L := by
  intro L
  induction L with
  | nil => intro k i D h; simp at h
  | cons E r ih =>
    intro k i D h hm
    simp only [duesR]
    cases i with
    | zero =>
      have : E = D := by simpa using h
      subst this
      exact List.mem_append_left _ hm
    | succ i => exact List.mem_append_right _ (ih (by simpa using h) (by rw [show k + 1 + i = k + (i + 1) by omega]; exact hm))
theorem due_mem {B : Bok} {m : Ml} (h : m ∈ dueR B) : ∃ n D, dealAt B n = some D ∧ m ∈ dueD n D := by
  obtain ⟨i, D, h1, h2⟩ := dues_mem h
  exact ⟨(i : Int), D, by rw [dealAt_nat]; exact h1, by simpa using h2⟩
theorem mem_due {B : Bok} {m : Ml} {n : Int} {D : Dl} (h : dealAt B n = some D) (hm : m ∈ dueD n D) : m ∈ dueR B := by
  obtain ⟨k, rfl, _, h1⟩ := dealAt_some h
  exact mem_dues h1 (by simpa using hm)
theorem asks_in {n : Int} {yes : List Int} : ∀ {w : List (Int × Int)} {j k : Nat} {c d : Int}, w[k]? = some (c, d) → ((j + k : Nat) : Int) ∉ yes → (⟨1, n, shp c, c, d, false⟩ : Ml) ∈ asksR n yes j w := by
  intro w
  induction w with
  | nil => intro j k c d h; simp at h
  | cons x r ih =>
    intro j k c d h hn
    simp only [asksR]
    cases k with
    | zero =>
      have e : x = (c, d) := by simpa using h
      subst e
      rw [if_neg (by simpa using hn)]
      simp
    | succ k =>
      have := ih (j := j + 1) (k := k) (c := c) (d := d) (by simpa using h) (by rw [show j + 1 + k = j + (k + 1) by omega]; exact hn)
      split
      · exact this
      · exact List.mem_cons_of_mem _ this
theorem asks_len (n : Int) (yes : List Int) : ∀ (w : List (Int × Int)) (k : Nat), (asksR n yes k w).length ≤ w.length := by
  intro w
  induction w with
  | nil => intro k; simp [asksR]
  | cons x r ih =>
    intro k
    have := ih (k + 1)
    simp only [asksR]
    split
    · simp only [List.length_cons]; omega
    · simp only [List.length_cons]; omega
theorem due_len (n : Int) {D : Dl} (h : Fit D.w) : (dueD n D).length ≤ 4 := by
  unfold dueD
  split
  · have := asks_len n D.yes D.w 0
    have := h.few
    omega
  · unfold endsR
    rw [List.length_map]
    have h1 := List.length_filter_le (fun s => decide (s ∉ D.ov)) (shopsL D.w)
    have h2 : (shopsL D.w).length ≤ 3 := shopsTo_length D.w 3
    omega
theorem dues_len : ∀ {L : List Dl} {k : Nat}, (∀ D ∈ L, Fit D.w) → (duesR k L).length ≤ 4 * L.length := by
  intro L
  induction L with
  | nil => intro k _; simp [duesR]
  | cons D r ih =>
    intro k h
    have h1 := due_len (k : Int) (h D (by simp))
    have h2 := ih (k := k + 1) (fun E hE => h E (by simp [hE]))
    simp only [duesR, List.length_append, List.length_cons]
    omega

end Go.Proofs.Ytbgnajcmhmpjlab

/- The plain mathematics of a broker alone: what is due stands once, and is told of the deal's own wants and shops; behind a Crash nothing is open; all said yes. No program is named here. -/
namespace Go.Proofs.Ytbgnajcmhmpjlab
open Go.RowKit

/-- What is due of a deal. -/
theorem dueD_is {n : Int} {D : Dl} {m : Ml} (h : m ∈ dueD n D) : m.deal = n ∧ ((D.st = 0 ∧ m.kind = 1 ∧ (m.c, m.d) ∈ D.w ∧ m.shop = shp m.c ∧ m.yes = false) ∨ (D.st ≠ 0 ∧ m.kind = 3 ∧ m.yes = (D.st == 1) ∧ m.shop ∈ shopsL D.w ∧ m.shop ∉ D.ov)) := by
  unfold dueD at h
  split at h
  · rename_i h0
    obtain ⟨c, d, hm, rfl⟩ := asks_mem h
    exact ⟨rfl, .inl ⟨h0, rfl, hm, rfl, rfl⟩⟩
  · rename_i h0
    unfold endsR at h
    obtain ⟨s, hs, rfl⟩ := List.mem_map.1 h
    obtain ⟨h1, h2⟩ := List.mem_filter.1 hs
    exact ⟨rfl, .inr ⟨h0, rfl, rfl, h1, by simpa using h2⟩⟩
theorem due_is {B : Bok} {m : Ml} (h : m ∈ dueR B) : ∃ D, dealAt B m.deal = some D ∧ ((D.st = 0 ∧ m.kind = 1 ∧ (m.c, m.d) ∈ D.w ∧ m.shop = shp m.c ∧ m.yes = false) ∨ (D.st ≠ 0 ∧ m.kind = 3 ∧ m.yes = (D.st == 1) ∧ m.shop ∈ shopsL D.w ∧ m.shop ∉ D.ov)) := by
  obtain ⟨n, D, hD, hm⟩ := due_mem h
  obtain ⟨e, hc⟩ := dueD_is hm
  exact ⟨D, by rw [e]; exact hD, hc⟩
theorem asks_nodup {n : Int} {yes : List Int} : ∀ {w : List (Int × Int)} {k : Nat}, w.Pairwise (fun x y => x.1 ≠ y.1) → (asksR n yes k w).Nodup := by
  intro w
  induction w with
  | nil => intro k _; exact List.nodup_nil
  | cons x r ih =>
    intro k h
    obtain ⟨h1, h2⟩ := List.pairwise_cons.1 h
    simp only [asksR]
    split
    · exact ih h2
    · refine List.nodup_cons.2 ⟨fun hm => ?_, ih h2⟩
      obtain ⟨c, d, hcd, e⟩ := asks_mem hm
      have : x.1 = c := congrArg Ml.c e
      exact h1 _ hcd this
theorem ends_nodup (n : Int) (D : Dl) : (endsR n D).Nodup := by
  unfold endsR
  have h1 : ((shopsL D.w).filter (fun s => decide (s ∉ D.ov))).Pairwise (· < ·) := (shopsL_rising D.w).sublist List.filter_sublist
  refine List.pairwise_map.2 (h1.imp ?_)
  intro a b hab e
  have : a = b := congrArg Ml.shop e
  omega
theorem dueD_nodup {n : Int} {D : Dl} (h : Fit D.w) : (dueD n D).Nodup := by
  unfold dueD
  split
  · exact asks_nodup h.apart
  · exact ends_nodup n D
theorem dues_nodup : ∀ {L : List Dl} {k : Nat}, (∀ D ∈ L, Fit D.w) → (duesR k L).Nodup := by
  intro L
  induction L with
  | nil => intro k _; exact List.nodup_nil
  | cons D r ih =>
    intro k h
    simp only [duesR]
    refine List.nodup_append.2 ⟨dueD_nodup (h D (by simp)), ih (fun E hE => h E (by simp [hE])), ?_⟩
    intro a ha b hb e
    subst e
    obtain ⟨e1, _⟩ := dueD_is ha
    obtain ⟨i, E, _, hm⟩ := dues_mem hb
    obtain ⟨e2, _⟩ := dueD_is hm
    omega
theorem due_nodup {B : Bok} (h : BInv B) : (dueR B).Nodup := dues_nodup h.fit
/-- Behind a Crash: an end to each shop of each deal. -/
def sumShops : List Dl → Nat
  | [] => 0
  | D :: r => (shopsL D.w).length + sumShops r
theorem crash_closed {B : Bok} {n : Int} {D : Dl} (h : dealAt (crashR B) n = some D) : D.st ≠ 0 := by
  rw [dealAt_crash] at h
  cases hD : dealAt B n with
  | none => rw [hD] at h; cases h
  | some E =>
    rw [hD] at h
    obtain rfl := Option.some.inj h
    show (if E.st = 0 then (2 : Int) else E.st) ≠ 0
    split <;> omega
theorem dues_crash : ∀ (L : List Dl) (k : Nat), (duesR k (L.map crashD)).length = sumShops L := by
  intro L
  induction L with
  | nil => intro k; rfl
  | cons D r ih =>
    intro k
    simp only [List.map_cons, duesR, List.length_append, sumShops, ih]
    congr 1
    unfold dueD
    rw [if_neg (by show (if D.st = 0 then (2 : Int) else D.st) ≠ 0; split <;> omega)]
    unfold endsR
    rw [List.length_map]
    show ((shopsL D.w).filter (fun s => decide (s ∉ ([] : List Int)))).length = _
    congr 1
    exact List.filter_eq_self.2 (fun a _ => by simp)
theorem due_crash (B : Bok) : (dueR (crashR B)).length = sumShops B.L := dues_crash B.L 0
theorem due_room {B : Bok} (h : BInv B) : (dueR B).length ≤ 32 := by
  have h1 := dues_len (L := B.L) (k := 0) h.fit
  have h2 := h.len
  show (duesR 0 B.L).length ≤ 32
  omega

/-- The place of a want that stands once. -/
theorem wantAt_at {l : List (Int × Int)} {k : Nat} {c d : Int} (hp : l.Pairwise (fun x y => x.1 ≠ y.1)) (h : l[k]? = some (c, d)) : wantAt l c d = some k := by
  unfold wantAt
  obtain ⟨hk, hx⟩ := List.getElem?_eq_some_iff.1 h
  rw [List.findIdx?_eq_some_iff_getElem]
  refine ⟨hk, by rw [hx]; simp, fun j hj => ?_⟩
  have := (List.pairwise_iff_getElem.1 hp) j k (by omega) hk hj
  rw [hx] at this
  simp only [Bool.not_eq_true, Bool.and_eq_false_imp, beq_iff_eq]
  intro e
  exact absurd e this
/-- One deal alone: a say of its k-th want. -/
def sayD (D : Dl) (k : Nat) (yes : Bool) : Dl := if D.st = 0 then (if yes = true then { D with yes := addI D.yes (k : Int), st := if (addI D.yes (k : Int)).length = D.w.length then 1 else 0 } else { D with st := 2 }) else D
theorem hear_one {D : Dl} {ord : List Int} {k : Nat} {c d : Int} (hF : Fit D.w) (hk : D.w[k]? = some (c, d)) (yes : Bool) : hearR ⟨[D], ord⟩ ⟨2, 0, shp c, c, d, yes⟩ = ⟨[sayD D k yes], if D.st = 0 ∧ (sayD D k yes).st = 1 then ord ++ [0] else ord⟩ := by
  have hd : dealAt ⟨[D], ord⟩ (⟨2, 0, shp c, c, d, yes⟩ : Ml).deal = some D := rfl
  have hw : wantAt D.w (⟨2, 0, shp c, c, d, yes⟩ : Ml).c (⟨2, 0, shp c, c, d, yes⟩ : Ml).d = some k := wantAt_at hF.apart hk
  have h2 : (⟨2, 0, shp c, c, d, yes⟩ : Ml).kind = 2 ∧ shp (⟨2, 0, shp c, c, d, yes⟩ : Ml).c = (⟨2, 0, shp c, c, d, yes⟩ : Ml).shop := ⟨rfl, rfl⟩
  have h4 : ¬ ((⟨2, 0, shp c, c, d, yes⟩ : Ml).kind = 4 ∧ (⟨2, 0, shp c, c, d, yes⟩ : Ml).shop ∈ shopsL D.w ∧ (⟨2, 0, shp c, c, d, yes⟩ : Ml).shop ∉ D.ov) := fun q => absurd (show (2 : Int) = 4 from q.1) (by decide)
  generalize hm : (⟨2, 0, shp c, c, d, yes⟩ : Ml) = m at hd hw h2 h4 ⊢
  have hdl : m.deal = 0 := by rw [← hm]
  have hy : m.yes = yes := by rw [← hm]
  unfold hearR sayD
  rw [hd]
  simp only
  rw [hw, hy, hdl]
  by_cases h0 : D.st = 0
  · rw [if_pos h0, if_pos h2, if_pos h0]
    simp only
    cases yes with
    | false =>
      rw [if_neg (by simp), if_neg (by simp), if_neg (by simp)]
      rfl
    | true =>
      rw [if_pos rfl, if_pos rfl]
      by_cases hl : (addI D.yes (k : Int)).length = D.w.length
      · rw [if_pos hl, if_pos hl, if_pos ⟨h0, rfl⟩]
        rfl
      · rw [if_neg hl, if_neg hl, if_neg (by simp)]
        unfold putD
        simp [h0]
  · rw [if_neg h0, if_neg h4, if_neg h0, if_neg (fun q => h0 q.1)]

/-- A step that a broker is asked: begin of wants, quit of a number, hear of a mail, crash, hear of an answer to what is due with the number n. -/
structure BSp where
  what : Int
  n : Int
  w : List (Int × Int)
  m : Ml
  yes : Bool
/-- An answer to what is due. -/
def ansM (m : Ml) (yes : Bool) : Ml := if m.kind = 1 then ⟨2, m.deal, m.shop, m.c, m.d, yes⟩ else ⟨4, m.deal, m.shop, m.c, m.d, m.yes⟩
def bstepR (B : Bok) (x : BSp) : Bok :=
  if x.what = 0 then (beginR B x.w).2.2 else if x.what = 1 then (quitR B x.n).2 else if x.what = 2 then hearR B x.m else if x.what = 3 then crashR B else if x.what = 4 then (match (dueR B)[rnd x.n (dueR B).length]? with
    | none => B
    | some m => hearR B (ansM m x.yes)) else B
theorem BInv.step {B : Bok} (h : BInv B) (x : BSp) : BInv (bstepR B x) ∧ Stays B (bstepR B x) := by
  unfold bstepR
  split
  · exact ⟨h.begin _, stays_begin _ _⟩
  · split
    · exact ⟨h.quit _, stays_quit _ _⟩
    · split
      · exact ⟨h.hear _, stays_hear h _⟩
      · split
        · exact ⟨h.crash, stays_crash _⟩
        · split
          · split
            · exact ⟨h, .refl _⟩
            · exact ⟨h.hear _, stays_hear h _⟩
          · exact ⟨h, .refl _⟩
/-- What was decided stays so: the states as they are told. -/
theorem Stays.state {B B' : Bok} (h : Stays B B') {n : Int} (hn : stR B n ≠ -1) (h0 : stR B n ≠ 0) : stR B' n = stR B n := by
  unfold stR at hn h0 ⊢
  cases hD : dealAt B n with
  | none => rw [hD] at hn; exact absurd rfl hn
  | some D =>
    rw [hD] at h0
    obtain ⟨D', e, _, hs⟩ := h.st n D hD
    rw [e]
    exact hs h0
theorem BInv.state {B : Bok} (h : BInv B) {n : Nat} (hn : n < B.L.length) : (stR B n = 0 ∨ stR B n = 1 ∨ stR B n = 2) ∧ (stR B n = 1 ↔ (n : Int) ∈ B.ord) := by
  have hD : dealAt B (n : Int) = some B.L[n] := by rw [dealAt_nat]; exact List.getElem?_eq_getElem hn
  rw [stR_some hD]
  refine ⟨h.st _ (List.getElem_mem hn), ?_⟩
  rw [h.ord]
  constructor
  · intro e; exact ⟨_, hD, e⟩
  · rintro ⟨E, hE, he⟩
    rw [hD] at hE
    obtain rfl := Option.some.inj hE
    exact he
theorem stR_out {B : Bok} {n : Int} (h : n < 0 ∨ (B.L.length : Int) ≤ n) : stR B n = -1 := by
  unfold stR dealAt
  split
  · rename_i D hD
    split at hD
    · cases hD
    · have := (List.getElem?_eq_some_iff.1 hD).1
      omega
  · rfl
theorem BInv.ordLen {B : Bok} (h : BInv B) : B.ord.length ≤ 8 := by
  have h1 := length_le_of_below (k := 8) h.nd (fun x hx => by
    obtain ⟨D, hD, _⟩ := (h.ord x).1 hx
    obtain ⟨k, rfl, hk, _⟩ := dealAt_some hD
    have := h.len
    omega)
  exact h1
theorem BInv.yesLen {B : Bok} (h : BInv B) {D : Dl} (hD : D ∈ B.L) : D.yes.length ≤ 4 ∧ D.ov.length ≤ 3 ∧ D.w.length ≤ 4 := by
  have h1 := length_le_of_below (k := D.w.length) (h.ynd D hD) (h.yin D hD)
  have h2 := (h.fit D hD).few
  have h3 := length_le_of_below (k := 3) (h.ond D hD) (fun x hx => by
    have := shopsL_range (h.oin D hD x hx)
    omega)
  exact ⟨by omega, h3, h2⟩

end Go.Proofs.Ytbgnajcmhmpjlab

/- What is read of a broker, and of the document's book, in memory: cells of a deal, its rows. -/
namespace Go.Proofs.Ytbgnajcmhmpjlab
open Go.RowKit

theorem own_any {w : World} {B e s n : Nat} {v : Value} {xs : List Value} (h : w.ownsRow B e s v n xs) (hn : n ≠ 0) : ∃ g cap, v = .slice (some ⟨g, 0, none⟩) n cap := by
  rcases h.2 with ⟨e1, e0⟩ | ⟨g, cap, cur, e1, _⟩
  · exact absurd e0 hn
  · exact ⟨g, cap, e1⟩
theorem own_sl {w : World} {B e s n : Nat} {v : Value} {xs : List Value} (h : w.ownsRow B e s v n xs) : ∃ ga cap, v = .slice ga n cap := by
  rcases h.2 with ⟨e1, e0⟩ | ⟨g, cap, cur, e1, _⟩
  · exact ⟨none, 0, by rw [e1, e0]⟩
  · exact ⟨_, cap, e1⟩
/-- The nine cells of a deal. -/
structure Deal9 (w : World) (g k : Nat) (D : Dl) (v : Value) : Prop where
  c0 : w.cell? ⟨g, k * 9, none⟩ = some v
  c1 : w.cell? ⟨g, k * 9 + 1, none⟩ = some (.int .i64 D.st)
  c2 : w.cell? ⟨g, k * 9 + 2, none⟩ = some (.bool (decide ((0 : Int) ∈ D.yes)))
  c3 : w.cell? ⟨g, k * 9 + 3, none⟩ = some (.bool (decide ((1 : Int) ∈ D.yes)))
  c4 : w.cell? ⟨g, k * 9 + 4, none⟩ = some (.bool (decide ((2 : Int) ∈ D.yes)))
  c5 : w.cell? ⟨g, k * 9 + 5, none⟩ = some (.bool (decide ((3 : Int) ∈ D.yes)))
  c6 : w.cell? ⟨g, k * 9 + 6, none⟩ = some (.bool (decide ((0 : Int) ∈ D.ov)))
  c7 : w.cell? ⟨g, k * 9 + 7, none⟩ = some (.bool (decide ((1 : Int) ∈ D.ov)))
  c8 : w.cell? ⟨g, k * 9 + 8, none⟩ = some (.bool (decide ((2 : Int) ∈ D.ov)))
  lt : g < w.heap.size
  fr : ∀ j, w.frozen? ⟨g, j, none⟩ = false
theorem Deal9.next {w w1 : World} {g k : Nat} {D : Dl} {v : Value} (h : Deal9 w g k D v) (hb : Below w.heap.size w w1) : Deal9 w1 g k D v := by
  have q : ∀ o, w1.cell? ⟨g, o, none⟩ = w.cell? ⟨g, o, none⟩ := fun o => (bcell hb).1 _ _ h.lt
  exact ⟨(q _).trans h.c0, (q _).trans h.c1, (q _).trans h.c2, (q _).trans h.c3, (q _).trans h.c4, (q _).trans h.c5, (q _).trans h.c6, (q _).trans h.c7, (q _).trans h.c8, Nat.lt_of_lt_of_le h.lt hb.size, loose g hb h.lt h.fr⟩
/-- A deal of a broker: where its cells lie. -/
theorem BrkRaw.deal9 {w : World} {q : Nat} {B : Bok} {rv dv : Value} {P : List (Dl × Value)} (h : BrkRaw w q B rv dv P) {k : Nat} {D : Dl} (hk : B.L[k]? = some D) : ∃ g cap v, rv = .slice (some ⟨g, 0, none⟩) B.L.length cap ∧ P[k]? = some (D, v) ∧ Deal9 w g k D v ∧ w.ownsRow (q + 1) 69 2 v D.w.length (flat D.w) ∧ q < g ∧ B.L.length ≤ cap := by
  obtain ⟨v, hv⟩ := h.at hk
  have hkl := (List.getElem?_eq_some_iff.1 hv).1
  have hrow := h.row
  obtain ⟨g, cap, rfl⟩ := own_any hrow (by omega)
  obtain ⟨hB, hR, hc, hm, hcell⟩ := own_row hrow
  have q9 : ∀ j u, j < 9 → (dcells (D, v))[j]? = some u → w.cell? ⟨g, k * 9 + j, none⟩ = some u := fun j u hj hu => hcell _ _ ((flatB_at hv hj).trans hu)
  exact ⟨g, cap, v, by rw [h.len], hv, ⟨q9 0 _ (by decide) rfl, q9 1 _ (by decide) rfl, q9 2 _ (by decide) rfl, q9 3 _ (by decide) rfl, q9 4 _ (by decide) rfl, q9 5 _ (by decide) rfl, q9 6 _ (by decide) rfl, q9 7 _ (by decide) rfl, q9 8 _ (by decide) rfl, hR.lt, hR.loose⟩, h.deal _ (List.mem_of_getElem? hv), hB, by rw [h.len]; exact hc⟩
/-- The four cells of a deal of the document's book. -/
structure Deal4 (w : World) (g k : Nat) (D : Dl) (v : DV) : Prop where
  c0 : w.cell? ⟨g, k * 4, none⟩ = some v.w
  c1 : w.cell? ⟨g, k * 4 + 1, none⟩ = some (.int .i64 D.st)
  c2 : w.cell? ⟨g, k * 4 + 2, none⟩ = some v.y
  c3 : w.cell? ⟨g, k * 4 + 3, none⟩ = some v.o
  lt : g < w.heap.size
  fr : ∀ j, w.frozen? ⟨g, j, none⟩ = false
theorem Deal4.next {w w1 : World} {g k : Nat} {D : Dl} {v : DV} (h : Deal4 w g k D v) (hb : Below w.heap.size w w1) : Deal4 w1 g k D v := by
  have q : ∀ o, w1.cell? ⟨g, o, none⟩ = w.cell? ⟨g, o, none⟩ := fun o => (bcell hb).1 _ _ h.lt
  exact ⟨(q _).trans h.c0, (q _).trans h.c1, (q _).trans h.c2, (q _).trans h.c3, Nat.lt_of_lt_of_le h.lt hb.size, loose g hb h.lt h.fr⟩
theorem BokRaw.deal4 {tD tW tI : TypeId} {w : World} {q o : Nat} {B : Bok} {rv ov : Value} {V : List DV} (h : BokRaw tD tW tI w q o B rv ov V) {k : Nat} {D : Dl} (hk : B.L[k]? = some D) : ∃ g cap v, rv = .slice (some ⟨g, 0, none⟩) B.L.length cap ∧ V[k]? = some v ∧ Deal4 w g k D v ∧ q < g ∧ B.L.length ≤ cap := by
  have hkl := (List.getElem?_eq_some_iff.1 hk).1
  obtain ⟨v, hv⟩ : ∃ v, V[k]? = some v := ⟨_, List.getElem?_eq_getElem (by rw [h.len]; exact hkl)⟩
  have hrow := h.row
  obtain ⟨g, cap, rfl⟩ := own_any hrow (by omega)
  obtain ⟨hB, hR, hc, hm, hcell⟩ := own_row hrow
  obtain ⟨a, b, c, d⟩ := flatD_at hk hv
  exact ⟨g, cap, v, rfl, hv, ⟨hcell _ _ a, hcell _ _ b, hcell _ _ c, hcell _ _ d, hR.lt, hR.loose⟩, hB, hc⟩
theorem BokIn.rows {tD tW tI : TypeId} {O : Nat → Prop} {w : World} {q o : Nat} {B : Bok} (h : BokIn tD tW tI O w q o B) {rv ov : Value} {V : List DV} (hs : ∀ u ∈ rv :: ov :: V.flatMap DV.all, ∀ k, u.ownBlock = some k → O k) : ∀ u ∈ rv :: ov :: V.flatMap DV.all, ∀ k, u.ownBlock = some k → k < w.heap.size := fun u hu k hk => h.own k (hs u hu k hk)
theorem BrkIn.rows {O : Nat → Prop} {w : World} {q : Nat} {B : Bok} (h : BrkIn O w q B) {rv dv : Value} {P : List (Dl × Value)} (hs : ∀ u ∈ rv :: dv :: P.map Prod.snd, ∀ k, u.ownBlock = some k → O k) : ∀ u ∈ rv :: dv :: P.map Prod.snd, ∀ k, u.ownBlock = some k → k < w.heap.size := fun u hu k hk => h.own k (hs u hu k hk)
theorem dealAt_out {B : Bok} {n : Int} (h : dealAt B n = none) : n < 0 ∨ (B.L.length : Int) ≤ n := by
  unfold dealAt at h
  split at h
  · omega
  · have := List.getElem?_eq_none_iff.1 h
    omega

end Go.Proofs.Ytbgnajcmhmpjlab

/- What is due of a broker's book, part by part. No program is named here. -/
namespace Go.Proofs.Ytbgnajcmhmpjlab
open Go.RowKit

theorem asks_append (n : Int) (yes : List Int) : ∀ (a b : List (Int × Int)) (j : Nat), asksR n yes j (a ++ b) = asksR n yes j a ++ asksR n yes (j + a.length) b := by
  intro a
  induction a with
  | nil => intro b j; simp [asksR]
  | cons x r ih =>
    intro b j
    simp only [List.cons_append, asksR, ih, List.length_cons, show j + (r.length + 1) = j + 1 + r.length by omega]
    split
    · rfl
    · rfl
/-- The asks of a deal's first k wants. -/
def asksTo (n : Int) (yes : List Int) (w : List (Int × Int)) (k : Nat) : List Ml := asksR n yes 0 (w.take k)
theorem asksTo_zero (n : Int) (yes : List Int) (w : List (Int × Int)) : asksTo n yes w 0 = [] := by simp [asksTo, asksR]
theorem asksTo_hit {n : Int} {yes : List Int} {w : List (Int × Int)} {k : Nat} {c d : Int} (h : w[k]? = some (c, d)) (hy : (k : Int) ∈ yes) : asksTo n yes w (k + 1) = asksTo n yes w k := by
  have hk := (List.getElem?_eq_some_iff.1 h).1
  unfold asksTo
  rw [take_snoc h, asks_append, List.length_take, Nat.min_eq_left (by omega), Nat.zero_add]
  simp [asksR, hy]
theorem asksTo_miss {n : Int} {yes : List Int} {w : List (Int × Int)} {k : Nat} {c d : Int} (h : w[k]? = some (c, d)) (hy : (k : Int) ∉ yes) : asksTo n yes w (k + 1) = asksTo n yes w k ++ [⟨1, n, shp c, c, d, false⟩] := by
  have hk := (List.getElem?_eq_some_iff.1 h).1
  unfold asksTo
  rw [take_snoc h, asks_append, List.length_take, Nat.min_eq_left (by omega), Nat.zero_add]
  simp [asksR, hy]
theorem asksTo_all (n : Int) (yes : List Int) (w : List (Int × Int)) : asksTo n yes w w.length = asksR n yes 0 w := by
  unfold asksTo
  rw [List.take_of_length_le (Nat.le_refl _)]
theorem asksTo_len (n : Int) (yes : List Int) (w : List (Int × Int)) (k : Nat) : (asksTo n yes w k).length ≤ k := by
  unfold asksTo
  have h1 := asks_len n yes (w.take k) 0
  have h2 : (w.take k).length ≤ k := by rw [List.length_take]; omega
  omega
theorem asks_nil {n : Int} {yes : List Int} : ∀ {w : List (Int × Int)} {j : Nat}, asksR n yes j w = [] ↔ ∀ i, i < w.length → ((j + i : Nat) : Int) ∈ yes := by
  intro w
  induction w with
  | nil => intro j; simp [asksR]
  | cons x r ih =>
    intro j
    simp only [asksR]
    split
    · rename_i h
      rw [ih]
      constructor
      · intro q i hi
        cases i with
        | zero => simpa using h
        | succ i =>
          have := q i (by simp at hi; omega)
          rw [show j + (i + 1) = j + 1 + i by omega]; exact this
      · intro q i hi
        have := q (i + 1) (by simp; omega)
        rw [show j + 1 + i = j + (i + 1) by omega]; exact this
    · rename_i h
      constructor
      · intro q; cases q
      · intro q
        exact absurd (by simpa using q 0 (by simp)) h
theorem length_of_all : ∀ {k : Nat} {l : List Int}, (∀ i : Nat, i < k → (i : Int) ∈ l) → k ≤ l.length := by
  intro k
  induction k with
  | zero => intro l _; omega
  | succ k ih =>
    intro l h
    have hk := h k (by omega)
    have h1 := ih (l := l.erase (k : Int)) (fun i hi => (List.mem_erase_of_ne (by omega)).2 (h i (by omega)))
    rw [List.length_erase_of_mem hk] at h1
    have := List.length_pos_of_mem hk
    omega
/-- Nothing is asked any more just if all wants are held. -/
theorem asks_empty {n : Int} {yes : List Int} {w : List (Int × Int)} (hnd : yes.Nodup) (hin : ∀ i ∈ yes, 0 ≤ i ∧ i < (w.length : Int)) : asksR n yes 0 w = [] ↔ yes.length = w.length := by
  rw [asks_nil]
  constructor
  · intro h
    have h1 := length_of_all (k := w.length) (l := yes) (fun i hi => by simpa using h i hi)
    have h2 := length_le_of_below hnd hin
    omega
  · intro h i hi
    simpa using all_of_length hnd hin h i hi
/-- The ends of a deal to its first k shops. -/
def endsTo (n : Int) (D : Dl) (k : Nat) : List Ml := (((shopsL D.w).take k).filter (fun s => decide (s ∉ D.ov))).map (fun s => ⟨3, n, s, 0, 0, D.st == 1⟩)
theorem endsTo_zero (n : Int) (D : Dl) : endsTo n D 0 = [] := by simp [endsTo]
theorem endsTo_hit {n : Int} {D : Dl} {k : Nat} {s : Int} (h : (shopsL D.w)[k]? = some s) (hs : s ∈ D.ov) : endsTo n D (k + 1) = endsTo n D k := by
  unfold endsTo
  rw [take_snoc h, List.filter_append, List.map_append]
  simp [hs]
theorem endsTo_miss {n : Int} {D : Dl} {k : Nat} {s : Int} (h : (shopsL D.w)[k]? = some s) (hs : s ∉ D.ov) : endsTo n D (k + 1) = endsTo n D k ++ [⟨3, n, s, 0, 0, D.st == 1⟩] := by
  unfold endsTo
  rw [take_snoc h, List.filter_append, List.map_append]
  simp [hs]
theorem endsTo_all (n : Int) (D : Dl) : endsTo n D (shopsL D.w).length = endsR n D := by
  unfold endsTo endsR
  rw [List.take_of_length_le (Nat.le_refl _)]
theorem endsTo_len (n : Int) (D : Dl) (k : Nat) : (endsTo n D k).length ≤ k := by
  unfold endsTo
  rw [List.length_map]
  have h1 := List.length_filter_le (fun s => decide (s ∉ D.ov)) ((shopsL D.w).take k)
  have h2 : ((shopsL D.w).take k).length ≤ k := by rw [List.length_take]; omega
  omega
theorem dues_append : ∀ (a b : List Dl) (j : Nat), duesR j (a ++ b) = duesR j a ++ duesR (j + a.length) b := by
  intro a
  induction a with
  | nil => intro b j; simp [duesR]
  | cons x r ih =>
    intro b j
    simp only [List.cons_append, duesR, ih, List.length_cons, show j + (r.length + 1) = j + 1 + r.length by omega, List.append_assoc]
/-- What is due of the first k deals. -/
def duesTo (L : List Dl) (k : Nat) : List Ml := duesR 0 (L.take k)
theorem duesTo_zero (L : List Dl) : duesTo L 0 = [] := by simp [duesTo, duesR]
theorem duesTo_next {L : List Dl} {k : Nat} {D : Dl} (h : L[k]? = some D) : duesTo L (k + 1) = duesTo L k ++ dueD (k : Int) D := by
  have hk := (List.getElem?_eq_some_iff.1 h).1
  unfold duesTo
  rw [take_snoc h, dues_append, List.length_take, Nat.min_eq_left (by omega), Nat.zero_add]
  simp [duesR]
theorem duesTo_all (L : List Dl) : duesTo L L.length = duesR 0 L := by
  unfold duesTo
  rw [List.take_of_length_le (Nat.le_refl _)]
theorem duesTo_len {L : List Dl} {k : Nat} (h : ∀ D ∈ L, Fit D.w) : (duesTo L k).length ≤ 4 * k := by
  unfold duesTo
  have h1 := dues_len (L := L.take k) (k := 0) (fun D hD => h D (List.mem_of_mem_take hD))
  have h2 : (L.take k).length ≤ k := by rw [List.length_take]; omega
  omega
/-- The first deals of a book behind a Crash, the others as they were. -/
def crashTo (L : List Dl) (k : Nat) : List Dl := (L.take k).map crashD ++ L.drop k
theorem crashTo_zero (L : List Dl) : crashTo L 0 = L := by simp [crashTo]
theorem crashTo_all (L : List Dl) : crashTo L L.length = L.map crashD := by simp [crashTo]
theorem crashTo_at {L : List Dl} {k : Nat} {D : Dl} (h : L[k]? = some D) : (crashTo L k)[k]? = some D := by
  have hk := (List.getElem?_eq_some_iff.1 h).1
  unfold crashTo
  rw [List.getElem?_append_right (by simp; omega), List.length_map, List.length_take, Nat.min_eq_left (by omega), Nat.sub_self, drop_cons h]
  rfl
theorem crashTo_next {L : List Dl} {k : Nat} {D : Dl} (h : L[k]? = some D) : crashTo L (k + 1) = (crashTo L k).set k (crashD D) := by
  have hk := (List.getElem?_eq_some_iff.1 h).1
  unfold crashTo
  rw [take_snoc h, List.map_append, List.append_assoc, List.set_append_right _ _ (by simp; omega), List.length_map, List.length_take, Nat.min_eq_left (by omega), Nat.sub_self, drop_cons h]
  rfl
theorem crashTo_len (L : List Dl) (k : Nat) : (crashTo L k).length = L.length := by
  unfold crashTo
  rw [List.length_append, List.length_map, List.length_take, List.length_drop]
  omega

end Go.Proofs.Ytbgnajcmhmpjlab

/- The contracts of broker.New, has, Len, State, Wants, Done and Quit. -/
namespace Go.Proofs.Ytbgnajcmhmpjlab
open Go.RowKit

theorem rnew_any (w : World) : Calls Try.prog 47 #[] w fun e w' => (∃ q O, e = .returned (.pointer (some ⟨q, 0, none⟩)) ∧ BrkIn O w' q ⟨[], []⟩ ∧ ∀ k, O k → w.heap.size ≤ k) ∧ Below w.heap.size w w' := by
  go_enter Try.func47, Try.ntmps47
  go_wp2_with fail
  go_ret
  refine ⟨⟨w.heap.size, fun k => k = w.heap.size, rfl, ⟨fun k hk => by rw [hk]; simp, rfl, by simp [go_sem], .slice none 0 0, .slice none 0 0, [], ⟨rfl, by simp [go_sem], by simp [go_sem], World.ownsRow_nil _ _ _ _, World.ownsRow_nil _ _ _ _, by simp, ?_⟩, ?_⟩, fun k hk => by rw [hk]; exact Nat.le_refl _⟩, by go_grown⟩
  · refine List.pairwise_cons.2 ⟨fun u hu k e _ => by simp [Value.ownBlock] at e, List.pairwise_singleton _ _⟩
  · intro u hu k e
    simp at hu
    subst hu
    simp [Value.ownBlock] at e

theorem rlen_any (O : Nat → Prop) (B : Bok) (q : Nat) (w : World) (h : BrkIn O w q B) : Calls Try.prog 49 #[.pointer (some ⟨q, 0, none⟩)] w fun e w' => e = .returned (.int .i64 (B.L.length : Int)) ∧ w' = w := by
  obtain ⟨rv, dv, P, hR, _⟩ := h.raw
  have c0 := hR.c0
  obtain ⟨ga, cap, rfl⟩ := own_sl hR.row
  rw [← hR.len] at c0
  clear h hR
  go_enter Try.func49, Try.ntmps49
  go_wp2_with fail
  go_ret
  exact ⟨rfl, rfl⟩

theorem rhas_any (O : Nat → Prop) (B : Bok) (q : Nat) (n : Int) (w : World) (h : BrkIn O w q B) (hl : B.L.length ≤ 8) : Calls Try.prog 85 #[.pointer (some ⟨q, 0, none⟩), .int .i64 n] w fun e w' => e = .returned (.bool (dealAt B n).isSome) ∧ w' = w := by
  obtain ⟨rv, dv, P, hR, _⟩ := h.raw
  have c0 := hR.c0
  obtain ⟨ga, cap, rfl⟩ := own_sl hR.row
  rw [← hR.len] at c0
  clear h hR
  cases hd : dealAt B n with
  | none =>
    rcases dealAt_out hd with h0 | h0
    · clear hd
      go_enter Try.func85, Try.ntmps85
      go_wp2_with fail
      go_ret
      exact ⟨rfl, rfl⟩
    · have h1 : 0 ≤ n := by omega
      have h2 : decide (n < (B.L.length : Int)) = false := by simpa using h0
      clear hd h0
      go_enter Try.func85, Try.ntmps85
      go_wp2_with fail
      go_ret
      exact ⟨rfl, rfl⟩
  | some D =>
    obtain ⟨k, rfl, hk, _⟩ := dealAt_some hd
    have h1 : (0 : Int) ≤ (k : Int) := by omega
    have h2 : (k : Int) < (B.L.length : Int) := by omega
    clear hd
    go_enter Try.func85, Try.ntmps85
    go_wp2_with fail
    go_ret
    exact ⟨rfl, rfl⟩

set_option maxHeartbeats 1000000 in
theorem rstate_any (O : Nat → Prop) (B : Bok) (q : Nat) (n : Int) (w : World) (h : BrkIn O w q B) (hl : B.L.length ≤ 8) : Calls Try.prog 54 #[.pointer (some ⟨q, 0, none⟩), .int .i64 n] w fun e w' => e = .returned (.int .i64 (stR B n)) ∧ w' = w := by
  have HH := rhas_any O B q n w h hl
  obtain ⟨rv, dv, P, hR, _⟩ := h.raw
  unfold stR
  cases hd : dealAt B n with
  | none =>
    rw [hd] at HH
    clear hd hR
    go_enter Try.func54, Try.ntmps54
    go_wp2_with fail
    refine HH.mono ?_
    rintro e w' ⟨rfl, rfl⟩
    go_wp2_with fail
    go_ret
    exact ⟨rfl, rfl⟩
  | some D =>
    rw [hd] at HH
    obtain ⟨k, rfl, hk, hkD⟩ := dealAt_some hd
    obtain ⟨g, cap, v, rfl, _, h9, _, _, _⟩ := hR.deal9 hkD
    have c0 := hR.c0
    have d1 := h9.c1
    have h1 : (0 : Int) ≤ (k : Int) := by omega
    have h2 : (k : Int) < (B.L.length : Int) := by omega
    have h3 : (B.L.length : Int) ≤ 8 := by omega
    clear hd hkD hR h9 h
    go_enter Try.func54, Try.ntmps54
    go_wp2_with fail
    refine HH.mono ?_
    rintro e w' ⟨rfl, rfl⟩
    go_wp2_with fail
    go_ret
    exact ⟨rfl, rfl⟩

theorem flat_one (l : List (Int × Int)) : ∀ u ∈ flat l, u.oneCell' = true := by
  intro u hu
  unfold flat at hu
  rw [List.mem_flatMap] at hu
  obtain ⟨x, _, hx⟩ := hu
  simp only [List.mem_cons, List.not_mem_nil, or_false] at hx
  rcases hx with rfl | rfl <;> rfl
theorem nums_one (l : List Int) : ∀ u ∈ l.map (Value.int .i64), u.oneCell' = true := by
  intro u hu
  obtain ⟨x, _, rfl⟩ := List.mem_map.1 hu
  rfl

set_option maxHeartbeats 1000000 in
theorem rwants_any (O : Nat → Prop) (B : Bok) (q : Nat) (n : Int) (w : World) (h : BrkIn O w q B) (hI : BInv B) :
    Calls Try.prog 57 #[.pointer (some ⟨q, 0, none⟩), .int .i64 n] w fun e w' => (∃ v, e = .returned v ∧ w'.ownsRow w.heap.size 69 2 v (wantsR B n).length (flat (wantsR B n))) ∧ Below w.heap.size w w' := by
  have hl := hI.len
  have HH := rhas_any O B q n w h hl
  obtain ⟨rv, dv, P, hR, _⟩ := h.raw
  obtain ⟨i0, hi, hz0, hz1, hz2⟩ := info_parts infoWant
  unfold wantsR
  cases hd : dealAt B n with
  | none =>
    rw [hd] at HH
    clear hd hR
    go_enter Try.func57, Try.ntmps57
    go_wp2_with fail
    refine HH.mono ?_
    rintro e w' ⟨rfl, rfl⟩
    go_wp2_with fail
    go_ret
    exact ⟨⟨_, rfl, World.ownsRow_nil _ _ _ _⟩, Below.refl _ _⟩
  | some D =>
    rw [hd] at HH
    have hF := hI.fit D (dealAt_mem hd)
    have HLen : Hid (D.w.length ≤ 4) := hF.few
    have hpos := hF.pos
    obtain ⟨k, rfl, hk, hkD⟩ := dealAt_some hd
    obtain ⟨g, cap, v, rfl, _, h9, hrow, _, _⟩ := hR.deal9 hkD
    obtain ⟨gw, capw, rfl⟩ := own_any hrow (by omega)
    obtain ⟨_, _, _, _, hcell⟩ := own_row hrow
    have HC : Hid _ := hcell
    have HL : Hid _ := flat_length D.w
    have c0 := hR.c0
    have d1 := h9.c0
    have h1 : (0 : Int) ≤ (k : Int) := by omega
    have h2 : (k : Int) < (B.L.length : Int) := by omega
    have h3 : (B.L.length : Int) ≤ 8 := by omega
    clear hd hkD hR h9 h hrow hcell
    go_enter Try.func57, Try.ntmps57
    go_wp2_with fail
    refine HH.mono ?_
    rintro e w' ⟨rfl, rfl⟩
    go_wp2_with (at_builtin; refine wpList_append_own _ rfl (.const (.slice none 0 0)) (.tmp 16) 103 rfl w'.heap.size 69 i0 (.agg #[.int .i64 0, .int .i64 0]) 2 16 Try.underlying103 hi hz0 hz1 hz2 rfl (by decide) (.slice none 0 0) 0 [] rfl (World.ownsRow_nil _ _ _ _) ⟨gw, 0, none⟩ D.w.length capw (flat D.w) rfl HL.out (fun j u hj => by rw [addr_add]; exact HC.out j u hj) (flat_one _) (by have := HLen.out; unfold maxLen; omega) (by have := HLen.out; omega) (Nat.le_refl _) ?_; intro v7 w7 hown7 hgrow7 _)
    have hown8 : w7.ownsRow w'.heap.size 69 2 v7 D.w.length (flat D.w) := by simpa using hown7
    go_ret
    exact ⟨⟨v7, rfl, hown8⟩, (Below.refl _ _).grown hgrow7 (Nat.le_refl _) (fun k e => by simp [Value.ownBlock] at e)⟩

set_option maxHeartbeats 1000000 in
theorem rdone_any (O : Nat → Prop) (B : Bok) (q : Nat) (w : World) (h : BrkIn O w q B) (hl : B.ord.length < 1000) :
    Calls Try.prog 51 #[.pointer (some ⟨q, 0, none⟩)] w fun e w' => (∃ v, e = .returned v ∧ w'.ownsRow w.heap.size 3 1 v B.ord.length (B.ord.map (Value.int .i64))) ∧ Below w.heap.size w w' := by
  obtain ⟨i0, hi, hz0, hz1, hz2⟩ := info_parts infoInt
  obtain ⟨rv, dv, P, hR, _⟩ := h.raw
  have c1 := hR.c1
  have hrow := hR.ord
  have HRow : Hid (w.ownsRow (q + 1) 3 1 dv B.ord.length (B.ord.map (Value.int .i64))) := hrow
  have HLen : Hid (B.ord.length < 1000) := hl
  clear h hR hl hrow
  rcases HRow.out.2 with ⟨rfl, e0⟩ | ⟨g, cap, cur, rfl, _⟩
  · have e1 : B.ord = [] := List.length_eq_zero_iff.1 e0
    rw [e1]
    clear HRow e0 e1
    go_enter Try.func51, Try.ntmps51
    go_wp2_with fail
    go_ret
    exact ⟨⟨.slice none 0 0, rfl, World.ownsRow_nil _ _ _ _⟩, Below.refl _ _⟩
  · obtain ⟨_, _, _, _, hcell⟩ := own_row HRow.out
    have HC : Hid _ := hcell
    clear hcell
    have HL : Hid ((B.ord.map (Value.int .i64)).length = B.ord.length * 1) := by show _ = _; simp
    go_enter Try.func51, Try.ntmps51
    go_wp2_with (at_builtin; refine wpList_append_own _ rfl (.const (.slice none 0 0)) (.tmp 6) 42 rfl w.heap.size 3 i0 (.int .i64 0) 1 8 Try.underlying42 hi hz0 hz1 hz2 rfl (by decide) (.slice none 0 0) 0 [] rfl (World.ownsRow_nil _ _ _ _) ⟨g, 0, none⟩ B.ord.length cap (B.ord.map (Value.int .i64)) rfl HL.out (fun j u hj => by rw [addr_add]; exact HC.out j u hj) (nums_one _) (by have := HLen.out; unfold maxLen; omega) (by have := HLen.out; omega) (Nat.le_refl _) ?_; intro v7 w7 hown7 hgrow7 _)
    have hown8 : w7.ownsRow w.heap.size 3 1 v7 B.ord.length (B.ord.map (Value.int .i64)) := by simpa using hown7
    go_ret
    exact ⟨⟨v7, rfl, hown8⟩, (Below.refl _ _).grown hgrow7 (Nat.le_refl _) (fun k e => by simp [Value.ownBlock] at e)⟩

theorem dcells_st (D : Dl) (v : Value) (x : Int) : dcells ({ D with st := x }, v) = (dcells (D, v)).set 1 (.int .i64 x) := rfl

set_option maxHeartbeats 1000000 in
theorem rquit_any (O : Nat → Prop) (B : Bok) (q : Nat) (n : Int) (w : World) (h : BrkIn O w q B) (hI : BInv B) :
    Calls Try.prog 76 #[.pointer (some ⟨q, 0, none⟩), .int .i64 n] w fun e w' => e = .returned (.int .i64 (quitR B n).1) ∧ BrkTo O w w' q (quitR B n).2 := by
  have hl := hI.len
  have HH := rhas_any O B q n w h hl
  obtain ⟨rv, dv, P, hR, hsub⟩ := h.raw
  have HI : Hid (BrkIn O w q B) := h
  unfold quitR
  cases hd : dealAt B n with
  | none =>
    rw [hd] at HH
    clear hd hR
    go_enter Try.func76, Try.ntmps76
    go_wp2_with fail
    refine HH.mono ?_
    rintro e w' ⟨rfl, rfl⟩
    go_wp2_with fail
    go_ret
    exact ⟨rfl, BrkTo.stay HI.out (Below.refl _ _)⟩
  | some D =>
    rw [hd] at HH
    obtain ⟨k, rfl, hk, hkD⟩ := dealAt_some hd
    obtain ⟨g, cap, v, rfl, hP, h9, _, _, _⟩ := hR.deal9 hkD
    have c0 := hR.c0
    have d1 := h9.c1
    have d2 := h9.fr
    have h1 : (0 : Int) ≤ (k : Int) := by omega
    have h2 : (k : Int) < (B.L.length : Int) := by omega
    have h3 : (B.L.length : Int) ≤ 8 := by omega
    by_cases h0 : D.st = 0
    · have HE : Hid (BrkTo O w (w.setCell ⟨g, k * 9 + 1, none⟩ (.int .i64 2)) q (putD B (k : Int) { D with st := 2 })) := by
        have hS : Save O w (w.setCell ⟨g, k * 9 + 1, none⟩ (.int .i64 2)) := Save.setCell (Save.refl _ _) (p := ⟨g, k * 9 + 1, none⟩) (fun _ => hsub _ List.mem_cons_self g rfl) _
        refine brk_to h.own h.mine hS (hR.set h.lt hP (by decide) rfl (dcells_st D v 2)) (by simpa [go_sem] using h.loose) ?_
        intro u hu j hj
        rw [map_set_snd hP] at hu
        exact ⟨.inl (hsub u hu j hj), by simpa using h.own j (hsub u hu j hj)⟩
      simp only [if_pos h0]
      have h0' : (D.st != 0) = false := by simp [h0]
      clear hd hkD hR h9 h hsub h0 hP
      go_enter Try.func76, Try.ntmps76
      go_wp2_with fail
      refine HH.mono ?_
      rintro e w' ⟨rfl, rfl⟩
      go_wp2_with fail
      go_ret
      exact ⟨rfl, HE.out⟩
    · simp only [if_neg h0]
      have h0' : (D.st != 0) = true := by simpa using h0
      clear hd hkD hR h9 h hsub h0 hP
      go_enter Try.func76, Try.ntmps76
      go_wp2_with fail
      refine HH.mono ?_
      rintro e w' ⟨rfl, rfl⟩
      go_wp2_with fail
      go_ret
      exact ⟨rfl, BrkTo.stay HI.out (Below.refl _ _)⟩

end Go.Proofs.Ytbgnajcmhmpjlab

/- The contract of broker's Begin. -/
namespace Go.Proofs.Ytbgnajcmhmpjlab
open Go.RowKit

theorem wants_cells {w : World} {b off : Nat} {l : List (Int × Int)} (h : WantsAt w (some ⟨b, off, none⟩) l) : ∀ j u, (flat l)[j]? = some u → w.cell? ((⟨b, off, none⟩ : Addr).add j) = some u := by
  intro j u hj
  have hl : j < l.length * 2 := by have := (List.getElem?_eq_some_iff.1 hj).1; rwa [flat_length] at this
  obtain ⟨⟨c, d⟩, hk⟩ : ∃ x, l[j / 2]? = some x := ⟨_, List.getElem?_eq_getElem (by omega)⟩
  obtain ⟨b', o', e, hlt, h0, h1⟩ := h _ c d hk
  obtain ⟨rfl, rfl⟩ : b = b' ∧ off = o' := by simpa using e
  obtain ⟨f0, f1⟩ := flat_at l _ c d hk
  have ha : (⟨b, off, none⟩ : Addr).add j = ⟨b, off + j, none⟩ := by unfold Addr.add; split <;> simp_all
  rw [ha]
  rcases Nat.mod_two_eq_zero_or_one j with e | e
  · have ej : j / 2 * 2 = j := by omega
    rw [ej] at f0 h0
    rw [f0] at hj
    rw [h0, ← hj]
  · have ej : j / 2 * 2 + 1 = j := by omega
    rw [ej] at f1
    rw [Nat.add_assoc, ej] at h1
    rw [f1] at hj
    rw [h1, ← hj]
theorem infoDeal : (Try.prog.info? 140).map (fun i => (i.zero, i.size, i.bytes)) = some (some (.agg #[.slice none 0 0, .int .i64 0, .bool false, .bool false, .bool false, .bool false, .bool false, .bool false, .bool false]), 9, 40) := by kernel_rfl
theorem deal_lies {W : World} {H : Nat} {a b c d e f g h i : Value} (h0 : W.cell? ⟨H, 0, none⟩ = some a) (h1 : W.cell? ⟨H, 1, none⟩ = some b) (h2 : W.cell? ⟨H, 2, none⟩ = some c) (h3 : W.cell? ⟨H, 3, none⟩ = some d) (h4 : W.cell? ⟨H, 4, none⟩ = some e) (h5 : W.cell? ⟨H, 5, none⟩ = some f) (h6 : W.cell? ⟨H, 6, none⟩ = some g) (h7 : W.cell? ⟨H, 7, none⟩ = some h) (h8 : W.cell? ⟨H, 8, none⟩ = some i) : ∀ j u, [a, b, c, d, e, f, g, h, i][j]? = some u → W.cell? ((⟨H, 0, none⟩ : Addr).add j) = some u := by
  intro j u hj
  match j, hj with
  | 0, hj => simp at hj; subst hj; simpa [Addr.add] using h0
  | 1, hj => simp at hj; subst hj; simpa [Addr.add] using h1
  | 2, hj => simp at hj; subst hj; simpa [Addr.add] using h2
  | 3, hj => simp at hj; subst hj; simpa [Addr.add] using h3
  | 4, hj => simp at hj; subst hj; simpa [Addr.add] using h4
  | 5, hj => simp at hj; subst hj; simpa [Addr.add] using h5
  | 6, hj => simp at hj; subst hj; simpa [Addr.add] using h6
  | 7, hj => simp at hj; subst hj; simpa [Addr.add] using h7
  | 8, hj => simp at hj; subst hj; simpa [Addr.add] using h8
  | j + 9, hj => simp at hj
theorem deal_cell {ga : Option Addr} {n c : Nat} : ∀ u ∈ [Value.slice ga n c, .int .i64 0, .bool false, .bool false, .bool false, .bool false, .bool false, .bool false, .bool false], u.oneCell' = true := by
  intro u hu
  simp only [List.mem_cons, List.not_mem_nil, or_false] at hu
  rcases hu with rfl | rfl | rfl | rfl | rfl | rfl | rfl | rfl | rfl <;> rfl
theorem beginR_bad {B : Bok} {l : List (Int × Int)} (h : (chkW l).1 ≠ 0) : beginR B l = (0, (chkW l).1, B) := by unfold beginR; rw [if_neg h]
theorem beginR_full {B : Bok} {l : List (Int × Int)} (h : (chkW l).1 = 0) (h8 : 8 ≤ B.L.length) : beginR B l = (0, 6, B) := by unfold beginR; rw [if_pos h, if_pos h8]
theorem beginR_ok {B : Bok} {l : List (Int × Int)} (h : (chkW l).1 = 0) (h8 : ¬ 8 ≤ B.L.length) : beginR B l = ((B.L.length : Int), 0, { B with L := B.L ++ [⟨l, 0, [], []⟩] }) := by unfold beginR; rw [if_pos h, if_neg h8]

set_option maxHeartbeats 4000000 in
set_option maxRecDepth 100000 in
theorem rbegin_any (O : Nat → Prop) (B : Bok) (q : Nat) (la : Option Addr) (ll lc : Nat) (l : List (Int × Int)) (w : World) (h : BrkIn O w q B) (hI : BInv B) (hl : WantsAt w la l) (hll : l.length = ll) :
    Calls Try.prog 74 #[.pointer (some ⟨q, 0, none⟩), .slice la ll lc] w fun e w' => e = .returned (.tuple #[.int .i64 (beginR B l).1, .int .i64 (beginR B l).2.1]) ∧ BrkTo O w w' q (beginR B l).2.2 := by
  have HC := pcheck_any la ll lc l w hl hll
  have HI : Hid (BrkIn O w q B) := h
  by_cases hc : (chkW l).1 = 0
  · have hc' : ((chkW l).1 != 0) = false := by simp [hc]
    have hF := fit_iff.1 hc
    obtain ⟨rv, dv, P, hR, hsub⟩ := h.raw
    have c0 := hR.c0
    obtain ⟨ga, cap, rfl⟩ := own_sl hR.row
    rw [← hR.len] at c0
    have hql := h.lt
    by_cases h8 : 8 ≤ B.L.length
    · rw [beginR_full hc h8]
      have h8' : (8 : Int) ≤ (B.L.length : Int) := by omega
      clear hR hsub h hc h8 hI hF
      go_enter Try.func74, Try.ntmps74
      go_wp2_with fail
      refine HC.mono ?_
      rintro e w1 ⟨rfl, hb1⟩
      have c0' : w1.cell? ⟨q, 0, none⟩ = some (.slice ga B.L.length cap) := ((bcell hb1).1 _ _ hql).trans c0
      have hql1 : q < w1.heap.size := Nat.lt_of_lt_of_le hql hb1.size
      clear c0
      go_wp2_with fail
      go_ret2
      exact ⟨rfl, BrkTo.stay HI.out (after hb1 (by go_grown) hb1.size)⟩
    · rw [beginR_ok hc h8]
      have h8' : ¬ (8 : Int) ≤ (B.L.length : Int) := by omega
      obtain ⟨i0, hi, hz0, hz1, hz2⟩ := info_parts infoWant
      obtain ⟨j0, hj, hy0, hy1, hy2⟩ := info_parts infoDeal
      have hpos := hF.pos
      have HLen : Hid (l.length ≤ 4) := hF.few
      obtain ⟨⟨c, d⟩, hk0⟩ : ∃ x, l[0]? = some x := ⟨_, List.getElem?_eq_getElem hpos⟩
      obtain ⟨b, off, rfl, hbl, _, _⟩ := hl 0 c d hk0
      have HR : Hid (BrkRaw w q B (.slice ga P.length cap) dv P) := hR
      have HSub : Hid (∀ u ∈ (.slice ga P.length cap : Value) :: dv :: P.map Prod.snd, ∀ k, u.ownBlock = some k → O k) := hsub
      have HPl : Hid (P.length = B.L.length) := hR.len.symm
      have HLn8 : Hid (B.L.length ≤ 8) := hI.len
      have HW : Hid (WantsAt w (some ⟨b, off, none⟩) l) := hl
      have HFl : Hid ((flat l).length = l.length * 2) := flat_length l
      subst hll
      clear hR hsub h hc h8 hI hF hl hk0
      go_enter Try.func74, Try.ntmps74
      go_wp2_with fail
      refine HC.mono ?_
      rintro e w1 ⟨rfl, hb1⟩
      go_upto_region 2 with fail
      have hb2 : Below w.heap.size w (w1.alloc (.cells #[.int .i64 (chkW l).1, .int .i64 (chkW l).2] 28)) := after hb1 (by go_grown) hb1.size
      have hX := BoxAt.new w1 [.int .i64 (chkW l).1, .int .i64 (chkW l).2] 28
      have x0 := hX.2 0 _ rfl
      change (w1.alloc (.cells #[.int .i64 (chkW l).1, .int .i64 (chkW l).2] 28)).cell? _ = _ at x0
      generalize (w1.alloc (.cells #[.int .i64 (chkW l).1, .int .i64 (chkW l).2] 28)) = w2 at hb2 x0 ⊢
      generalize w1.heap.size = B1 at x0 ⊢
      have c0' : w2.cell? ⟨q, 0, none⟩ = some (.slice ga B.L.length cap) := ((bcell hb2).1 _ _ hql).trans c0
      have hql2 : q < w2.heap.size := Nat.lt_of_lt_of_le hql hb2.size
      have hf2 : ∀ k, w2.frozen? ⟨q, k, none⟩ = false := (HI.out.next hb2).loose
      have HR2 : Hid (BrkRaw w2 q B (.slice ga P.length cap) dv P) := HR.out.save hql (.of_below (O := fun _ => False) hb2) (fun q => q) (fun _ _ _ _ q => q)
      have HWc : Hid (∀ j u, (flat l)[j]? = some u → w2.cell? ((⟨b, off, none⟩ : Addr).add j) = some u) := wants_cells (HW.out.below hb2 (Nat.le_refl _))
      have HB2 : Hid _ := hb2
      clear c0 hb1 hX HC hb2 hbl
      go_upto_region 7 with fail
      have HRow : Hid (w2.ownsRow (q + 1) 140 9 (.slice ga B.L.length cap) B.L.length (flatB P)) := by
        have := HR2.out.row
        rw [HPl.out] at this
        exact this
      have HN1 : Hid (some q ≠ (.slice ga B.L.length cap : Value).ownBlock) := fun e => by have := (HRow.out.lt q e.symm).1; omega
      go_region_law
        (first | (refine step_append_two (by rfl) (.const (.slice none 0 0)) (.tmp 27) 103 (by rfl) w2.heap.size 69 i0 (.agg #[.int .i64 0, .int .i64 0]) 2 16 Try.underlying103 hi hz0 hz1 hz2 rfl (by decide) (.slice none 0 0) 0 [] (by rfl) (World.ownsRow_nil _ _ _ _) ⟨b, off, none⟩ l.length lc (flat l) (by rfl) HFl.out (fun j u hj => HWc.out j u hj) (flat_one _) (by have := HLen.out; unfold maxLen; omega) (by have := HLen.out; omega) (by simp) hpos ?_; intro v7 w7 hown7 hgrow7 hwh7; have hown7' : w7.ownsRow w2.heap.size 69 2 v7 l.length (flat l) := (by simpa using hown7); clear hown7; obtain ⟨ga7, cap7, rfl⟩ := own_sl hown7'; have HO7 : Hid (w7.ownsRow w2.heap.size 69 2 (.slice ga7 l.length cap7) l.length (flat l)) := hown7'; clear hown7' hwh7; have HB7 : Hid (Below w2.heap.size w2 w7) := (((Below.refl _ _).drew).grown hgrow7 (by simp) (fun k e => by simp [Value.ownBlock] at e)); have hz7 : w2.heap.size ≤ w7.heap.size := HB7.out.size; have hq7 : q < w7.heap.size := Nat.lt_of_lt_of_le hql2 hz7; have k7 : w7.cell? ⟨q, 0, none⟩ = some (.slice ga B.L.length cap) := ((bcell HB7.out).1 _ _ hql2).trans c0'; have f7 : ∀ k, w7.frozen? ⟨q, k, none⟩ = false := loose q HB7.out hql2 hf2; clear hgrow7) | (refine step_append_two (by rfl) (.tmp 26) (.tmp 30) 134 (by rfl) (q + 1) 140 j0 (.agg #[.slice none 0 0, .int .i64 0, .bool false, .bool false, .bool false, .bool false, .bool false, .bool false, .bool false]) 9 40 Try.underlying134 hj hy0 hy1 hy2 rfl (by decide) (.slice ga B.L.length cap) _ _ (by rfl) (own_next (own_next HRow.out HB7.out) ((Below.refl _ _).alloc (Nat.le_refl _) _)) ⟨w7.heap.size, 0, none⟩ 1 1 [.slice ga7 l.length cap7, .int .i64 0, .bool false, .bool false, .bool false, .bool false, .bool false, .bool false, .bool false] (by rfl) rfl (deal_lies (by simp [go_sem]) (by simp [go_sem]) (by simp [go_sem]) (by simp [go_sem]) (by simp [go_sem]) (by simp [go_sem]) (by simp [go_sem]) (by simp [go_sem]) (by simp [go_sem])) deal_cell (by have := HLn8.out; unfold maxLen; omega) (by have := HLn8.out; omega) (by simp; omega) (by decide) ?_; intro v8 w8 hown8 hgrow8 hwh8; obtain ⟨ga8, cap8, rfl⟩ := own_sl hown8; have HO8 : Hid (w8.ownsRow (q + 1) 140 9 (.slice ga8 (B.L.length + 1) cap8) (B.L.length + 1) (flatB P ++ [.slice ga7 l.length cap7, .int .i64 0, .bool false, .bool false, .bool false, .bool false, .bool false, .bool false, .bool false])) := hown8; clear hown8; have HW8 : Hid _ := hwh8; clear hwh8; have k8 : w8.cell? ⟨q, 0, none⟩ = some (.slice ga B.L.length cap) := hgrow8.cell (by simp [go_sem, k7, hq7]) HN1.out; have f8 : ∀ k, w8.frozen? ⟨q, k, none⟩ = false := fun k => (World.frozen?_of_block (hgrow8.block q (by simp; omega) HN1.out)).trans (by simp [go_sem, f7, hq7])))
      all_goals
        go_wp2_with fail
        go_ret2
        have hr7 : w7.ownsRow (q + 1) 69 2 (.slice ga7 l.length cap7) l.length (flat l) := by
          refine ⟨HO7.out.1, HO7.out.2.imp id ?_⟩
          rintro ⟨g, cap, cur, h1, h2, h3⟩
          exact ⟨g, cap, cur, h1, by omega, h3⟩
        have hB0 : Below w.heap.size w w7 := after HB2.out HB7.out HB2.out.size
        have h8 : Save (fun k => (Value.slice ga B.L.length cap).ownBlock = some k) w7 w8 := (Save.of_below (by go_grown)).grown hgrow8 (fun k e _ => e)
        have hR9 := HR.out.begin (l := l) (v7 := .slice ga7 l.length cap7) (v8 := .slice ga8 (B.L.length + 1) cap8) hql (HI.out.rows HSub.out) hB0 hr7 (fun j hj => ⟨Nat.le_trans HB2.out.size (HO7.out.lt j hj).1, (HO7.out.lt j hj).2⟩) (by rw [HPl.out]; exact h8) (by rw [HPl.out]; exact HO8.out) (fun j hj => by rw [HPl.out]; exact (HW8.out j hj).imp id (fun e => by rw [e]; simp))
        refine ⟨rfl, brk_to HI.out.own HI.out.mine ?_ hR9 (by simpa [go_sem] using f8) ?_⟩
        · exact (((Save.of_below hB0).trans h8 (fun j _ e => HSub.out _ List.mem_cons_self j (by rw [HPl.out]; exact e)))).setCell (p := ⟨q, 0, none⟩) (fun _ => HI.out.mine) _
        · intro u hu k hk
          have hsz : (w8.setCell (⟨q, 0, none⟩ : Addr) (.slice ga8 (B.L.length + 1) cap8)).heap.size = w8.heap.size := by simp
          rw [hsz]
          have z1 := hB0.size
          have z8 := h8.size
          have old : ∀ x ∈ (.slice ga P.length cap : Value) :: dv :: P.map Prod.snd, x.ownBlock = some k → (O k ∨ w.heap.size ≤ k) ∧ k < w8.heap.size := fun x hx hk => ⟨.inl (HSub.out x hx k hk), by have := HI.out.own k (HSub.out x hx k hk); omega⟩
          rw [List.map_append] at hu
          rcases List.mem_cons.1 hu with rfl | hu
          · refine ⟨?_, (HO8.out.lt k hk).2⟩
            rcases HW8.out k hk with e | e
            · exact (old _ List.mem_cons_self (by rw [HPl.out]; exact e)).1
            · right
              simp at e
              omega
          · rcases List.mem_cons.1 hu with rfl | hu
            · exact old _ (by simp) hk
            · rcases List.mem_append.1 hu with hu | hu
              · exact old _ (by simp [hu]) hk
              · simp at hu
                subst hu
                have := HO7.out.lt k hk
                have := HB2.out.size
                exact ⟨.inr (by omega), by omega⟩
  · rw [beginR_bad hc]
    have hc' : ((chkW l).1 != 0) = true := by simpa using hc
    clear h hc hI
    go_enter Try.func74, Try.ntmps74
    go_wp2_with fail
    refine HC.mono ?_
    rintro e w1 ⟨rfl, hb1⟩
    go_wp2_with fail
    go_quiet (fail)
    go_wp2_with fail
    go_ret2
    exact ⟨rfl, BrkTo.stay HI.out (bdrewN (after hb1 (by go_grown) hb1.size) _)⟩

end Go.Proofs.Ytbgnajcmhmpjlab

/- The contracts of slices.Index over wants and over numbers, and of slices.Contains. -/
namespace Go.Proofs.Ytbgnajcmhmpjlab
open Go.RowKit

theorem eqWn (a b c d : Int) (W : World) : (Op.equalIn 10000 69 (.agg #[.int .i64 a, .int .i64 b]) (.agg #[.int .i64 c, .int .i64 d])).run Try.prog W = .ok (a == c && b == d) W := by
  rw [show (10000 : Nat) = 9999 + 1 from rfl]
  simp [Op.eqFields, go_sem]
  repeat' split
  all_goals simp_all
/-- Index's answer. -/
def ixW (l : List (Int × Int)) (c d : Int) : Int := match wantAt l c d with
  | some k => (k : Int)
  | none => -1
theorem ixW_hit {l : List (Int × Int)} {k : Nat} {c d : Int} (h : l[k]? = some (c, d)) (hn : (c, d) ∉ l.take k) : ixW l c d = (k : Int) := by
  have : wantAt l c d = some k := by
    unfold wantAt
    obtain ⟨hk, hx⟩ := List.getElem?_eq_some_iff.1 h
    rw [List.findIdx?_eq_some_iff_getElem]
    refine ⟨hk, by rw [hx]; simp, fun j hj => ?_⟩
    simp only [Bool.not_eq_true, Bool.and_eq_false_imp, beq_iff_eq, beq_eq_false_iff_ne, ne_eq]
    intro e1 e2
    refine hn ?_
    have hm : l[j] ∈ l.take k := by
      rw [List.mem_take_iff_getElem]
      exact ⟨j, by omega, rfl⟩
    rw [show (c, d) = l[j] from (Prod.ext e1 e2).symm]
    exact hm
  unfold ixW
  rw [this]
theorem ixW_miss {l : List (Int × Int)} {c d : Int} (h : (c, d) ∉ l) : ixW l c d = -1 := by
  have : wantAt l c d = none := by
    unfold wantAt
    rw [List.findIdx?_eq_none_iff]
    intro x hx
    simp only [Bool.and_eq_false_imp, beq_iff_eq, beq_eq_false_iff_ne, ne_eq]
    intro e1 e2
    exact h (by rw [← e1, ← e2]; exact hx)
  unfold ixW
  rw [this]
theorem not_take_next {l : List (Int × Int)} {k : Nat} {c d a b : Int} (h : (c, d) ∉ l.take k) (hk : l[k]? = some (a, b)) (he : (c == a && d == b) = false) : (c, d) ∉ l.take (k + 1) := by
  rw [take_snoc hk, List.mem_append, List.mem_singleton]
  rintro (q | q)
  · exact h q
  · obtain ⟨rfl, rfl⟩ := Prod.mk.inj q
    simp at he

set_option maxHeartbeats 1000000 in
theorem ridx_any (la : Option Addr) (n cap : Nat) (l : List (Int × Int)) (c d : Int) (w : World) (hl : WantsAt w la l) (hll : l.length = n) (hs : n < 1000) :
    Calls Try.prog 110 #[.slice la n cap, .agg #[.int .i64 c, .int .i64 d]] w fun e w' => e = .returned (.int .i64 (ixW l c d)) ∧ Below w.heap.size w w' := by
  go_enter Try.func110, Try.ntmps110
  go_upto_region 1 with fail
  have hX := BoxAt.new w [.int .i64 c, .int .i64 d] 69
  have hb1 : Below w.heap.size w (w.alloc (.cells #[.int .i64 c, .int .i64 d] 69)) := (Below.refl _ _).alloc (Nat.le_refl _) _
  change BoxAt (w.alloc (.cells #[.int .i64 c, .int .i64 d] 69)) _ _ at hX
  generalize (w.alloc (.cells #[.int .i64 c, .int .i64 d] 69)) = w1 at hX hb1 ⊢
  generalize w.heap.size = B at hX ⊢
  have hl1 : WantsAt w1 la l := hl.below hb1 (Nat.le_refl _)
  clear hl
  go_wp2_with fail
  go_loopg [5, 8] n (fun gg _ s8 wr => ∃ k : Nat, k ≤ n ∧ gg = n - k ∧ s8 = .int .i64 k ∧ Hid ((c, d) ∉ l.take k) ∧ Below w1.heap.size w1 wr)
  case atStart => exact ⟨0, Nat.zero_le _, rfl, rfl, by simp [Hid], Below.refl _ _⟩
  case round =>
    obtain ⟨k, hk, rfl, rfl, HE, hS⟩ := hrel
    by_cases hlt : k < n
    · obtain ⟨⟨a, b⟩, hkl⟩ : ∃ x, l[k]? = some x := ⟨_, List.getElem?_eq_getElem (by omega)⟩
      obtain ⟨bl, ol, rfl, hbl, h0, h1⟩ := hl1 k a b hkl
      have j0 : (0 : Int) ≤ (k : Int) := by omega
      have j1 : (k : Int) < (n : Int) := by omega
      have j2 : (n : Int) < 1000 := by omega
      have p0 : wr.cell? ⟨bl, ol + k * 2, none⟩ = some (.int .i64 a) := (hS.cell (p := ⟨bl, ol + k * 2, none⟩) hbl).trans h0
      have p1 : wr.cell? ⟨bl, ol + k * 2 + 1, none⟩ = some (.int .i64 b) := (hS.cell (p := ⟨bl, ol + k * 2 + 1, none⟩) hbl).trans h1
      have hX2 := hX.next hS
      have x0 := hX2.2 0 _ rfl
      have x1 := hX2.2 1 _ rfl
      clear h0 h1 hl1 hX2
      cases hq : (c == a && d == b) with
      | false =>
        have HE2 : Hid _ := not_take_next HE.out hkl hq
        have hq1 : ∀ W : World, (Op.equalIn 10000 69 (.agg #[.int .i64 c, .int .i64 d]) (.agg #[.int .i64 a, .int .i64 b])).run Try.prog W = .ok false W := fun W => by rw [eqWn, hq]
        clear hq hkl
        go_wp2_with fail
        go_quiet (fail)
        go_wp2_with fail
        go_roundg (n - (k + 1))
        case measure => omega
        case rel => exact ⟨k + 1, by omega, rfl, by simp, HE2, bdrewN hS _⟩
      | true =>
        have hq1 : ∀ W : World, (Op.equalIn 10000 69 (.agg #[.int .i64 c, .int .i64 d]) (.agg #[.int .i64 a, .int .i64 b])).run Try.prog W = .ok true W := fun W => by rw [eqWn, hq]
        have HE2 : Hid (ixW l c d = (k : Int)) := by
          simp only [Bool.and_eq_true, beq_iff_eq] at hq
          obtain ⟨rfl, rfl⟩ := hq
          exact ixW_hit hkl HE.out
        clear hq hkl
        go_wp2_with fail
        go_quiet (fail)
        go_wp2_with fail
        go_ret
        exact ⟨ret_int HE2.out.symm, bdrewN (hb1.trans (hS.mono hb1.size)) _⟩
    · have hkk : k = n := by omega
      subst hkk
      go_wp2_with fail
      go_ret
      refine ⟨ret_int ?_, hb1.trans (hS.mono hb1.size)⟩
      have q := HE.out
      rw [List.take_of_length_le (by omega)] at q
      exact (ixW_miss q).symm

/-- The place of a number. -/
def IxN (l : List Int) (x r : Int) : Prop := (0 ≤ r ∧ x ∈ l) ∨ (r = -1 ∧ x ∉ l)
set_option maxHeartbeats 1000000 in
theorem ridn_any (la : Option Addr) (n cap : Nat) (l : List Int) (x : Int) (w : World) (hl : NumsAt w la l) (hll : l.length = n) (hs : n < 1000) :
    Calls Try.prog 117 #[.slice la n cap, .int .i64 x] w fun e w' => (∃ r, e = .returned (.int .i64 r) ∧ IxN l x r) ∧ w' = w := by
  go_enter Try.func117, Try.ntmps117
  go_wp2_with fail
  go_loopg [5, 8] n (fun gg _ s8 wr => ∃ k : Nat, k ≤ n ∧ gg = n - k ∧ s8 = .int .i64 k ∧ Hid (x ∉ l.take k) ∧ w = wr)
  case atStart => exact ⟨0, Nat.zero_le _, rfl, rfl, by simp [Hid], rfl⟩
  case round =>
    obtain ⟨k, hk, rfl, rfl, HE, rfl⟩ := hrel
    by_cases hlt : k < n
    · obtain ⟨a, hkl⟩ : ∃ x, l[k]? = some x := ⟨_, List.getElem?_eq_getElem (by omega)⟩
      obtain ⟨bl, ol, rfl, hbl, h0⟩ := hl k a hkl
      have j0 : (0 : Int) ≤ (k : Int) := by omega
      have j1 : (k : Int) < (n : Int) := by omega
      have j2 : (n : Int) < 1000 := by omega
      clear hl
      by_cases he : x = a
      · have he' : (x == a) = true := by simp [he]
        have HE2 : Hid (x ∈ l) := by rw [he]; exact List.mem_of_getElem? hkl
        clear he
        go_wp2_with fail
        go_ret
        exact ⟨⟨_, rfl, .inl ⟨by omega, HE2.out⟩⟩, rfl⟩
      · have he' : (x == a) = false := by simpa using he
        have HE2 : Hid (x ∉ l.take (k + 1)) := by
          show ¬ _
          rw [take_snoc hkl, List.mem_append, List.mem_singleton]
          rintro (q | q)
          · exact HE.out q
          · exact he q
        clear he
        go_wp2_with fail
        go_roundg (n - (k + 1))
        case measure => omega
        case rel => exact ⟨k + 1, by omega, rfl, by simp, HE2, rfl⟩
    · have hkk : k = n := by omega
      subst hkk
      go_wp2_with fail
      go_ret
      refine ⟨⟨_, rfl, .inr ⟨rfl, ?_⟩⟩, rfl⟩
      have q := HE.out
      rw [List.take_of_length_le (by omega)] at q
      exact q
theorem rcon_any (la : Option Addr) (n cap : Nat) (l : List Int) (x : Int) (w : World) (hl : NumsAt w la l) (hll : l.length = n) (hs : n < 1000) :
    Calls Try.prog 111 #[.slice la n cap, .int .i64 x] w fun e w' => e = .returned (.bool (decide (x ∈ l))) ∧ w' = w := by
  have HC := ridn_any la n cap l x w hl hll hs
  clear hl
  go_enter Try.func111, Try.ntmps111
  go_wp2_with fail
  refine HC.mono ?_
  rintro e w' ⟨⟨r, rfl, hr⟩, rfl⟩
  rcases hr with ⟨h0, h1⟩ | ⟨rfl, h1⟩
  · have HE : Hid (x ∈ l) := h1
    clear h1
    go_wp2_with fail
    go_ret
    exact ⟨ret_bool (decide_eq_true HE.out).symm, rfl⟩
  · have HE : Hid (x ∉ l) := h1
    clear h1
    go_wp2_with fail
    go_ret
    exact ⟨ret_bool (decide_eq_false HE.out).symm, rfl⟩

end Go.Proofs.Ytbgnajcmhmpjlab

/- How mails lie in memory. -/
namespace Go.Proofs.Ytbgnajcmhmpjlab
open Go.RowKit

/-- A list of mails as memory holds it. -/
def MailsAt (w : World) (la : Option Addr) (l : List Ml) : Prop := ∀ k x, l[k]? = some x → ∃ b off, la = some ⟨b, off, none⟩ ∧ b < w.heap.size ∧ ∀ j v, x.cells[j]? = some v → w.cell? ⟨b, off + k * 6 + j, none⟩ = some v
theorem MailsAt.below {w w' : World} {B : Nat} {la : Option Addr} {l : List Ml} (h : MailsAt w la l) (hb : Below B w w') (hB : w.heap.size ≤ B) : MailsAt w' la l := by
  intro k x hk
  obtain ⟨b, off, e, hlt, h0⟩ := h k x hk
  have hb' : b < B := by omega
  exact ⟨b, off, e, Nat.lt_of_lt_of_le hlt hb.size, fun j v hj => (hb.cell (p := ⟨b, _, none⟩) hb').trans (h0 j v hj)⟩
/-- A list of mails, cell by cell. -/
def flat6 (l : List Ml) : List Value := l.flatMap Ml.cells
theorem flat6_length (l : List Ml) : (flat6 l).length = l.length * 6 := by
  unfold flat6
  induction l with
  | nil => rfl
  | cons x r ih => rw [List.flatMap_cons, List.length_append, ih]; simp [Ml.cells]; omega
theorem flat6_append (l m : List Ml) : flat6 (l ++ m) = flat6 l ++ flat6 m := by unfold flat6; simp
theorem flat6_snoc (l : List Ml) (x : Ml) : flat6 (l ++ [x]) = flat6 l ++ x.cells := by unfold flat6; simp
theorem flat6_at (l : List Ml) : ∀ k x, l[k]? = some x → ∀ j v, x.cells[j]? = some v → (flat6 l)[k * 6 + j]? = some v := by
  intro k x h j v hj
  have hk := (List.getElem?_eq_some_iff.1 h).1
  have hj6 : j < 6 := (List.getElem?_eq_some_iff.1 hj).1
  have e : l = l.take k ++ x :: l.drop (k + 1) := by rw [← drop_cons h, List.take_append_drop]
  have hl : (flat6 (l.take k)).length = k * 6 := by rw [flat6_length, List.length_take, Nat.min_eq_left (by omega)]
  have e2 : flat6 l = flat6 (l.take k) ++ (x.cells ++ flat6 (l.drop (k + 1))) := by
    conv => lhs; rw [e]
    rw [flat6_append]
    rfl
  rw [e2, List.getElem?_append_right (by omega), hl, show k * 6 + j - k * 6 = j by omega, List.getElem?_append_left (by simpa [Ml.cells] using hj6)]
  exact hj
theorem flat6_one (l : List Ml) : ∀ u ∈ flat6 l, u.oneCell' = true := by
  intro u hu
  unfold flat6 at hu
  rw [List.mem_flatMap] at hu
  obtain ⟨x, _, hx⟩ := hu
  simp only [Ml.cells, List.mem_cons, List.not_mem_nil, or_false] at hx
  rcases hx with rfl | rfl | rfl | rfl | rfl | rfl <;> rfl
theorem mails_of_own {w : World} {B e n : Nat} {v : Value} {l : List Ml} (h : w.ownsRow B e 6 v n (flat6 l)) : ∃ ga cap, v = .slice ga n cap ∧ MailsAt w ga l ∧ l.length = n := by
  have hn : l.length = n := by have := h.1; rw [flat6_length] at this; omega
  rcases h.2 with ⟨e1, e0⟩ | ⟨g, cap, cur, e1, hb, hg, hc, hm, hz, ht⟩
  · refine ⟨none, 0, by rw [e1, e0], ?_, hn⟩
    intro k x hk
    have := (List.getElem?_eq_some_iff.1 hk).1
    omega
  · refine ⟨_, cap, e1, fun k x hk => ⟨g, 0, rfl, (Array.getElem?_eq_some_iff.1 hg).1, fun j u hj => ?_⟩, hn⟩
    have hk' := (List.getElem?_eq_some_iff.1 hk).1
    have hj6 : j < 6 := (List.getElem?_eq_some_iff.1 hj).1
    have hu := flat6_at l k x hk j u hj
    have h1 : (cur.toList.take (n * 6))[k * 6 + j]? = (flat6 l)[k * 6 + j]? := by rw [ht]
    rw [List.getElem?_take_of_lt (by omega), hu] at h1
    simp only [World.cell?, hg]
    simpa using h1
theorem MailsAt.save {O : Nat → Prop} {w w' : World} {la : Option Addr} {l : List Ml} (h : MailsAt w la l) (hb : Save O w w') (hn : ∀ a, la = some a → ¬ O a.block) : MailsAt w' la l := by
  intro k x hk
  obtain ⟨b, off, e, hlt, h0⟩ := h k x hk
  have hn' : ¬ O b := hn _ e
  exact ⟨b, off, e, Nat.lt_of_lt_of_le hlt hb.size, fun j v hj => (hb.cell (p := ⟨b, _, none⟩) hlt hn').trans (h0 j v hj)⟩

end Go.Proofs.Ytbgnajcmhmpjlab

/- A post, and the document's bag, as memory holds them: one cell, the head of a row of mails. -/
namespace Go.Proofs.Ytbgnajcmhmpjlab
open Go.RowKit

/-- A post, or a bag, whose mails are l, at the place o of the block p, in blocks of O. -/
structure MailIn (O : Nat → Prop) (w : World) (p o : Nat) (l : List Ml) : Prop where
  own : ∀ k, O k → k < w.heap.size
  mine : O p
  loose : ∀ k, w.frozen? ⟨p, k, none⟩ = false
  raw : ∃ mv, w.cell? ⟨p, o, none⟩ = some mv ∧ w.ownsRow (p + 1) 71 6 mv l.length (flat6 l) ∧ ∀ k, mv.ownBlock = some k → O k
/-- All other cells of the block p are as they were. -/
def Rest (p o : Nat) (w w' : World) : Prop := ∀ j, j ≠ o → w'.cell? ⟨p, j, none⟩ = w.cell? ⟨p, j, none⟩
theorem Rest.refl (p o : Nat) (w : World) : Rest p o w w := fun _ _ => rfl
theorem Rest.trans {p o : Nat} {a b c : World} (h : Rest p o a b) (k : Rest p o b c) : Rest p o a c := fun j hj => (k j hj).trans (h j hj)
theorem Rest.below {p o : Nat} {a b : World} (h : Below a.heap.size a b) (hp : p < a.heap.size) : Rest p o a b := fun j _ => h.cell (p := ⟨p, j, none⟩) hp
theorem Rest.set {p o : Nat} (a : World) (u : Value) : Rest p o a (a.setCell ⟨p, o, none⟩ u) := fun _ hj => cell_set_off hj
theorem Rest.grown {p o : Nat} {a b : World} {row : Option Nat} (h : a.grownBy b row) (hp : p < a.heap.size) (hn : some p ≠ row) : Rest p o a b := fun _ _ => World.cell?_of_block (h.block p hp hn)

theorem MailIn.lt {O : Nat → Prop} {w : World} {p o : Nat} {l : List Ml} (h : MailIn O w p o l) : p < w.heap.size := h.own p h.mine
theorem MailIn.save {O O' : Nat → Prop} {w w1 : World} {p o : Nat} {l : List Ml} (h : MailIn O w p o l) (hb : Save O' w w1) (hn : ∀ k, O k → ¬ O' k) : MailIn O w1 p o l := by
  obtain ⟨mv, h1, h2, h3⟩ := h.raw
  have hl := h.lt
  exact ⟨fun k hk => Nat.lt_of_lt_of_le (h.own k hk) hb.size, h.mine, fun k => (hb.frozen (p := ⟨p, k, none⟩) hl (hn p h.mine)).trans (h.loose k), mv, (hb.cell (p := ⟨p, o, none⟩) hl (hn p h.mine)).trans h1, own_save h2 hb (fun k hk => hn k (h3 k hk)), h3⟩
theorem MailIn.next {O : Nat → Prop} {w w1 : World} {p o : Nat} {l : List Ml} (h : MailIn O w p o l) (hb : Below w.heap.size w w1) : MailIn O w1 p o l :=
  h.save (O' := fun _ => False) (.of_below hb) (fun _ _ q => q)
theorem MailIn.wide {O O' : Nat → Prop} {w : World} {p o : Nat} {l : List Ml} (h : MailIn O w p o l) (hO : ∀ k, O k → O' k) (hl : ∀ k, O' k → k < w.heap.size) : MailIn O' w p o l := by
  obtain ⟨mv, h1, h2, h3⟩ := h.raw
  exact ⟨hl, hO p h.mine, h.loose, mv, h1, h2, fun k hk => hO k (h3 k hk)⟩
/-- What a step leaves: the mails are l', all but O is as it was, all other cells of p are. -/
def Sent (O : Nat → Prop) (w w' : World) (p o : Nat) (l' : List Ml) : Prop := ∃ O', MailIn O' w' p o l' ∧ Save O w w' ∧ Moved O O' w ∧ Rest p o w w'
theorem Sent.stay {O : Nat → Prop} {w w' : World} {p o : Nat} {l : List Ml} (h : MailIn O w p o l) (hb : Below w.heap.size w w') : Sent O w w' p o l := ⟨O, h.next hb, .of_below hb, .refl _ _, .below hb h.lt⟩
/-- A step behind a call that made memory alone. -/
theorem Sent.behind {O : Nat → Prop} {w w1 w' : World} {p o : Nat} {l l' : List Ml} (h : MailIn O w p o l) (hb : Below w.heap.size w w1) (hs : Sent O w1 w' p o l') : Sent O w w' p o l' := by
  obtain ⟨O', h1, h2, h3, h4⟩ := hs
  exact ⟨O', h1, (Save.of_below hb).trans h2 (fun _ _ hj => hj), fun k hk => (h3 k hk).imp id (fun q => Nat.le_trans hb.size q), (Rest.below hb h.lt).trans h4⟩
/-- A new row's head is stored. -/
theorem sent_store {O : Nat → Prop} {w w8 : World} {p o : Nat} {l' : List Ml} {mv v8 : Value} (hO : ∀ k, O k → k < w.heap.size) (hm : O p) (hS : Save O w w8) (hR : Rest p o w w8) (hf : ∀ k, w8.frozen? ⟨p, k, none⟩ = false) (hc : w8.cell? ⟨p, o, none⟩ = some mv) (hrow : w8.ownsRow (p + 1) 71 6 v8 l'.length (flat6 l')) (hw : ∀ k, v8.ownBlock = some k → O k ∨ w.heap.size ≤ k) : Sent O w (w8.setCell ⟨p, o, none⟩ v8) p o l' := by
  refine ⟨fun k => O k ∨ v8.ownBlock = some k, ⟨fun k hk => ?_, .inl hm, by simpa [go_sem] using hf, v8, cell_set_same hc, ownsRow_setCell_below hrow (Nat.lt_succ_self p) _, fun k hk => .inr hk⟩, hS.setCell (p := ⟨p, o, none⟩) (fun _ => hm) _, fun k hk => hk.elim .inl (hw k), hR.trans (Rest.set _ _)⟩
  show k < (w8.setCell _ _).heap.size
  rw [show (w8.setCell (⟨p, o, none⟩ : Addr) v8).heap.size = w8.heap.size by simp]
  rcases hk with hk | hk
  · exact Nat.lt_of_lt_of_le (hO k hk) hS.size
  · exact (hrow.lt k hk).2

def mlV (m : Ml) : Value := .agg #[.int .i64 m.kind, .int .i64 m.deal, .int .i64 m.shop, .int .i64 m.c, .int .i64 m.d, .bool m.yes]
theorem infoMail : (Try.prog.info? 71).map (fun i => (i.zero, i.size, i.bytes)) = some (some (.agg #[.int .i64 0, .int .i64 0, .int .i64 0, .int .i64 0, .int .i64 0, .bool false]), 6, 48) := by kernel_rfl
theorem mail_lies {W : World} {H : Nat} {a b c d e f : Value} (h0 : W.cell? ⟨H, 0, none⟩ = some a) (h1 : W.cell? ⟨H, 1, none⟩ = some b) (h2 : W.cell? ⟨H, 2, none⟩ = some c) (h3 : W.cell? ⟨H, 3, none⟩ = some d) (h4 : W.cell? ⟨H, 4, none⟩ = some e) (h5 : W.cell? ⟨H, 5, none⟩ = some f) : ∀ j u, [a, b, c, d, e, f][j]? = some u → W.cell? ((⟨H, 0, none⟩ : Addr).add j) = some u := by
  intro j u hj
  match j, hj with
  | 0, hj => simp at hj; subst hj; simpa [Addr.add] using h0
  | 1, hj => simp at hj; subst hj; simpa [Addr.add] using h1
  | 2, hj => simp at hj; subst hj; simpa [Addr.add] using h2
  | 3, hj => simp at hj; subst hj; simpa [Addr.add] using h3
  | 4, hj => simp at hj; subst hj; simpa [Addr.add] using h4
  | 5, hj => simp at hj; subst hj; simpa [Addr.add] using h5
  | j + 6, hj => simp at hj
theorem mail_cell {a b c d e : Int} {f : Bool} : ∀ u ∈ [Value.int .i64 a, .int .i64 b, .int .i64 c, .int .i64 d, .int .i64 e, .bool f], u.oneCell' = true := by
  intro u hu
  simp only [List.mem_cons, List.not_mem_nil, or_false] at hu
  rcases hu with rfl | rfl | rfl | rfl | rfl | rfl <;> rfl
theorem eqMl (a b : Ml) (W : World) : (Op.equalIn 10000 71 (.agg #[.int .i64 a.kind, .int .i64 a.deal, .int .i64 a.shop, .int .i64 a.c, .int .i64 a.d, .bool a.yes]) (.agg #[.int .i64 b.kind, .int .i64 b.deal, .int .i64 b.shop, .int .i64 b.c, .int .i64 b.d, .bool b.yes])).run Try.prog W = .ok (eqM a b) W := by
  unfold eqM
  rw [show (10000 : Nat) = 9999 + 1 from rfl]
  simp [Op.eqFields, go_sem]
  repeat' split
  all_goals simp_all

end Go.Proofs.Ytbgnajcmhmpjlab

/- The contract of SameMail. -/
namespace Go.Proofs.Ytbgnajcmhmpjlab
open Go.RowKit

theorem same6_of {l m : List Ml} (k : Nat) (h : l.take k = m.take k) {c c' : Ml} (h1 : l[k]? = some c) (h2 : m[k]? = some c') (he : eqM c c' = true) : l.take (k + 1) = m.take (k + 1) := by
  rw [take_snoc h1, take_snoc h2, h, eqM_iff.1 he]
theorem other6_of {l m : List Ml} (k : Nat) {c c' : Ml} (h1 : l[k]? = some c) (h2 : m[k]? = some c') (he : eqM c c' = false) : ¬ l = m := by
  intro e
  rw [e, h2] at h1
  rw [eqM_iff.2 (Option.some.inj h1).symm] at he
  cases he

/-- A Bool that tells whether two lists are the same. -/
def TellsM (b : Bool) (l m : List Ml) : Prop := b = true ↔ l = m
theorem tellsM_no {l m : List Ml} (h : ¬ l = m) : TellsM false l m := ⟨fun q => (nomatch q), fun q => absurd q h⟩

set_option maxHeartbeats 1000000 in
theorem sameMail_any (la lb : Option Addr) (na nb ca cb : Nat) (l m : List Ml) (w : World) (hl : MailsAt w la l) (hm : MailsAt w lb m) (h1 : l.length = na) (h2 : m.length = nb) (hs : na < 2 ^ 62) :
    Calls Try.prog 39 #[.slice la na ca, .slice lb nb cb] w fun e w' => (∃ b, e = .returned (.bool b) ∧ TellsM b l m) ∧ Below w.heap.size w w' := by
  by_cases hn : na = nb
  · subst hn
    have hnn : ((na : Int) != (na : Int)) = false := by simp
    go_enter Try.func39, Try.ntmps39
    go_wp2_with fail
    go_loopg [5] na (fun g i wr => ∃ k : Nat, k ≤ na ∧ g = na - k ∧ i = .int .i64 k ∧ Hid (l.take k = m.take k) ∧ Below w.heap.size w wr)
    case atStart => exact ⟨0, Nat.zero_le _, rfl, rfl, rfl, Below.refl _ _⟩
    case round =>
      obtain ⟨k, hk, rfl, rfl, HE, hS⟩ := hrel
      by_cases hlt : k < na
      · obtain ⟨x, hc⟩ : ∃ x, l[k]? = some x := ⟨_, List.getElem?_eq_getElem (by omega)⟩
        obtain ⟨y, hc'⟩ : ∃ x, m[k]? = some x := ⟨_, List.getElem?_eq_getElem (by omega)⟩
        obtain ⟨b1, o1, rfl, hb1, r⟩ := hl k x hc
        obtain ⟨b2, o2, rfl, hb2, s⟩ := hm k y hc'
        have p0 : wr.cell? ⟨b1, o1 + k * 6, none⟩ = some (.int .i64 x.kind) := (hS.cell (p := ⟨b1, _, none⟩) hb1).trans (r 0 _ rfl)
        have p1 : wr.cell? ⟨b1, o1 + k * 6 + 1, none⟩ = some (.int .i64 x.deal) := (hS.cell (p := ⟨b1, _, none⟩) hb1).trans (r 1 _ rfl)
        have p2 : wr.cell? ⟨b1, o1 + k * 6 + 2, none⟩ = some (.int .i64 x.shop) := (hS.cell (p := ⟨b1, _, none⟩) hb1).trans (r 2 _ rfl)
        have p3 : wr.cell? ⟨b1, o1 + k * 6 + 3, none⟩ = some (.int .i64 x.c) := (hS.cell (p := ⟨b1, _, none⟩) hb1).trans (r 3 _ rfl)
        have p4 : wr.cell? ⟨b1, o1 + k * 6 + 4, none⟩ = some (.int .i64 x.d) := (hS.cell (p := ⟨b1, _, none⟩) hb1).trans (r 4 _ rfl)
        have p5 : wr.cell? ⟨b1, o1 + k * 6 + 5, none⟩ = some (.bool x.yes) := (hS.cell (p := ⟨b1, _, none⟩) hb1).trans (r 5 _ rfl)
        have q0 : wr.cell? ⟨b2, o2 + k * 6, none⟩ = some (.int .i64 y.kind) := (hS.cell (p := ⟨b2, _, none⟩) hb2).trans (s 0 _ rfl)
        have q1 : wr.cell? ⟨b2, o2 + k * 6 + 1, none⟩ = some (.int .i64 y.deal) := (hS.cell (p := ⟨b2, _, none⟩) hb2).trans (s 1 _ rfl)
        have q2 : wr.cell? ⟨b2, o2 + k * 6 + 2, none⟩ = some (.int .i64 y.shop) := (hS.cell (p := ⟨b2, _, none⟩) hb2).trans (s 2 _ rfl)
        have q3 : wr.cell? ⟨b2, o2 + k * 6 + 3, none⟩ = some (.int .i64 y.c) := (hS.cell (p := ⟨b2, _, none⟩) hb2).trans (s 3 _ rfl)
        have q4 : wr.cell? ⟨b2, o2 + k * 6 + 4, none⟩ = some (.int .i64 y.d) := (hS.cell (p := ⟨b2, _, none⟩) hb2).trans (s 4 _ rfl)
        have q5 : wr.cell? ⟨b2, o2 + k * 6 + 5, none⟩ = some (.bool y.yes) := (hS.cell (p := ⟨b2, _, none⟩) hb2).trans (s 5 _ rfl)
        have j0 : (0 : Int) ≤ (k : Int) := by omega
        have j1 : (k : Int) < (na : Int) := by omega
        have j2 : (na : Int) < 2 ^ 62 := by omega
        clear r s hl hm
        cases hq : eqM x y with
        | true =>
          have hq1 : ∀ W : World, (Op.equalIn 10000 71 (.agg #[.int .i64 x.kind, .int .i64 x.deal, .int .i64 x.shop, .int .i64 x.c, .int .i64 x.d, .bool x.yes]) (.agg #[.int .i64 y.kind, .int .i64 y.deal, .int .i64 y.shop, .int .i64 y.c, .int .i64 y.d, .bool y.yes])).run Try.prog W = .ok true W := fun W => by rw [eqMl, hq]
          have HE2 : Hid _ := same6_of k HE.out hc hc' hq
          clear hq hc hc'
          go_wp2_with fail
          go_quiet (fail)
          go_wp2_with fail
          go_roundg (na - (k + 1))
          case measure => omega
          case rel => exact ⟨k + 1, by omega, rfl, by simp, HE2, bdrewN hS _⟩
        | false =>
          have hq1 : ∀ W : World, (Op.equalIn 10000 71 (.agg #[.int .i64 x.kind, .int .i64 x.deal, .int .i64 x.shop, .int .i64 x.c, .int .i64 x.d, .bool x.yes]) (.agg #[.int .i64 y.kind, .int .i64 y.deal, .int .i64 y.shop, .int .i64 y.c, .int .i64 y.d, .bool y.yes])).run Try.prog W = .ok false W := fun W => by rw [eqMl, hq]
          have HE2 : Hid (¬ l = m) := other6_of k hc hc' hq
          clear hq hc hc'
          go_wp2_with fail
          go_quiet (fail)
          go_wp2_with fail
          go_ret
          exact ⟨⟨false, rfl, tellsM_no HE2.out⟩, bdrewN hS _⟩
      · have hkk : k = na := by omega
        subst hkk
        go_wp2_with fail
        go_ret
        refine ⟨⟨true, rfl, fun _ => ?_, fun _ => rfl⟩, hS⟩
        have q := HE.out
        rw [List.take_of_length_le (by omega), List.take_of_length_le (by omega)] at q
        exact q
  · have hnn : ((na : Int) != (nb : Int)) = true := by simp; omega
    have hne : Hid (¬ l = m) := by intro e; rw [e] at h1; omega
    clear hl hm hn
    go_enter Try.func39, Try.ntmps39
    go_wp2_with fail
    go_ret
    exact ⟨⟨false, rfl, tellsM_no hne.out⟩, Below.refl _ _⟩

end Go.Proofs.Ytbgnajcmhmpjlab

/- The contracts of a deal's asks and ends. -/
namespace Go.Proofs.Ytbgnajcmhmpjlab
open Go.RowKit

theorem held_at (D : Dl) (v : Value) (k : Nat) (hk : k < 4) : (dcells (D, v))[2 + k]? = some (.bool (decide ((k : Int) ∈ D.yes))) := by
  have : k = 0 ∨ k = 1 ∨ k = 2 ∨ k = 3 := by omega
  rcases this with rfl | rfl | rfl | rfl <;> rfl
theorem ovcell_at (D : Dl) (v : Value) (k : Nat) (hk : k < 3) : (dcells (D, v))[6 + k]? = some (.bool (decide ((k : Int) ∈ D.ov))) := by
  have : k = 0 ∨ k = 1 ∨ k = 2 := by omega
  rcases this with rfl | rfl | rfl <;> rfl

set_option maxHeartbeats 4000000 in
set_option maxRecDepth 100000 in
theorem rasks_any (D : Dl) (n : Int) (la : Option Addr) (lc : Nat) (w : World) (hl : WantsAt w la D.w) (hlen : D.w.length ≤ 4) :
    Calls Try.prog 81 #[.agg #[.slice la D.w.length lc, .int .i64 D.st, .bool (decide ((0 : Int) ∈ D.yes)), .bool (decide ((1 : Int) ∈ D.yes)), .bool (decide ((2 : Int) ∈ D.yes)), .bool (decide ((3 : Int) ∈ D.yes)), .bool (decide ((0 : Int) ∈ D.ov)), .bool (decide ((1 : Int) ∈ D.ov)), .bool (decide ((2 : Int) ∈ D.ov))], .int .i64 n] w fun e w' => (∃ v, e = .returned v ∧ w'.ownsRow w.heap.size 71 6 v (asksR n D.yes 0 D.w).length (flat6 (asksR n D.yes 0 D.w))) ∧ Below w.heap.size w w' := by
  obtain ⟨i0, hi, hz0, hz1, hz2⟩ := info_parts infoMail
  have HLen : Hid (D.w.length ≤ 4) := hlen
  go_enter Try.func81, Try.ntmps81
  go_upto_region 1 with fail
  have hX := BoxAt.new w (dcells (D, .slice la D.w.length lc)) 140
  have hb1 : Below w.heap.size w (w.alloc (.cells (dcells (D, .slice la D.w.length lc)).toArray 140)) := (Below.refl _ _).alloc (Nat.le_refl _) _
  change BoxAt (w.alloc (.cells #[.slice la D.w.length lc, .int .i64 D.st, .bool (decide ((0 : Int) ∈ D.yes)), .bool (decide ((1 : Int) ∈ D.yes)), .bool (decide ((2 : Int) ∈ D.yes)), .bool (decide ((3 : Int) ∈ D.yes)), .bool (decide ((0 : Int) ∈ D.ov)), .bool (decide ((1 : Int) ∈ D.ov)), .bool (decide ((2 : Int) ∈ D.ov))] 140)) _ _ at hX
  change Below _ _ (w.alloc (.cells #[.slice la D.w.length lc, .int .i64 D.st, .bool (decide ((0 : Int) ∈ D.yes)), .bool (decide ((1 : Int) ∈ D.yes)), .bool (decide ((2 : Int) ∈ D.yes)), .bool (decide ((3 : Int) ∈ D.yes)), .bool (decide ((0 : Int) ∈ D.ov)), .bool (decide ((1 : Int) ∈ D.ov)), .bool (decide ((2 : Int) ∈ D.ov))] 140)) at hb1
  generalize (w.alloc (.cells #[.slice la D.w.length lc, .int .i64 D.st, .bool (decide ((0 : Int) ∈ D.yes)), .bool (decide ((1 : Int) ∈ D.yes)), .bool (decide ((2 : Int) ∈ D.yes)), .bool (decide ((3 : Int) ∈ D.yes)), .bool (decide ((0 : Int) ∈ D.ov)), .bool (decide ((1 : Int) ∈ D.ov)), .bool (decide ((2 : Int) ∈ D.ov))] 140)) = w1 at hX hb1 ⊢
  generalize w.heap.size = B0 at hX ⊢
  have HL : Hid (WantsAt w1 la D.w) := hl.below hb1 (Nat.le_refl _)
  have HB1 : Hid _ := hb1
  have x0 := hX.2 0 _ rfl
  clear hl hb1
  go_wp2_with fail
  go_loopg [5, 6, 7, 11] D.w.length (fun g s5 _ _ s11 wr => ∃ (k : Nat) (v5 : Value), k ≤ D.w.length ∧ g = D.w.length - k ∧ v5 = s5 ∧ s11 = .int .i64 k ∧ wr.ownsRow w1.heap.size 71 6 v5 (asksTo n D.yes D.w k).length (flat6 (asksTo n D.yes D.w k)) ∧ Below w1.heap.size w1 wr)
  case atStart => exact ⟨0, _, Nat.zero_le _, rfl, rfl, rfl, by rw [asksTo_zero]; exact World.ownsRow_nil _ _ _ _, Below.refl _ _⟩
  case round =>
    obtain ⟨k, v5, hk, rfl, rfl, rfl, hown, hS⟩ := hrel
    clear x0
    by_cases hlt : k < D.w.length
    · obtain ⟨⟨c, d⟩, hkl⟩ : ∃ x, D.w[k]? = some x := ⟨_, List.getElem?_eq_getElem hlt⟩
      obtain ⟨bl, ol, rfl, hbl, h0, h1⟩ := HL.out k c d hkl
      have j0 : (0 : Int) ≤ (k : Int) := by omega
      have j1 : (k : Int) < (D.w.length : Int) := by omega
      have j2 : (k : Int) < 4 := by omega
      have p0 : wr.cell? ⟨bl, ol + k * 2, none⟩ = some (.int .i64 c) := (hS.cell (p := ⟨bl, _, none⟩) hbl).trans h0
      have p1 : wr.cell? ⟨bl, ol + k * 2 + 1, none⟩ = some (.int .i64 d) := (hS.cell (p := ⟨bl, _, none⟩) hbl).trans h1
      have HOw : Hid (wr.ownsRow w1.heap.size 71 6 v5 (asksTo n D.yes D.w k).length (flat6 (asksTo n D.yes D.w k))) := hown
      have HKL : Hid (k < D.w.length) := hlt
      have HKX : Hid (D.w[k]? = some (c, d)) := hkl
      clear hown hk hlt hkl h0 h1 hlen
      go_upto_region 5 with fail
      have hb2 : Below wr.heap.size wr (wr.alloc (.cells #[.int .i64 c, .int .i64 d] 69)) := (Below.refl _ _).alloc (Nat.le_refl _) _
      have hY := BoxAt.new wr [.int .i64 c, .int .i64 d] 69
      change BoxAt (wr.alloc (.cells #[.int .i64 c, .int .i64 d] 69)) _ _ at hY
      have HOw2 : Hid ((wr.alloc (.cells #[.int .i64 c, .int .i64 d] 69)).ownsRow w1.heap.size 71 6 v5 (asksTo n D.yes D.w k).length (flat6 (asksTo n D.yes D.w k))) := own_next HOw.out hb2
      have hS2 : Below w1.heap.size w1 (wr.alloc (.cells #[.int .i64 c, .int .i64 d] 69)) := after hS hb2 hS.size
      have HNB : Hid (v5.ownBlock ≠ some wr.heap.size) := fun e => by have := (HOw.out.lt _ e).2; omega
      generalize (wr.alloc (.cells #[.int .i64 c, .int .i64 d] 69)) = w2 at hY HOw2 hS2 ⊢
      generalize wr.heap.size = B2 at hY HNB ⊢
      have q0 : w2.cell? ⟨B0, 2 + k, none⟩ = some (.bool (decide ((k : Int) ∈ D.yes))) := (hX.next hS2).2 _ _ (held_at D _ k (by have := HKL.out; have := HLen.out; omega))
      clear hb2 p0 p1 hS HOw
      by_cases hy : (k : Int) ∈ D.yes
      · rw [decide_eq_true hy] at q0
        have HE : Hid _ := asksTo_hit (n := n) HKX.out hy
        clear hy
        go_wp2_with fail
        go_roundg (D.w.length - (k + 1))
        case measure => have := HKL.out; omega
        case rel => exact ⟨k + 1, v5, HKL.out, rfl, rfl, by simp, by rw [HE.out]; exact HOw2.out, hS2⟩
      · rw [decide_eq_false hy] at q0
        have HE : Hid _ := asksTo_miss (n := n) HKX.out hy
        have y0 := hY.2 0 _ rfl
        have y1 := hY.2 1 _ rfl
        have hy2 := hY.1
        have HLn : Hid ((asksTo n D.yes D.w k).length ≤ 4) := by have := asksTo_len n D.yes D.w k; have := HKL.out; have := HLen.out; show _ ≤ _; omega
        have HSz : Hid (w1.heap.size ≤ w2.heap.size) := hS2.size
        clear hy
        go_upto_region 6 with fail
        have HK : Hid (∀ w', Below w2.heap.size w2 w' → w'.cell? ⟨B2, 0, none⟩ = some (.int .i64 c) ∧ w'.cell? ⟨B2, 1, none⟩ = some (.int .i64 d)) := fun w' hb => ⟨((bcell hb).1 _ _ hy2).trans y0, ((bcell hb).1 _ _ hy2).trans y1⟩
        go_region_held3 (fun w' => w'.cell? ⟨B2, 0, none⟩ = some (.int .i64 c) ∧ w'.cell? ⟨B2, 1, none⟩ = some (.int .i64 d))
          (first | exact HK9 | exact HK.out _ (by go_grown))
          (first | (refine step_append_two (by rfl) (.tmp 21) (.tmp 28) 66 (by rfl) w1.heap.size 71 i0 (.agg #[.int .i64 0, .int .i64 0, .int .i64 0, .int .i64 0, .int .i64 0, .bool false]) 6 48 Try.underlying66 hi hz0 hz1 hz2 rfl (by decide) v5 _ _ (by rfl) (own_next HOw2.out (by go_grown)) ⟨w2.heap.size, 0, none⟩ 1 1 [.int .i64 1, .int .i64 n, .int .i64 (shp c), .int .i64 c, .int .i64 d, .bool false] (by rfl) rfl (mail_lies (by simp [go_sem]) (by simp [go_sem]) (by simp [go_sem]) (by simp [go_sem]) (by simp [go_sem]) (by simp [go_sem])) mail_cell (by have := HLn.out; unfold maxLen; omega) (by have := HLn.out; omega) (by have := HSz.out; simp; omega) (by decide) ?_; intro v8 w8 hown8 hgrow8 _; have HO8 : Hid (w8.ownsRow w1.heap.size 71 6 v8 ((asksTo n D.yes D.w k).length + 1) (flat6 (asksTo n D.yes D.w k) ++ [.int .i64 1, .int .i64 n, .int .i64 (shp c), .int .i64 c, .int .i64 d, .bool false])) := hown8; clear hown8; have HK9 : w8.cell? ⟨B2, 0, none⟩ = some (.int .i64 c) ∧ w8.cell? ⟨B2, 1, none⟩ = some (.int .i64 d) := ⟨hgrow8.cell (by simp [go_sem, y0, hy2]) (fun e => HNB.out e.symm), hgrow8.cell (by simp [go_sem, y1, hy2]) (fun e => HNB.out e.symm)⟩; have HG8 : Hid (Below w1.heap.size w1 w8) := own_below (own_next HOw2.out (by go_grown)) hgrow8 (after hS2 (by go_grown) hS2.size) (by have := HSz.out; simp; omega) (Nat.le_refl _); clear hgrow8) | (go_at_call 59; refine (shop_any _ _).mono ?_; rintro e w9 ⟨rfl, rfl⟩))
        all_goals
          go_wp2_with fail
          go_roundg (D.w.length - (k + 1))
          case measure => have := HKL.out; omega
          case rel =>
            refine ⟨k + 1, v8, HKL.out, rfl, rfl, by simp, ?_, HG8.out⟩
            have e1 : (asksTo n D.yes D.w (k + 1)).length = (asksTo n D.yes D.w k).length + 1 := by rw [HE.out]; simp
            have e2 : flat6 (asksTo n D.yes D.w (k + 1)) = flat6 (asksTo n D.yes D.w k) ++ [.int .i64 1, .int .i64 n, .int .i64 (shp c), .int .i64 c, .int .i64 d, .bool false] := by rw [HE.out]; exact flat6_snoc _ _
            rw [e1, e2]
            exact HO8.out
    · have hkk : k = D.w.length := by omega
      subst hkk
      rw [asksTo_all] at hown
      have HOw : Hid (wr.ownsRow w1.heap.size 71 6 v5 (asksR n D.yes 0 D.w).length (flat6 (asksR n D.yes 0 D.w))) := hown
      clear hown
      go_wp2_with fail
      go_ret
      refine ⟨⟨v5, rfl, ?_⟩, HB1.out.trans (hS.mono HB1.out.size)⟩
      refine ⟨HOw.out.1, HOw.out.2.imp id ?_⟩
      rintro ⟨g, cap, cur, h1, h2, h3⟩
      exact ⟨g, cap, cur, h1, Nat.le_trans HB1.out.size h2, h3⟩

theorem shopsL_nat {w : List (Int × Int)} {k : Nat} {s : Int} (h : (shopsL w)[k]? = some s) : ∃ m : Nat, s = (m : Int) ∧ m < 3 := by
  obtain ⟨n, h1, h2, _⟩ := shopsL_mem.1 (List.mem_of_getElem? h)
  exact ⟨n, h1, h2⟩
theorem eq_one {x : Int} : (x == 1) = decide (x = 1) := by
  by_cases h : x = 1
  · simp [h]
  · rw [decide_eq_false h]; simpa using h

set_option maxHeartbeats 4000000 in
set_option maxRecDepth 100000 in
theorem rends_any (D : Dl) (n : Int) (la : Option Addr) (lc : Nat) (w : World) (hl : WantsAt w la D.w) (hlen : D.w.length ≤ 4) :
    Calls Try.prog 82 #[.agg #[.slice la D.w.length lc, .int .i64 D.st, .bool (decide ((0 : Int) ∈ D.yes)), .bool (decide ((1 : Int) ∈ D.yes)), .bool (decide ((2 : Int) ∈ D.yes)), .bool (decide ((3 : Int) ∈ D.yes)), .bool (decide ((0 : Int) ∈ D.ov)), .bool (decide ((1 : Int) ∈ D.ov)), .bool (decide ((2 : Int) ∈ D.ov))], .int .i64 n] w fun e w' => (∃ v, e = .returned v ∧ w'.ownsRow w.heap.size 71 6 v (endsR n D).length (flat6 (endsR n D))) ∧ Below w.heap.size w w' := by
  obtain ⟨i0, hi, hz0, hz1, hz2⟩ := info_parts infoMail
  have HL3 : Hid ((shopsL D.w).length ≤ 3) := shopsTo_length D.w 3
  go_enter Try.func82, Try.ntmps82
  go_upto_region 1 with fail
  have hX := BoxAt.new w (dcells (D, .slice la D.w.length lc)) 140
  have hb1 : Below w.heap.size w (w.alloc (.cells (dcells (D, .slice la D.w.length lc)).toArray 140)) := (Below.refl _ _).alloc (Nat.le_refl _) _
  change BoxAt (w.alloc (.cells #[.slice la D.w.length lc, .int .i64 D.st, .bool (decide ((0 : Int) ∈ D.yes)), .bool (decide ((1 : Int) ∈ D.yes)), .bool (decide ((2 : Int) ∈ D.yes)), .bool (decide ((3 : Int) ∈ D.yes)), .bool (decide ((0 : Int) ∈ D.ov)), .bool (decide ((1 : Int) ∈ D.ov)), .bool (decide ((2 : Int) ∈ D.ov))] 140)) _ _ at hX
  change Below _ _ (w.alloc (.cells #[.slice la D.w.length lc, .int .i64 D.st, .bool (decide ((0 : Int) ∈ D.yes)), .bool (decide ((1 : Int) ∈ D.yes)), .bool (decide ((2 : Int) ∈ D.yes)), .bool (decide ((3 : Int) ∈ D.yes)), .bool (decide ((0 : Int) ∈ D.ov)), .bool (decide ((1 : Int) ∈ D.ov)), .bool (decide ((2 : Int) ∈ D.ov))] 140)) at hb1
  generalize (w.alloc (.cells #[.slice la D.w.length lc, .int .i64 D.st, .bool (decide ((0 : Int) ∈ D.yes)), .bool (decide ((1 : Int) ∈ D.yes)), .bool (decide ((2 : Int) ∈ D.yes)), .bool (decide ((3 : Int) ∈ D.yes)), .bool (decide ((0 : Int) ∈ D.ov)), .bool (decide ((1 : Int) ∈ D.ov)), .bool (decide ((2 : Int) ∈ D.ov))] 140)) = w1 at hX hb1 ⊢
  generalize w.heap.size = B0 at hX ⊢
  have HL : Hid (WantsAt w1 la D.w) := hl.below hb1 (Nat.le_refl _)
  have HB1 : Hid _ := hb1
  have x0 := hX.2 0 _ rfl
  have HSh : Hid _ := shops_any la D.w.length lc D.w w1 HL.out rfl (by omega)
  clear hl hb1 hlen HL
  go_wp2_with fail
  refine Calls.mono HSh.out ?_
  rintro e w2 ⟨⟨ga, cap, rfl, hA⟩, hb2⟩
  have hX2 := hX.next hb2
  have HB2 : Hid (Below w.heap.size w w2) := after HB1.out hb2 HB1.out.size
  have HA : Hid (NumsAt w2 ga (shopsL D.w)) := hA
  clear hX hb2 x0 HSh hA
  go_wp2_with fail
  go_loopg [5, 7, 12] (shopsL D.w).length (fun g s5 _ s12 wr => ∃ (k : Nat) (v5 : Value), k ≤ (shopsL D.w).length ∧ g = (shopsL D.w).length - k ∧ v5 = s5 ∧ s12 = .int .i64 k ∧ wr.ownsRow w2.heap.size 71 6 v5 (endsTo n D k).length (flat6 (endsTo n D k)) ∧ Below w2.heap.size w2 wr)
  case atStart => exact ⟨0, _, Nat.zero_le _, rfl, rfl, rfl, by rw [endsTo_zero]; exact World.ownsRow_nil _ _ _ _, Below.refl _ _⟩
  case round =>
    obtain ⟨k, v5, hk, rfl, rfl, rfl, hown, hS⟩ := hrel
    by_cases hlt : k < (shopsL D.w).length
    · obtain ⟨s, hkl⟩ : ∃ x, (shopsL D.w)[k]? = some x := ⟨_, List.getElem?_eq_getElem hlt⟩
      obtain ⟨bl, ol, rfl, hbl, h0⟩ := HA.out k s hkl
      have j0 : (0 : Int) ≤ (k : Int) := by omega
      have j1 : (k : Int) < ((shopsL D.w).length : Int) := by omega
      have j2 : ((shopsL D.w).length : Int) ≤ 3 := by have := HL3.out; omega
      have p0 : wr.cell? ⟨bl, ol + k, none⟩ = some (.int .i64 s) := (hS.cell (p := ⟨bl, _, none⟩) hbl).trans h0
      have HOw : Hid (wr.ownsRow w2.heap.size 71 6 v5 (endsTo n D k).length (flat6 (endsTo n D k))) := hown
      have HKL : Hid (k < (shopsL D.w).length) := hlt
      obtain ⟨m, rfl, hm⟩ := shopsL_nat hkl
      have HKX : Hid ((shopsL D.w)[k]? = some (m : Int)) := hkl
      have m0 : (0 : Int) ≤ (m : Int) := by omega
      have m3 : (m : Int) < 3 := by omega
      have hX3 := hX2.next hS
      have q0 : wr.cell? ⟨B0, 6 + m, none⟩ = some (.bool (decide ((m : Int) ∈ D.ov))) := hX3.2 _ _ (ovcell_at D _ m hm)
      have q1 : wr.cell? ⟨B0, 1, none⟩ = some (.int .i64 D.st) := hX3.2 1 _ rfl
      clear hown hk hlt hkl h0 hX3
      by_cases hy : (m : Int) ∈ D.ov
      · rw [decide_eq_true hy] at q0
        have HE : Hid _ := endsTo_hit (n := n) HKX.out hy
        clear hy
        go_wp2_with fail
        go_roundg ((shopsL D.w).length - (k + 1))
        case measure => have := HKL.out; omega
        case rel => exact ⟨k + 1, v5, HKL.out, rfl, rfl, by simp, by rw [HE.out]; exact HOw.out, hS⟩
      · rw [decide_eq_false hy] at q0
        have HE : Hid _ := endsTo_miss (n := n) HKX.out hy
        have HLn : Hid ((endsTo n D k).length ≤ 3) := by have := endsTo_len n D k; have := HKL.out; have := HL3.out; show _ ≤ _; omega
        have HSz : Hid (w2.heap.size ≤ wr.heap.size) := hS.size
        clear hy
        go_wp2_with (at_builtin; refine list_append_two rfl (.tmp 21) (.tmp 28) 66 rfl w2.heap.size 71 i0 (.agg #[.int .i64 0, .int .i64 0, .int .i64 0, .int .i64 0, .int .i64 0, .bool false]) 6 48 Try.underlying66 hi hz0 hz1 hz2 rfl (by decide) v5 _ _ rfl (own_next HOw.out (by go_grown)) ⟨wr.heap.size, 0, none⟩ 1 1 [.int .i64 3, .int .i64 n, .int .i64 (m : Int), .int .i64 0, .int .i64 0, .bool (D.st == 1)] rfl rfl (mail_lies (by simp [go_sem]) (by simp [go_sem]) (by simp [go_sem]) (by simp [go_sem]) (by simp [go_sem]) (by simp [go_sem])) mail_cell (by have := HLn.out; unfold maxLen; omega) (by have := HLn.out; omega) (by have := HSz.out; simp; omega) (by decide) ?_; intro v8 w8 hown8 hgrow8 _; have HO8 : Hid (w8.ownsRow w2.heap.size 71 6 v8 ((endsTo n D k).length + 1) (flat6 (endsTo n D k) ++ [.int .i64 3, .int .i64 n, .int .i64 (m : Int), .int .i64 0, .int .i64 0, .bool (D.st == 1)])) := hown8; clear hown8; have HG8 : Hid (Below w2.heap.size w2 w8) := own_below (own_next HOw.out (by go_grown)) hgrow8 (after hS (by go_grown) hS.size) (by have := HSz.out; simp; omega) (Nat.le_refl _); clear hgrow8)
        go_roundg ((shopsL D.w).length - (k + 1))
        case measure => have := HKL.out; omega
        case rel =>
          refine ⟨k + 1, v8, HKL.out, rfl, rfl, by simp, ?_, HG8.out⟩
          have e1 : (endsTo n D (k + 1)).length = (endsTo n D k).length + 1 := by rw [HE.out]; simp
          have e2 : flat6 (endsTo n D (k + 1)) = flat6 (endsTo n D k) ++ [.int .i64 3, .int .i64 n, .int .i64 (m : Int), .int .i64 0, .int .i64 0, .bool (D.st == 1)] := by rw [HE.out]; exact flat6_snoc _ _
          rw [e1, e2]
          exact HO8.out
    · have hkk : k = (shopsL D.w).length := by omega
      subst hkk
      rw [endsTo_all] at hown
      have HOw : Hid (wr.ownsRow w2.heap.size 71 6 v5 (endsR n D).length (flat6 (endsR n D))) := hown
      clear hown
      go_wp2_with fail
      go_ret
      refine ⟨⟨v5, rfl, ?_⟩, HB2.out.trans (hS.mono HB2.out.size)⟩
      refine ⟨HOw.out.1, HOw.out.2.imp id ?_⟩
      rintro ⟨g, cap, cur, h1, h2, h3⟩
      exact ⟨g, cap, cur, h1, Nat.le_trans HB2.out.size h2, h3⟩

end Go.Proofs.Ytbgnajcmhmpjlab

/- The contract of broker's Due. -/
namespace Go.Proofs.Ytbgnajcmhmpjlab
open Go.RowKit

theorem own_base {w : World} {B C e s n : Nat} {v : Value} {xs : List Value} (h : w.ownsRow C e s v n xs) (hB : B ≤ C) : w.ownsRow B e s v n xs := by
  refine ⟨h.1, h.2.imp id ?_⟩
  rintro ⟨g, cap, cur, h1, h2, h3⟩
  exact ⟨g, cap, cur, h1, Nat.le_trans hB h2, h3⟩
theorem flat6_cells {w : World} {B e g n cap : Nat} {l : List Ml} (h : w.ownsRow B e 6 (.slice (some ⟨g, 0, none⟩) n cap) n (flat6 l)) : ∀ j u, (flat6 l)[j]? = some u → w.cell? ((⟨g, 0, none⟩ : Addr).add j) = some u := by
  intro j u hj
  rw [addr_add]
  exact (own_row h).2.2.2.2 j u hj

set_option maxHeartbeats 4000000 in
set_option maxRecDepth 100000 in
theorem rdue_any (O : Nat → Prop) (B : Bok) (q : Nat) (w : World) (h : BrkIn O w q B) (hI : BInv B) :
    Calls Try.prog 52 #[.pointer (some ⟨q, 0, none⟩)] w fun e w' => (∃ v, e = .returned v ∧ w'.ownsRow w.heap.size 71 6 v (dueR B).length (flat6 (dueR B))) ∧ Below w.heap.size w w' := by
  obtain ⟨i0, hi, hz0, hz1, hz2⟩ := info_parts infoMail
  obtain ⟨rv, dv, P, hR, _⟩ := h.raw
  have c0 := hR.c0
  obtain ⟨ga, cap, rfl⟩ := own_sl hR.row
  have hPl := hR.len
  rw [← hPl] at c0 hR
  have HR : Hid (BrkRaw w q B (.slice ga B.L.length cap) dv P) := hR
  have HInv : Hid (BInv B) := hI
  have h8 : (B.L.length : Int) ≤ 8 := by have := hI.len; omega
  clear hR h hI hPl
  go_enter Try.func52, Try.ntmps52
  go_wp2_with fail
  go_loopg [3, 4, 5, 11] B.L.length (fun g s3 _ _ s11 wr => ∃ (k : Nat) (v3 : Value), k ≤ B.L.length ∧ g = B.L.length - k ∧ v3 = s3 ∧ s11 = .int .i64 k ∧ wr.ownsRow w.heap.size 71 6 v3 (duesTo B.L k).length (flat6 (duesTo B.L k)) ∧ Below w.heap.size w wr)
  case atStart => exact ⟨0, _, Nat.zero_le _, rfl, rfl, rfl, by rw [duesTo_zero]; exact World.ownsRow_nil _ _ _ _, Below.refl _ _⟩
  case round =>
    obtain ⟨k, v3, hk, rfl, rfl, rfl, hown, hS⟩ := hrel
    clear c0
    by_cases hlt : k < B.L.length
    · obtain ⟨D, hkD⟩ : ∃ x, B.L[k]? = some x := ⟨_, List.getElem?_eq_getElem hlt⟩
      obtain ⟨g, cap', v, erv, _, h9, hrow, _, _⟩ := HR.out.deal9 hkD
      obtain ⟨rfl, rfl⟩ : ga = some ⟨g, 0, none⟩ ∧ cap = cap' := by simpa using erv
      have hF := HInv.out.fit D (List.mem_of_getElem? hkD)
      obtain ⟨gw, capw, rfl, hWa, _⟩ := wants_of_own hrow
      have h9' : Deal9 wr g k D (.slice gw D.w.length capw) := by
        have q : ∀ o, wr.cell? ⟨g, o, none⟩ = w.cell? ⟨g, o, none⟩ := fun o => (bcell hS).1 _ _ h9.lt
        exact ⟨(q _).trans h9.c0, (q _).trans h9.c1, (q _).trans h9.c2, (q _).trans h9.c3, (q _).trans h9.c4, (q _).trans h9.c5, (q _).trans h9.c6, (q _).trans h9.c7, (q _).trans h9.c8, Nat.lt_of_lt_of_le h9.lt hS.size, loose g hS h9.lt h9.fr⟩
      have j0 : (0 : Int) ≤ (k : Int) := by omega
      have j1 : (k : Int) < (B.L.length : Int) := by omega
      obtain ⟨d0, d1, d2, d3, d4, d5, d6, d7, d8, dl, _⟩ := h9'
      have HWa : Hid (WantsAt wr gw D.w) := hWa.below hS (Nat.le_refl _)
      have HF : Hid (D.w.length ≤ 4) := hF.few
      have HOw : Hid (wr.ownsRow w.heap.size 71 6 v3 (duesTo B.L k).length (flat6 (duesTo B.L k))) := hown
      have HKL : Hid (k < B.L.length) := hlt
      have HN : Hid _ := duesTo_next hkD
      have HLn : Hid ((duesTo B.L k).length ≤ 32 ∧ (dueD (k : Int) D).length ≤ 4) := ⟨by have := duesTo_len (k := k) HInv.out.fit; have := HInv.out.len; omega, due_len (k : Int) hF⟩
      clear hown hk hlt hkD h9 hrow hF hWa erv
      go_upto_region 5 with fail
      have hb2 : Below wr.heap.size wr (wr.alloc (.cells (dcells (D, .slice gw D.w.length capw)).toArray 140)) := (Below.refl _ _).alloc (Nat.le_refl _) _
      have hY := BoxAt.new wr (dcells (D, .slice gw D.w.length capw)) 140
      change Below _ _ (wr.alloc (.cells #[.slice gw D.w.length capw, .int .i64 D.st, .bool (decide ((0 : Int) ∈ D.yes)), .bool (decide ((1 : Int) ∈ D.yes)), .bool (decide ((2 : Int) ∈ D.yes)), .bool (decide ((3 : Int) ∈ D.yes)), .bool (decide ((0 : Int) ∈ D.ov)), .bool (decide ((1 : Int) ∈ D.ov)), .bool (decide ((2 : Int) ∈ D.ov))] 140)) at hb2
      change BoxAt (wr.alloc (.cells #[.slice gw D.w.length capw, .int .i64 D.st, .bool (decide ((0 : Int) ∈ D.yes)), .bool (decide ((1 : Int) ∈ D.yes)), .bool (decide ((2 : Int) ∈ D.yes)), .bool (decide ((3 : Int) ∈ D.yes)), .bool (decide ((0 : Int) ∈ D.ov)), .bool (decide ((1 : Int) ∈ D.ov)), .bool (decide ((2 : Int) ∈ D.ov))] 140)) _ _ at hY
      have HB2 : Hid (Below wr.heap.size wr (wr.alloc (.cells #[.slice gw D.w.length capw, .int .i64 D.st, .bool (decide ((0 : Int) ∈ D.yes)), .bool (decide ((1 : Int) ∈ D.yes)), .bool (decide ((2 : Int) ∈ D.yes)), .bool (decide ((3 : Int) ∈ D.yes)), .bool (decide ((0 : Int) ∈ D.ov)), .bool (decide ((1 : Int) ∈ D.ov)), .bool (decide ((2 : Int) ∈ D.ov))] 140))) := hb2
      generalize (wr.alloc (.cells #[.slice gw D.w.length capw, .int .i64 D.st, .bool (decide ((0 : Int) ∈ D.yes)), .bool (decide ((1 : Int) ∈ D.yes)), .bool (decide ((2 : Int) ∈ D.yes)), .bool (decide ((3 : Int) ∈ D.yes)), .bool (decide ((0 : Int) ∈ D.ov)), .bool (decide ((1 : Int) ∈ D.ov)), .bool (decide ((2 : Int) ∈ D.ov))] 140)) = w2 at hY HB2 ⊢
      have HOw2 : Hid (w2.ownsRow w.heap.size 71 6 v3 (duesTo B.L k).length (flat6 (duesTo B.L k))) := own_next HOw.out HB2.out
      have HS2 : Hid (Below w.heap.size w w2) := after hS HB2.out hS.size
      have HWa2 : Hid (WantsAt w2 gw D.w) := HWa.out.below HB2.out (Nat.le_refl _)
      generalize wr.heap.size = B2 at hY ⊢
      have y0 := hY.2 0 _ rfl
      have y1 := hY.2 1 _ rfl
      have y2 := hY.2 2 _ rfl
      have y3 := hY.2 3 _ rfl
      have y4 := hY.2 4 _ rfl
      have y5 := hY.2 5 _ rfl
      have y6 := hY.2 6 _ rfl
      have y7 := hY.2 7 _ rfl
      have y8 := hY.2 8 _ rfl
      clear hb2 hY d0 d1 d2 d3 d4 d5 d6 d7 d8 dl HOw HWa HB2 hS
      obtain ⟨dd, hdd⟩ : ∃ dd, dd = dueD (k : Int) D := ⟨_, rfl⟩
      by_cases hst : D.st = 0
      · have hst' : (D.st == 0) = true := by simp [hst]
        have HA : Hid _ := rasks_any D (k : Int) gw capw w2 HWa2.out HF.out
        have e0 : asksR (k : Int) D.yes 0 D.w = dd := by rw [hdd]; unfold dueD; rw [if_pos hst]
        rw [e0] at HA
        rw [← hdd] at HN HLn
        clear hst hdd e0
        go_upto_region 6 with fail
        go_wp2_with fail
        refine Calls.mono HA.out ?_
        rintro e w3 ⟨⟨v7, rfl, hown7⟩, hb3⟩
        have HO7 : Hid (w3.ownsRow w2.heap.size 71 6 v7 dd.length (flat6 dd)) := hown7
        have HOw3 : Hid (w3.ownsRow w.heap.size 71 6 v3 (duesTo B.L k).length (flat6 (duesTo B.L k))) := own_next HOw2.out hb3
        have HS3 : Hid (Below w.heap.size w w3) := after HS2.out hb3 HS2.out.size
        have HSz : Hid (w.heap.size ≤ w3.heap.size) := HS3.out.size
        clear hown7 hb3 HOw2 HS2 HWa2 HA y0 y1 y2 y3 y4 y5 y6 y7 y8
        rcases HO7.out.2 with ⟨rfl, e0⟩ | ⟨g7, cap7, cur, rfl, _⟩
        · have e1 : dd = [] := List.length_eq_zero_iff.1 e0
          clear e0
          rcases HOw3.out.2 with ⟨rfl, e2⟩ | ⟨g3, cap3, cur3, rfl, _⟩
          · clear e2
            go_wp2_with fail
            go_roundg (B.L.length - (k + 1))
            case measure => have := HKL.out; omega
            case rel => exact ⟨k + 1, _, HKL.out, rfl, rfl, by simp, by rw [HN.out, e1, List.append_nil]; exact HOw3.out, HS3.out⟩
          · go_wp2_with fail
            go_roundg (B.L.length - (k + 1))
            case measure => have := HKL.out; omega
            case rel => exact ⟨k + 1, _, HKL.out, rfl, rfl, by simp, by rw [HN.out, e1, List.append_nil]; exact HOw3.out, HS3.out⟩
        · have HFl : Hid ((flat6 dd).length = dd.length * 6) := flat6_length dd
          have HCe : Hid _ := flat6_cells HO7.out
          go_wp2_with (at_builtin; refine wpList_append_own _ rfl (.tmp 19) (.tmp 22) 66 rfl w.heap.size 71 i0 (.agg #[.int .i64 0, .int .i64 0, .int .i64 0, .int .i64 0, .int .i64 0, .bool false]) 6 48 Try.underlying66 hi hz0 hz1 hz2 rfl (by decide) v3 _ _ rfl HOw3.out ⟨g7, 0, none⟩ dd.length cap7 (flat6 dd) rfl HFl.out HCe.out (flat6_one _) (by have := HLn.out; unfold maxLen; omega) (by have := HLn.out; omega) HSz.out ?_; intro v8 w8 hown8 hgrow8 _; have HO8 : Hid (w8.ownsRow w.heap.size 71 6 v8 ((duesTo B.L k).length + dd.length) (flat6 (duesTo B.L k) ++ flat6 dd)) := hown8; clear hown8; have HG8 : Hid (Below w.heap.size w w8) := own_below HOw3.out hgrow8 HS3.out HSz.out (Nat.le_refl _); clear hgrow8)
          go_roundg (B.L.length - (k + 1))
          case measure => have := HKL.out; omega
          case rel =>
            refine ⟨k + 1, v8, HKL.out, rfl, rfl, by simp, ?_, HG8.out⟩
            rw [HN.out, List.length_append, flat6_append]
            exact HO8.out
      · have hst' : (D.st == 0) = false := by simpa using hst
        have HA : Hid _ := rends_any D (k : Int) gw capw w2 HWa2.out HF.out
        have e0 : endsR (k : Int) D = dd := by rw [hdd]; unfold dueD; rw [if_neg hst]
        rw [e0] at HA
        rw [← hdd] at HN HLn
        clear hst hdd e0
        go_upto_region 7 with fail
        go_wp2_with fail
        refine Calls.mono HA.out ?_
        rintro e w3 ⟨⟨v7, rfl, hown7⟩, hb3⟩
        have HO7 : Hid (w3.ownsRow w2.heap.size 71 6 v7 dd.length (flat6 dd)) := hown7
        have HOw3 : Hid (w3.ownsRow w.heap.size 71 6 v3 (duesTo B.L k).length (flat6 (duesTo B.L k))) := own_next HOw2.out hb3
        have HS3 : Hid (Below w.heap.size w w3) := after HS2.out hb3 HS2.out.size
        have HSz : Hid (w.heap.size ≤ w3.heap.size) := HS3.out.size
        clear hown7 hb3 HOw2 HS2 HWa2 HA y0 y1 y2 y3 y4 y5 y6 y7 y8
        rcases HO7.out.2 with ⟨rfl, e0⟩ | ⟨g7, cap7, cur, rfl, _⟩
        · have e1 : dd = [] := List.length_eq_zero_iff.1 e0
          clear e0
          rcases HOw3.out.2 with ⟨rfl, e2⟩ | ⟨g3, cap3, cur3, rfl, _⟩
          · clear e2
            go_wp2_with fail
            go_roundg (B.L.length - (k + 1))
            case measure => have := HKL.out; omega
            case rel => exact ⟨k + 1, _, HKL.out, rfl, rfl, by simp, by rw [HN.out, e1, List.append_nil]; exact HOw3.out, HS3.out⟩
          · go_wp2_with fail
            go_roundg (B.L.length - (k + 1))
            case measure => have := HKL.out; omega
            case rel => exact ⟨k + 1, _, HKL.out, rfl, rfl, by simp, by rw [HN.out, e1, List.append_nil]; exact HOw3.out, HS3.out⟩
        · have HFl : Hid ((flat6 dd).length = dd.length * 6) := flat6_length dd
          have HCe : Hid _ := flat6_cells HO7.out
          go_wp2_with (at_builtin; refine wpList_append_own _ rfl (.tmp 24) (.tmp 27) 66 rfl w.heap.size 71 i0 (.agg #[.int .i64 0, .int .i64 0, .int .i64 0, .int .i64 0, .int .i64 0, .bool false]) 6 48 Try.underlying66 hi hz0 hz1 hz2 rfl (by decide) v3 _ _ rfl HOw3.out ⟨g7, 0, none⟩ dd.length cap7 (flat6 dd) rfl HFl.out HCe.out (flat6_one _) (by have := HLn.out; unfold maxLen; omega) (by have := HLn.out; omega) HSz.out ?_; intro v8 w8 hown8 hgrow8 _; have HO8 : Hid (w8.ownsRow w.heap.size 71 6 v8 ((duesTo B.L k).length + dd.length) (flat6 (duesTo B.L k) ++ flat6 dd)) := hown8; clear hown8; have HG8 : Hid (Below w.heap.size w w8) := own_below HOw3.out hgrow8 HS3.out HSz.out (Nat.le_refl _); clear hgrow8)
          go_roundg (B.L.length - (k + 1))
          case measure => have := HKL.out; omega
          case rel =>
            refine ⟨k + 1, v8, HKL.out, rfl, rfl, by simp, ?_, HG8.out⟩
            rw [HN.out, List.length_append, flat6_append]
            exact HO8.out
    · have hkk : k = B.L.length := by omega
      subst hkk
      rw [duesTo_all] at hown
      have HOw : Hid (wr.ownsRow w.heap.size 71 6 v3 (duesR 0 B.L).length (flat6 (duesR 0 B.L))) := hown
      clear hown
      go_wp2_with fail
      go_ret
      exact ⟨⟨v3, rfl, HOw.out⟩, hS⟩

end Go.Proofs.Ytbgnajcmhmpjlab

/- Two small laws of the lexical walk of a region that draws its order, at a class of worlds of one's own: one operation that yields a value; one that calls a function. No program is named here. -/
namespace Go.Proofs.Ytbgnajcmhmpjlab

theorem q_val {P : Program} {C : World → Prop} {o : Oper} {a : Act} {K : Act → Prop} {v : Value} (h : ∀ w, C w → (execOp a.eval o).run P w = .ok (.value v) w) (hk : K (a.put o.dst v)) : o.quiet P a C K :=
  ⟨v, fun w hw => by unfold Oper.quietAt; rw [h w hw]; exact ⟨rfl, rfl⟩, hk⟩
theorem q_call {P : Program} {C : World → Prop} {o : Oper} {a : Act} {K : Act → Prop} {v : Value} {f : FuncId} {args : Array Value} (h : ∀ w, C w → (execOp a.eval o).run P w = .ok (.enter f args) w)
    (hc : ∀ w, C w → Calls P f args w fun e w' => e = .returned v ∧ C w') (hk : K (a.put o.dst v)) : o.quiet P a C K :=
  ⟨v, fun w hw => by unfold Oper.quietAt; rw [h w hw]; exact ⟨rfl, hc w hw⟩, hk⟩
theorem region_class {P : Program} {C : World → Prop} {id : Nat} {Q : Exit → Act → World → Prop} {a : Act} {w : World} {l : List Oper} (hm : P.follows .mixedOrders = true) (hB : Region.lexB .any l.toArray = true) (hC : C w.drew)
    (h : wpQuiet P l.toArray C (fun a' => ∀ w', C w' → Q .normal a' w') l a) : (Code.region id l.toArray true).wp P Q a w :=
  wp_region_quiet (C := C) hm hB hC (by simpa using h)

end Go.Proofs.Ytbgnajcmhmpjlab

/- The contracts of broker's hearOver, hearSay and Hear. -/
namespace Go.Proofs.Ytbgnajcmhmpjlab
open Go.RowKit

/-- A mail in a block of one's own, read. -/
structure MBx (w : World) (b : Nat) (m : Ml) : Prop where
  lt : b < w.heap.size
  c0 : w.cell? ⟨b, 0, none⟩ = some (.int .i64 m.kind)
  c1 : w.cell? ⟨b, 1, none⟩ = some (.int .i64 m.deal)
  c2 : w.cell? ⟨b, 2, none⟩ = some (.int .i64 m.shop)
  c3 : w.cell? ⟨b, 3, none⟩ = some (.int .i64 m.c)
  c4 : w.cell? ⟨b, 4, none⟩ = some (.int .i64 m.d)
  c5 : w.cell? ⟨b, 5, none⟩ = some (.bool m.yes)
theorem MBx.new (w : World) (m : Ml) : MBx (w.alloc (.cells #[.int .i64 m.kind, .int .i64 m.deal, .int .i64 m.shop, .int .i64 m.c, .int .i64 m.d, .bool m.yes] 71)) w.heap.size m :=
  ⟨by simp, by simp [go_sem], by simp [go_sem], by simp [go_sem], by simp [go_sem], by simp [go_sem], by simp [go_sem]⟩
theorem MBx.save {O : Nat → Prop} {w w1 : World} {b : Nat} {m : Ml} (h : MBx w b m) (hs : Save O w w1) (hn : ¬ O b) : MBx w1 b m := by
  have q : ∀ o, w1.cell? ⟨b, o, none⟩ = w.cell? ⟨b, o, none⟩ := fun o => hs.cell (p := ⟨b, o, none⟩) h.lt hn
  exact ⟨Nat.lt_of_lt_of_le h.lt hs.size, (q _).trans h.c0, (q _).trans h.c1, (q _).trans h.c2, (q _).trans h.c3, (q _).trans h.c4, (q _).trans h.c5⟩
theorem MBx.next {w w1 : World} {b : Nat} {m : Ml} (h : MBx w b m) (hb : Below w.heap.size w w1) : MBx w1 b m := h.save (O := fun _ => False) (.of_below hb) (fun q => q)

theorem dec_addI (l : List Int) (m j : Int) : decide (j ∈ addI l m) = (decide (j = m) || decide (j ∈ l)) := by
  rw [Bool.eq_iff_iff]
  simp only [decide_eq_true_eq, Bool.or_eq_true, addI_mem]
  exact Or.comm
theorem dcells_ov (D : Dl) (v : Value) (m : Nat) (hm : m < 3) : dcells ({ D with ov := addI D.ov (m : Int) }, v) = (dcells (D, v)).set (6 + m) (.bool true) := by
  have : m = 0 ∨ m = 1 ∨ m = 2 := by omega
  rcases this with rfl | rfl | rfl <;> simp [dcells, dec_addI]
theorem dcells_yes (D : Dl) (v : Value) (m : Nat) (hm : m < 4) : dcells ({ D with yes := addI D.yes (m : Int) }, v) = (dcells (D, v)).set (2 + m) (.bool true) := by
  have : m = 0 ∨ m = 1 ∨ m = 2 ∨ m = 3 := by omega
  rcases this with rfl | rfl | rfl | rfl <;> simp [dcells, dec_addI]
theorem put_self {B : Bok} {n : Int} {D : Dl} (h : dealAt B n = some D) : putD B n D = B := by
  obtain ⟨k, rfl, hk, hD⟩ := dealAt_some h
  unfold putD
  have : B.L.set (k : Int).toNat D = B.L := by
    apply List.ext_getElem?
    intro j
    by_cases e : k = j
    · subst e
      rw [Int.toNat_natCast, List.getElem?_set_self hk, hD]
    · rw [Int.toNat_natCast, List.getElem?_set_ne e]
  rw [this]
/-- An over of a deal that is decided, from one of its shops. -/
theorem hear_over {B : Bok} {m : Ml} {D : Dl} (hd : dealAt B m.deal = some D) (hk : m.kind = 4) (h0 : D.st ≠ 0) (hs : m.shop ∈ shopsL D.w) : hearR B m = putD B m.deal { D with ov := addI D.ov m.shop } := by
  unfold hearR
  rw [hd]
  simp only
  rw [if_neg h0]
  by_cases ho : m.shop ∈ D.ov
  · rw [if_neg (fun q => q.2.2 ho)]
    have : addI D.ov m.shop = D.ov := by unfold addI; rw [if_pos ho]
    rw [this]
    exact (put_self hd).symm
  · rw [if_pos ⟨hk, hs, ho⟩]
    have : addI D.ov m.shop = D.ov ++ [m.shop] := by unfold addI; rw [if_neg ho]
    rw [this]
theorem hear_over_no {B : Bok} {m : Ml} {D : Dl} (hd : dealAt B m.deal = some D) (hk : m.kind = 4) (h : D.st = 0 ∨ m.shop ∉ shopsL D.w) : hearR B m = B := by
  unfold hearR
  rw [hd]
  simp only
  by_cases h0 : D.st = 0
  · rw [if_pos h0, if_neg (fun q => by omega)]
  · rw [if_neg h0, if_neg (fun q => h.elim h0 (fun z => z q.2.1))]
theorem hear_say_no {B : Bok} {m : Ml} {D : Dl} (hd : dealAt B m.deal = some D) (hk : m.kind = 2) (h : D.st ≠ 0 ∨ wantAt D.w m.c m.d = none ∨ shp m.c ≠ m.shop) : hearR B m = B := by
  unfold hearR
  rw [hd]
  simp only
  by_cases h0 : D.st = 0
  · rw [if_pos h0]
    by_cases h1 : shp m.c = m.shop
    · rw [if_pos ⟨hk, h1⟩]
      rcases h with h | h | h
      · exact absurd h0 h
      · rw [h]
      · exact absurd h1 h
    · rw [if_neg (fun q => h1 q.2)]
  · rw [if_neg h0, if_neg (fun q => by omega)]
theorem hear_say_nay {B : Bok} {m : Ml} {D : Dl} {i : Nat} (hd : dealAt B m.deal = some D) (hk : m.kind = 2) (h0 : D.st = 0) (hw : wantAt D.w m.c m.d = some i) (h1 : shp m.c = m.shop) (hy : m.yes = false) : hearR B m = putD B m.deal { D with st := 2 } := by
  unfold hearR
  rw [hd]
  simp only
  rw [if_pos h0, if_pos ⟨hk, h1⟩, hw]
  simp [hy]
theorem hear_say_yes {B : Bok} {m : Ml} {D : Dl} {i : Nat} (hd : dealAt B m.deal = some D) (hk : m.kind = 2) (h0 : D.st = 0) (hw : wantAt D.w m.c m.d = some i) (h1 : shp m.c = m.shop) (hy : m.yes = true) : hearR B m = if (addI D.yes i).length = D.w.length then { putD B m.deal { D with yes := addI D.yes i, st := 1 } with ord := B.ord ++ [m.deal] } else putD B m.deal { D with yes := addI D.yes i } := by
  unfold hearR
  rw [hd]
  simp only
  rw [if_pos h0, if_pos ⟨hk, h1⟩, hw]
  simp [hy]

/-- A cell of a deal is stored: the broker behind it. -/
theorem brk_set {O : Nat → Prop} {w w1 : World} {q g n cap k j : Nat} {B : Bok} {dv u v : Value} {P : List (Dl × Value)} {D D' : Dl} (h : BrkIn O w q B) (hsub : ∀ u ∈ (.slice (some ⟨g, 0, none⟩) n cap : Value) :: dv :: P.map Prod.snd, ∀ k, u.ownBlock = some k → O k) (hb : Below w.heap.size w w1) (hR : BrkRaw w q B (.slice (some ⟨g, 0, none⟩) n cap) dv P) (hk : P[k]? = some (D, v)) (hj : j < 9) (hw : D'.w = D.w) (e : dcells (D', v) = (dcells (D, v)).set j u) : BrkTo O w (w1.setCell ⟨g, k * 9 + j, none⟩ u) q (putD B (k : Int) D') := by
  have hR1 : BrkRaw w1 q B (.slice (some ⟨g, 0, none⟩) n cap) dv P := hR.save h.lt (.of_below (O := fun _ => False) hb) (fun q => q) (fun _ _ _ _ q => q)
  have hl1 : q < w1.heap.size := Nat.lt_of_lt_of_le h.lt hb.size
  have hS : Save O w (w1.setCell ⟨g, k * 9 + j, none⟩ u) := Save.setCell (Save.of_below hb) (p := ⟨g, k * 9 + j, none⟩) (fun _ => hsub _ List.mem_cons_self g rfl) _
  refine brk_to h.own h.mine hS (hR1.set hl1 hk hj hw e) (by simpa [go_sem] using (h.next hb).loose) ?_
  intro x hx i hi
  rw [map_set_snd hk] at hx
  have := h.own i (hsub x hx i hi)
  have := hb.size
  exact ⟨.inl (hsub x hx i hi), by simp; omega⟩

set_option maxHeartbeats 4000000 in
set_option maxRecDepth 100000 in
theorem rover_any (O : Nat → Prop) (B : Bok) (q : Nat) (m : Ml) (D : Dl) (w : World) (h : BrkIn O w q B) (hI : BInv B) (hd : dealAt B m.deal = some D) (hk4 : m.kind = 4) :
    Calls Try.prog 96 #[.pointer (some ⟨q, 0, none⟩), .agg #[.int .i64 m.kind, .int .i64 m.deal, .int .i64 m.shop, .int .i64 m.c, .int .i64 m.d, .bool m.yes]] w fun e w' => e = .returned (.tuple #[]) ∧ BrkTo O w w' q (hearR B m) := by
  have HI : Hid (BrkIn O w q B) := h
  have hF := hI.fit D (dealAt_mem hd)
  obtain ⟨rv, dv, P, hR, hsub⟩ := h.raw
  obtain ⟨k, hmk0, hk, hkD⟩ := dealAt_some hd
  have hmk : Hid (m.deal = (k : Int)) := hmk0
  have HK4 : Hid (m.kind = 4) := hk4
  clear hmk0 hk4
  obtain ⟨g, cap, v, rfl, hP, h9, hrow, hqg, _⟩ := hR.deal9 hkD
  obtain ⟨gw, capw, rfl, hWa, _⟩ := wants_of_own hrow
  have c0 := hR.c0
  have hql := h.lt
  have j0 : (0 : Int) ≤ (k : Int) := by omega
  have j1 : (k : Int) < (B.L.length : Int) := by omega
  have j2 : (B.L.length : Int) ≤ 8 := by have := hI.len; omega
  go_enter Try.func96, Try.ntmps96
  go_upto_region 1 with fail
  have hb1 : Below w.heap.size w (w.alloc (.cells #[.int .i64 m.kind, .int .i64 m.deal, .int .i64 m.shop, .int .i64 m.c, .int .i64 m.d, .bool m.yes] 71)) := (Below.refl _ _).alloc (Nat.le_refl _) _
  have hX := MBx.new w m
  generalize (w.alloc (.cells #[.int .i64 m.kind, .int .i64 m.deal, .int .i64 m.shop, .int .i64 m.c, .int .i64 m.d, .bool m.yes] 71)) = w1 at hb1 hX ⊢
  have h91 := h9.next hb1
  have c01 : w1.cell? ⟨q, 0, none⟩ = some (.slice (some ⟨g, 0, none⟩) B.L.length cap) := ((bcell hb1).1 _ _ hql).trans c0
  have HWa : Hid (WantsAt w1 gw D.w) := hWa.below hb1 (Nat.le_refl _)
  have hgw : g < w.heap.size := h9.lt
  have HBg : Hid (g ≠ w.heap.size) := by show _ ≠ _; omega
  generalize w.heap.size = B0 at hX HBg ⊢
  have x1 := hX.c1
  rw [hmk.out] at x1
  have hz1 := hX.lt
  have HR : Hid (BrkRaw w q B (.slice (some ⟨g, 0, none⟩) B.L.length cap) dv P) := hR
  have HP : Hid (P[k]? = some (D, .slice gw D.w.length capw)) := hP
  have HSub : Hid (∀ u ∈ (.slice (some ⟨g, 0, none⟩) B.L.length cap : Value) :: dv :: P.map Prod.snd, ∀ k, u.ownBlock = some k → O k) := hsub
  have HB1 : Hid (Below w.heap.size w w1) := hb1
  have HD : Hid _ := hd
  clear h hR hP hsub hb1 hd h9 c0 hrow hWa hql hkD
  go_quiet (fail)
  go_wp2_with fail
  have hbq := bdrewN HB1.out nq
  have hXq := hX.next (w1 := w1.drewN nq) (bdrewN (Below.refl _ _) _)
  have h9q := h91.next (w1 := w1.drewN nq) (bdrewN (Below.refl _ _) _)
  have HWq : Hid (WantsAt (w1.drewN nq) gw D.w) := HWa.out.below (bdrewN (Below.refl _ _) _) (Nat.le_refl _)
  generalize (w1.drewN nq) = w2 at hbq hXq h9q HWq ⊢
  clear hX h91 HWa c01 x1 hz1 HB1
  have y0 := h9q.c0
  have y1 := h9q.c1
  have hgl := h9q.lt
  have x2 := hXq.c2
  have hbl := hXq.lt
  by_cases h0 : D.st = 0
  · have HE : Hid _ := hear_over_no HD.out HK4.out (.inl h0)
    have h0' : (D.st != 0) = false := by simp [h0]
    clear h0
    go_quiet (fail)
    go_wp2_with fail
    exact bodyPost_end (v := .tuple #[]) (by simp [results, Try.results96, go_sem]) rfl ⟨rfl, by rw [HE.out]; exact BrkTo.stay HI.out (bdrewN hbq _)⟩
  · have h0' : (D.st != 0) = true := by simpa using h0
    have HF : Hid (D.w.length ≤ 4) := hF.few
    have HK : Hid (∀ w', Below w2.heap.size w2 w' → w'.cell? ⟨g, k * 9, none⟩ = some (.slice gw D.w.length capw) ∧ w'.cell? ⟨g, k * 9 + 1, none⟩ = some (.int .i64 D.st) ∧ w'.cell? ⟨B0, 2, none⟩ = some (.int .i64 m.shop) ∧ Below w2.heap.size w2 w') := fun w' hb => ⟨((bcell hb).1 _ _ hgl).trans y0, ((bcell hb).1 _ _ hgl).trans y1, ((bcell hb).1 _ _ hbl).trans x2, hb⟩
    have HSh : Hid (∀ W, Below w2.heap.size w2 W → Calls Try.prog 60 #[.slice gw D.w.length capw] W fun e w' => (∃ ga cap, e = .returned (.slice ga (shopsL D.w).length cap) ∧ NumsAt w' ga (shopsL D.w)) ∧ Below W.heap.size W w') := fun W hW => shops_any gw D.w.length capw D.w W (HWq.out.below hW (Nat.le_refl _)) rfl (by have := HF.out; omega)
    have HLs : Hid ((shopsL D.w).length ≤ 3) := shopsTo_length D.w 3
    have H0 : Hid (D.st ≠ 0) := h0
    clear h0 hF
    go_region_held3 (fun w' => w'.cell? ⟨g, k * 9, none⟩ = some (.slice gw D.w.length capw) ∧ w'.cell? ⟨g, k * 9 + 1, none⟩ = some (.int .i64 D.st) ∧ w'.cell? ⟨B0, 2, none⟩ = some (.int .i64 m.shop) ∧ Below w2.heap.size w2 w')
      (first | exact HK.out _ (by go_grown))
      (first | (go_at_call 60; refine Calls.mono (HSh.out _ (by go_grown)) ?_; rintro e w9 ⟨⟨ga, cap9, rfl, hA⟩, hb9⟩; have HA : Hid (NumsAt w9 ga (shopsL D.w)) := hA; clear hA; have hw9 : Below w2.heap.size w2 w9 := after (by go_grown) hb9 (by simp); have hz9 : w2.heap.size ≤ w9.heap.size := hw9.size) | (go_at_call 111; refine (rcon_any ga _ cap9 (shopsL D.w) m.shop _ HA.out rfl (by have := HLs.out; omega)).mono ?_; rintro e w10 ⟨rfl, rfl⟩))
    by_cases hs : m.shop ∈ shopsL D.w
    · rw [decide_eq_true hs]
      have HE : Hid _ := hear_over HD.out HK4.out H0.out hs
      rw [hmk.out] at HE
      obtain ⟨n, hn, hn3, _⟩ := shopsL_mem.1 hs
      have h93 := h9q.next hw9
      have n0 : (0 : Int) ≤ m.shop := by omega
      have n3 : m.shop < 3 := by omega
      have hnn : m.shop.toNat = n := by omega
      have z0 : w10.cell? ⟨g, k * 9 + 6 + m.shop.toNat, none⟩ = some (.bool (decide ((n : Int) ∈ D.ov))) := by
        rw [hnn]
        have : n = 0 ∨ n = 1 ∨ n = 2 := by omega
        rcases this with rfl | rfl | rfl
        · exact h93.c6
        · exact h93.c7
        · exact h93.c8
      have fz := h93.fr
      have HT : Hid (BrkTo O w (w10.setCell ⟨g, k * 9 + (6 + m.shop.toNat), none⟩ (.bool true)) q (putD B (k : Int) { D with ov := addI D.ov m.shop })) := by
        rw [hnn, hn]
        exact brk_set HI.out HSub.out (after hbq hw9 hbq.size) HR.out HP.out (by omega) rfl (dcells_ov D _ n hn3)
      rw [← Nat.add_assoc] at HT
      clear hs hn hnn y0 y1 x2 h9q hXq
      go_wp2_with fail
      go_region
      all_goals
        go_wp2_with fail
        exact bodyPost_end (v := .tuple #[]) (by simp [results, Try.results96, go_sem]) rfl ⟨rfl, by rw [HE.out]; exact HT.out.next (by go_grown)⟩
    · rw [decide_eq_false hs]
      have HE : Hid _ := hear_over_no HD.out HK4.out (.inr hs)
      clear hs
      go_wp2_with fail
      exact bodyPost_end (v := .tuple #[]) (by simp [results, Try.results96, go_sem]) rfl ⟨rfl, by rw [HE.out]; exact BrkTo.stay HI.out (after hbq hw9 hbq.size)⟩

end Go.Proofs.Ytbgnajcmhmpjlab

/- The contracts of broker's hearSay and Hear. -/
namespace Go.Proofs.Ytbgnajcmhmpjlab
open Go.RowKit

theorem num_lies {W : World} {H : Nat} {a : Value} (h0 : W.cell? ⟨H, 0, none⟩ = some a) : ∀ j u, [a][j]? = some u → W.cell? ((⟨H, 0, none⟩ : Addr).add j) = some u := by
  intro j u hj
  match j, hj with
  | 0, hj => simp at hj; subst hj; simpa [Addr.add] using h0
  | j + 1, hj => simp at hj
theorem ixW_some {l : List (Int × Int)} {c d : Int} {i : Nat} (h : wantAt l c d = some i) : ixW l c d = (i : Int) := by unfold ixW; rw [h]
theorem ixW_none {l : List (Int × Int)} {c d : Int} (h : wantAt l c d = none) : ixW l c d = -1 := by unfold ixW; rw [h]

set_option maxHeartbeats 8000000 in
set_option maxRecDepth 100000 in
theorem rsay_any (O : Nat → Prop) (B : Bok) (q : Nat) (m : Ml) (D : Dl) (w : World) (h : BrkIn O w q B) (hI : BInv B) (hd : dealAt B m.deal = some D) (hk2 : m.kind = 2) :
    Calls Try.prog 95 #[.pointer (some ⟨q, 0, none⟩), .agg #[.int .i64 m.kind, .int .i64 m.deal, .int .i64 m.shop, .int .i64 m.c, .int .i64 m.d, .bool m.yes]] w fun e w' => e = .returned (.tuple #[]) ∧ BrkTo O w w' q (hearR B m) := by
  have HI : Hid (BrkIn O w q B) := h
  have HInv : Hid (BInv B) := hI
  have hF := hI.fit D (dealAt_mem hd)
  obtain ⟨rv, dv, P, hR, hsub⟩ := h.raw
  obtain ⟨k, hmk0, hk, hkD⟩ := dealAt_some hd
  have hmk : Hid (m.deal = (k : Int)) := hmk0
  have HK2 : Hid (m.kind = 2) := hk2
  clear hmk0 hk2
  obtain ⟨g, cap, v, rfl, hP, h9, hrow, hqg, _⟩ := hR.deal9 hkD
  obtain ⟨gw, capw, rfl, hWa, _⟩ := wants_of_own hrow
  have c0 := hR.c0
  have hql := h.lt
  have j0 : (0 : Int) ≤ (k : Int) := by omega
  have j1 : (k : Int) < (B.L.length : Int) := by omega
  have j2 : (B.L.length : Int) ≤ 8 := by have := hI.len; omega
  go_enter Try.func95, Try.ntmps95
  go_upto_region 1 with fail
  have hb1 : Below w.heap.size w (w.alloc (.cells #[.int .i64 m.kind, .int .i64 m.deal, .int .i64 m.shop, .int .i64 m.c, .int .i64 m.d, .bool m.yes] 71)) := (Below.refl _ _).alloc (Nat.le_refl _) _
  have hX := MBx.new w m
  generalize (w.alloc (.cells #[.int .i64 m.kind, .int .i64 m.deal, .int .i64 m.shop, .int .i64 m.c, .int .i64 m.d, .bool m.yes] 71)) = w1 at hb1 hX ⊢
  have h91 := h9.next hb1
  have c01 : w1.cell? ⟨q, 0, none⟩ = some (.slice (some ⟨g, 0, none⟩) B.L.length cap) := ((bcell hb1).1 _ _ hql).trans c0
  have HWa : Hid (WantsAt w1 gw D.w) := hWa.below hb1 (Nat.le_refl _)
  have hgw : g < w.heap.size := h9.lt
  have HBg : Hid (g ≠ w.heap.size ∧ w.heap.size ≤ w.heap.size) := by constructor <;> omega
  generalize hB0 : w.heap.size = B0 at hX ⊢
  have HB0 : Hid (w.heap.size = B0) := hB0
  clear hB0
  have x1 := hX.c1
  rw [hmk.out] at x1
  have hz1 := hX.lt
  have HR : Hid (BrkRaw w q B (.slice (some ⟨g, 0, none⟩) B.L.length cap) dv P) := hR
  have HP : Hid (P[k]? = some (D, .slice gw D.w.length capw)) := hP
  have HSub : Hid (∀ u ∈ (.slice (some ⟨g, 0, none⟩) B.L.length cap : Value) :: dv :: P.map Prod.snd, ∀ k, u.ownBlock = some k → O k) := hsub
  have HB1 : Hid (Below w.heap.size w w1) := hb1
  have HD : Hid _ := hd
  have HF : Hid (D.w.length ≤ 4) := hF.few
  have HDm : Hid (D ∈ B.L) := dealAt_mem hd
  clear h hR hP hsub hb1 hd h9 c0 hrow hWa hql hkD hF hI
  go_quiet (fail)
  go_wp2_with fail
  have hbq := bdrewN HB1.out nq
  have hXq := hX.next (w1 := w1.drewN nq) (bdrewN (Below.refl _ _) _)
  have h9q := h91.next (w1 := w1.drewN nq) (bdrewN (Below.refl _ _) _)
  have HWq : Hid (WantsAt (w1.drewN nq) gw D.w) := HWa.out.below (bdrewN (Below.refl _ _) _) (Nat.le_refl _)
  generalize (w1.drewN nq) = w2 at hbq hXq h9q HWq ⊢
  clear hX h91 HWa c01 x1 hz1 HB1
  have y0 := h9q.c0
  have hgl := h9q.lt
  have x3 := hXq.c3
  have x4 := hXq.c4
  have hbl := hXq.lt
  have HK : Hid (∀ w', Below w2.heap.size w2 w' → w'.cell? ⟨g, k * 9, none⟩ = some (.slice gw D.w.length capw) ∧ w'.cell? ⟨B0, 3, none⟩ = some (.int .i64 m.c) ∧ w'.cell? ⟨B0, 4, none⟩ = some (.int .i64 m.d) ∧ Below w2.heap.size w2 w') := fun w' hb => ⟨((bcell hb).1 _ _ hgl).trans y0, ((bcell hb).1 _ _ hbl).trans x3, ((bcell hb).1 _ _ hbl).trans x4, hb⟩
  have HIx : Hid (∀ W, Below w2.heap.size w2 W → Calls Try.prog 110 #[.slice gw D.w.length capw, .agg #[.int .i64 m.c, .int .i64 m.d]] W fun e w' => e = .returned (.int .i64 (ixW D.w m.c m.d)) ∧ Below W.heap.size W w') := fun W hW => ridx_any gw D.w.length capw D.w m.c m.d W (HWq.out.below hW (Nat.le_refl _)) rfl (by have := HF.out; omega)
  go_cut [5] (fun s5 wx => s5 = .int .i64 (ixW D.w m.c m.d) ∧ Below w2.heap.size w2 wx)
  case first =>
    go_region_held3 (fun w' => w'.cell? ⟨g, k * 9, none⟩ = some (.slice gw D.w.length capw) ∧ w'.cell? ⟨B0, 3, none⟩ = some (.int .i64 m.c) ∧ w'.cell? ⟨B0, 4, none⟩ = some (.int .i64 m.d) ∧ Below w2.heap.size w2 w')
      (first | exact HK.out _ (by go_grown))
      (first | (go_at_call 110; refine Calls.mono (HIx.out _ (by go_grown)) ?_; rintro e w9 ⟨rfl, hb9⟩; have hw9 : Below w2.heap.size w2 w9 := after (by go_grown) hb9 (by simp); have hz9 : w2.heap.size ≤ w9.heap.size := hw9.size))
    all_goals
      go_wp2_with fail
      go_meet
      case rel => exact ⟨rfl, hw9⟩
  case rest =>
    obtain ⟨rfl, hbc⟩ := hcut
    have hX3 := hXq.next hbc
    have h93 := h9q.next hbc
    have hb3 : Below w.heap.size w wc := after hbq hbc hbq.size
    have HW3 : Hid (WantsAt wc gw D.w) := HWq.out.below hbc (Nat.le_refl _)
    clear hXq h9q hbq HWq y0 x3 x4 hgl hbl HK HIx hbc
    have y1 := h93.c1
    have x2 := hX3.c2
    have x3 := hX3.c3
    have x5 := hX3.c5
    have x1 := hX3.c1
    by_cases h0 : D.st = 0
    · have h0' : (D.st != 0) = false := by simp [h0]
      have H0 : Hid (D.st = 0) := h0
      clear h0
      cases hw : wantAt D.w m.c m.d with
      | none =>
        rw [ixW_none hw]
        have HE : Hid _ := hear_say_no HD.out HK2.out (.inr (.inl hw))
        clear hw
        go_upto_region 3 with fail
        go_quiet (fail)
        go_wp2_with fail
        exact bodyPost_ret (v := .tuple #[]) (by simp [results, Try.results95, go_sem]) rfl ⟨rfl, by rw [HE.out]; exact BrkTo.stay HI.out (bdrewN hb3 _)⟩
      | some i =>
        rw [ixW_some hw]
        have hiw := wantAt_some hw
        have hil := (List.getElem?_eq_some_iff.1 hiw).1
        have i0 : (0 : Int) ≤ (i : Int) := by omega
        have i4 : (i : Int) < 4 := by have := HF.out; omega
        by_cases hs : shp m.c = m.shop
        · have hs' : (shp m.c != m.shop) = false := by simp [hs]
          cases hy : m.yes with
          | false =>
            have HE : Hid _ := hear_say_nay HD.out HK2.out H0.out hw hs hy
            rw [hmk.out] at HE
            rw [hy] at x5
            have fz := h93.fr
            have HT : Hid (∀ w4, Below wc.heap.size wc w4 → BrkTo O w (w4.setCell ⟨g, k * 9 + 1, none⟩ (.int .i64 2)) q (putD B (k : Int) { D with st := 2 })) := fun w4 h4 => brk_set HI.out HSub.out (after hb3 h4 hb3.size) HR.out HP.out (by decide) rfl (dcells_st D _ 2)
            clear hw hs hy
            go_upto_region 3 with fail
            go_quiet ((go_at_call 59; exact Calls.quiet_of_same (shop_any _ _)))
            go_wp2_with fail
            exact bodyPost_ret (v := .tuple #[]) (by simp [results, Try.results95, go_sem]) rfl ⟨rfl, by rw [HE.out]; exact HT.out _ (bdrewN (Below.refl _ _) _)⟩
          | true =>
            have HE : Hid _ := hear_say_yes HD.out HK2.out H0.out hw hs hy
            rw [hmk.out] at HE
            rw [hy] at x5
            have HY : Hid (m.yes = true) := hy
            have HHl : Hid (i < 4 ∧ D.w[i]? = some (m.c, m.d)) := ⟨by have := HF.out; omega, hiw⟩
            clear hw hs hy hiw hil
            go_upto_region 3 with fail
            go_quiet ((go_at_call 59; exact Calls.quiet_of_same (shop_any _ _)))
            have hb4 := bdrewN hb3 nq
            have hX4 := hX3.next (w1 := wc.drewN nq) (bdrewN (Below.refl _ _) _)
            have h94 := h93.next (w1 := wc.drewN nq) (bdrewN (Below.refl _ _) _)
            have HW4 : Hid (WantsAt (wc.drewN nq) gw D.w) := HW3.out.below (bdrewN (Below.refl _ _) _) (Nat.le_refl _)
            generalize (wc.drewN nq) = w4 at hb4 hX4 h94 HW4 ⊢
            clear hX3 h93 hb3 HW3 y1 x2 x3 x5 x1
            have x5 := hX4.c5
            rw [HY.out] at x5
            obtain ⟨E, hE⟩ : ∃ E, E = ({ D with yes := addI D.yes (i : Int) } : Dl) := ⟨_, rfl⟩
            have z0 : w4.cell? ⟨g, k * 9 + 2 + i, none⟩ = some (.bool (decide ((i : Int) ∈ D.yes))) := by
              have h4 := HHl.out.1
              have : i = 0 ∨ i = 1 ∨ i = 2 ∨ i = 3 := by omega
              rcases this with rfl | rfl | rfl | rfl
              · exact h94.c2
              · exact h94.c3
              · exact h94.c4
              · exact h94.c5
            have fz := h94.fr
            have hgl := h94.lt
            have hR4 : BrkRaw w4 q B (.slice (some ⟨g, 0, none⟩) B.L.length cap) dv P := HR.out.save HI.out.lt (.of_below (O := fun _ => False) hb4) (fun q => q) (fun _ _ _ _ q => q)
            have hql4 : q < w4.heap.size := Nat.lt_of_lt_of_le HI.out.lt hb4.size
            have hR5 := hR4.set (D' := E) (j := 2 + i) (u := .bool true) hql4 HP.out (by have := HHl.out.1; omega) (by rw [hE]) (by rw [hE]; exact dcells_yes D _ i HHl.out.1)
            rw [← Nat.add_assoc] at hR5
            have hS5 : Save (fun b => b = g) w4 (w4.setCell ⟨g, k * 9 + 2 + i, none⟩ (.bool true)) := Save.setCell (O := fun b => b = g) (Save.refl _ _) (p := ⟨g, k * 9 + 2 + i, none⟩) (fun _ => rfl) _
            have hX5 := hX4.save hS5 (fun e => by have := HBg.out.1; have := HB0.out; omega)
            have HB4 : Hid (Below w.heap.size w w4) := hb4
            have hl5 : q < (w4.setCell ⟨g, k * 9 + 2 + i, none⟩ (.bool true)).heap.size := by simpa using hql4
            have hf5 : ∀ j, (w4.setCell ⟨g, k * 9 + 2 + i, none⟩ (.bool true)).frozen? ⟨q, j, none⟩ = false := by simpa [go_sem] using (HI.out.next hb4).loose
            have HSv5 : Hid (Save O w (w4.setCell ⟨g, k * 9 + 2 + i, none⟩ (.bool true))) := Save.setCell (Save.of_below hb4) (p := ⟨g, k * 9 + 2 + i, none⟩) (fun _ => HSub.out _ List.mem_cons_self g rfl) _
            go_upto_region 7 with fail
            generalize (w4.setCell ⟨g, k * 9 + 2 + i, none⟩ (.bool true)) = w5 at hR5 hX5 hl5 hf5 HSv5 ⊢
            clear hX4 h94 hb4 HW4 x5 z0 fz hgl hR4 hql4 hS5
            have hPk : (P.set k (E, .slice gw D.w.length capw))[k]? = some (E, .slice gw D.w.length capw) := List.getElem?_set_self (List.getElem?_eq_some_iff.1 HP.out).1
            have hEL : (putD B (k : Int) E).L[k]? = some E := by
              show (B.L.set (k : Int).toNat E)[k]? = some E
              rw [Int.toNat_natCast]
              exact List.getElem?_set_self hk
            obtain ⟨g', cap', v', e', hP', h95, hrow5, _, _⟩ := hR5.deal9 hEL
            have eg : g = g' := by
              simp only [Value.slice.injEq, Option.some.injEq, Addr.mk.injEq] at e'
              exact e'.1.1
            subst eg
            rw [hPk] at hP'
            have ev : v' = .slice gw D.w.length capw := by simpa using (Option.some.inj hP').symm
            subst ev
            have hEw : E.w = D.w := by rw [hE]
            obtain ⟨gw', capw', ew, hWa5, _⟩ := wants_of_own hrow5
            obtain ⟨rfl, rfl⟩ : gw = gw' ∧ capw = capw' := by
              simp only [Value.slice.injEq] at ew
              exact ⟨ew.1, ew.2.2⟩
            rw [hEw] at hWa5
            have HEw : Hid (E.w = D.w) := hEw
            have HWa5 : Hid (WantsAt w5 gw D.w) := hWa5
            obtain ⟨ll, hll⟩ : ∃ ll, ll = asksR m.deal E.yes 0 D.w := ⟨_, rfl⟩
            have HAs : Hid (∀ W, Below w5.heap.size w5 W → Calls Try.prog 81 #[.agg #[.slice gw D.w.length capw, .int .i64 E.st, .bool (decide ((0 : Int) ∈ E.yes)), .bool (decide ((1 : Int) ∈ E.yes)), .bool (decide ((2 : Int) ∈ E.yes)), .bool (decide ((3 : Int) ∈ E.yes)), .bool (decide ((0 : Int) ∈ E.ov)), .bool (decide ((1 : Int) ∈ E.ov)), .bool (decide ((2 : Int) ∈ E.ov))], .int .i64 m.deal] W fun e w' => (∃ v, e = .returned v ∧ w'.ownsRow W.heap.size 71 6 v ll.length (flat6 ll)) ∧ Below W.heap.size W w') := fun W hW => by
              have := rasks_any E m.deal gw capw W (by rw [HEw.out]; exact HWa5.out.below hW (Nat.le_refl _)) (by rw [HEw.out]; exact HF.out)
              rw [HEw.out] at this
              rw [hll]
              exact this
            have hyn := HInv.out.ynd D HDm.out
            have hyi := HInv.out.yin D HDm.out
            have HAll : Hid (ll.length = 0 ↔ (addI D.yes (i : Int)).length = D.w.length) := by
              have h1 := asks_empty (n := m.deal) (w := D.w) (addI_nodup hyn (i : Int)) (addI_in hyi HHl.out.2 rfl)
              show _ ↔ _
              rw [← h1, hll, List.length_eq_zero_iff, hE]
            have HEE : Hid (E = ({ D with yes := addI D.yes (i : Int) } : Dl)) := hE
            have HR5 : Hid (BrkRaw w5 q (putD B (k : Int) E) (.slice (some ⟨g, 0, none⟩) B.L.length cap) dv (P.set k (E, .slice gw D.w.length capw))) := hR5
            have HPk : Hid _ := hPk
            clear hR5 hPk hEL hP' e' hrow5 hEw ew hWa5 hyn hyi hll hE
            obtain ⟨d0, d1, d2, d3, d4, d5, d6, d7, d8, dl, df⟩ := h95
            have x1 := hX5.c1
            have xl := hX5.lt
            have HK : Hid (∀ w', Below w5.heap.size w5 w' → w'.cell? ⟨g, k * 9, none⟩ = some (.slice gw D.w.length capw) ∧ w'.cell? ⟨g, k * 9 + 1, none⟩ = some (.int .i64 E.st) ∧ w'.cell? ⟨g, k * 9 + 2, none⟩ = some (.bool (decide ((0 : Int) ∈ E.yes))) ∧ w'.cell? ⟨g, k * 9 + 3, none⟩ = some (.bool (decide ((1 : Int) ∈ E.yes))) ∧ w'.cell? ⟨g, k * 9 + 4, none⟩ = some (.bool (decide ((2 : Int) ∈ E.yes))) ∧ w'.cell? ⟨g, k * 9 + 5, none⟩ = some (.bool (decide ((3 : Int) ∈ E.yes))) ∧ w'.cell? ⟨g, k * 9 + 6, none⟩ = some (.bool (decide ((0 : Int) ∈ E.ov))) ∧ w'.cell? ⟨g, k * 9 + 7, none⟩ = some (.bool (decide ((1 : Int) ∈ E.ov))) ∧ w'.cell? ⟨g, k * 9 + 8, none⟩ = some (.bool (decide ((2 : Int) ∈ E.ov))) ∧ w'.cell? ⟨B0, 1, none⟩ = some (.int .i64 m.deal) ∧ Below w5.heap.size w5 w') := fun w' hb => ⟨((bcell hb).1 _ _ dl).trans d0, ((bcell hb).1 _ _ dl).trans d1, ((bcell hb).1 _ _ dl).trans d2, ((bcell hb).1 _ _ dl).trans d3, ((bcell hb).1 _ _ dl).trans d4, ((bcell hb).1 _ _ dl).trans d5, ((bcell hb).1 _ _ dl).trans d6, ((bcell hb).1 _ _ dl).trans d7, ((bcell hb).1 _ _ dl).trans d8, ((bcell hb).1 _ _ xl).trans x1, hb⟩
            clear d0 d1 d2 d3 d4 d5 d6 d7 d8
            go_region_held3 (fun w' => w'.cell? ⟨g, k * 9, none⟩ = some (.slice gw D.w.length capw) ∧ w'.cell? ⟨g, k * 9 + 1, none⟩ = some (.int .i64 E.st) ∧ w'.cell? ⟨g, k * 9 + 2, none⟩ = some (.bool (decide ((0 : Int) ∈ E.yes))) ∧ w'.cell? ⟨g, k * 9 + 3, none⟩ = some (.bool (decide ((1 : Int) ∈ E.yes))) ∧ w'.cell? ⟨g, k * 9 + 4, none⟩ = some (.bool (decide ((2 : Int) ∈ E.yes))) ∧ w'.cell? ⟨g, k * 9 + 5, none⟩ = some (.bool (decide ((3 : Int) ∈ E.yes))) ∧ w'.cell? ⟨g, k * 9 + 6, none⟩ = some (.bool (decide ((0 : Int) ∈ E.ov))) ∧ w'.cell? ⟨g, k * 9 + 7, none⟩ = some (.bool (decide ((1 : Int) ∈ E.ov))) ∧ w'.cell? ⟨g, k * 9 + 8, none⟩ = some (.bool (decide ((2 : Int) ∈ E.ov))) ∧ w'.cell? ⟨B0, 1, none⟩ = some (.int .i64 m.deal) ∧ Below w5.heap.size w5 w')
              (first | exact HK.out _ (by go_grown))
              (first | (go_at_call 81; refine Calls.mono (HAs.out _ (by go_grown)) ?_; rintro e w6 ⟨⟨v6, rfl, hown6⟩, hb6⟩; obtain ⟨ga6, cap6, rfl⟩ := own_sl hown6; clear hown6; have hw6 : Below w5.heap.size w5 w6 := after (by go_grown) hb6 (by simp); have hz6 : w5.heap.size ≤ w6.heap.size := hw6.size))
            have d1 := (HK.out w6 hw6).2.1
            clear HK HAs HWa5
            have hX6 := hX5.next hw6
            have x1 := hX6.c1
            have hf6 := loose q hw6 hl5 hf5
            have hg6 := loose g hw6 dl df
            have hl6 : q < w6.heap.size := Nat.lt_of_lt_of_le hl5 hw6.size
            have hR6 : BrkRaw w6 q (putD B (k : Int) E) (.slice (some ⟨g, 0, none⟩) B.L.length cap) dv (P.set k (E, .slice gw D.w.length capw)) := HR5.out.save hl5 (.of_below (O := fun _ => False) hw6) (fun q => q) (fun _ _ _ _ q => q)
            have HSv6 : Hid (Save O w w6) := HSv5.out.next hw6
            have HRows : Hid (∀ u ∈ (.slice (some ⟨g, 0, none⟩) B.L.length cap : Value) :: dv :: (P.set k (E, .slice gw D.w.length capw)).map Prod.snd, ∀ j, u.ownBlock = some j → O j ∧ j < w6.heap.size) := by
              intro u hu j hj
              rw [map_set_snd HP.out] at hu
              have h1 := HSub.out u hu j hj
              exact ⟨h1, Nat.lt_of_lt_of_le (HI.out.own j h1) HSv6.out.size⟩
            by_cases hl : (addI D.yes (i : Int)).length = D.w.length
            · have hl0 : ll.length = 0 := HAll.out.2 hl
              have hl' : ((ll.length : Int) == 0) = true := by simp [hl0]
              have HL : Hid _ := hl
              have hPk6 := HPk.out
              have hR7 := hR6.set (D' := { E with st := 1 }) (j := 1) (u := .int .i64 1) hl6 hPk6 (by decide) rfl (dcells_st E _ 1)
              have hS7 : Save (fun b => b = g) w6 (w6.setCell ⟨g, k * 9 + 1, none⟩ (.int .i64 1)) := Save.setCell (O := fun b => b = g) (Save.refl _ _) (p := ⟨g, k * 9 + 1, none⟩) (fun _ => rfl) _
              have hX7 := hX6.save hS7 (fun e => by have := HBg.out.1; have := HB0.out; omega)
              have hl7 : q < (w6.setCell ⟨g, k * 9 + 1, none⟩ (.int .i64 1)).heap.size := by simpa using hl6
              have hf7 : ∀ j, (w6.setCell ⟨g, k * 9 + 1, none⟩ (.int .i64 1)).frozen? ⟨q, j, none⟩ = false := by simpa [go_sem] using hf6
              have HSv7 : Hid (Save O w (w6.setCell ⟨g, k * 9 + 1, none⟩ (.int .i64 1))) := HSv6.out.setCell (p := ⟨g, k * 9 + 1, none⟩) (fun _ => HSub.out _ List.mem_cons_self g rfl) _
              have HRw7 : Hid (∀ u ∈ (.slice (some ⟨g, 0, none⟩) B.L.length cap : Value) :: dv :: ((P.set k (E, .slice gw D.w.length capw)).set k ({ E with st := 1 }, .slice gw D.w.length capw)).map Prod.snd, ∀ j, u.ownBlock = some j → O j ∧ j < (w6.setCell ⟨g, k * 9 + 1, none⟩ (.int .i64 1)).heap.size) := by
                intro u hu j hj
                rw [map_set_snd hPk6] at hu
                have := HRows.out u hu j hj
                exact ⟨this.1, by simpa using this.2⟩
              clear hl hl0 hPk6 hR6 hX6 x1
              go_upto_region 9 with fail
              generalize (w6.setCell ⟨g, k * 9 + 1, none⟩ (.int .i64 1)) = w7 at hR7 hX7 hl7 hf7 HSv7 HRw7 ⊢
              clear hS7 HSv6 hf6 hg6 hl6 d1 dl df xl
              have c1 := hR7.c1
              have hord : w7.ownsRow (q + 1) 3 1 dv B.ord.length (B.ord.map (Value.int .i64)) := hR7.ord
              obtain ⟨gd, capd, rfl⟩ := own_sl hord
              have HOrd : Hid (w7.ownsRow (q + 1) 3 1 (.slice gd B.ord.length capd) B.ord.length (B.ord.map (Value.int .i64))) := hord
              have HR7 : Hid (BrkRaw w7 q (putD (putD B (k : Int) E) (k : Int) { E with st := 1 }) (.slice (some ⟨g, 0, none⟩) B.L.length cap) (.slice gd B.ord.length capd) ((P.set k (E, .slice gw D.w.length capw)).set k ({ E with st := 1 }, .slice gw D.w.length capw))) := hR7
              have HN1 : Hid (some q ≠ (.slice gd B.ord.length capd : Value).ownBlock) := fun e => by have := (HOrd.out.lt q e.symm).1; omega
              have HLo : Hid (B.ord.length ≤ 8) := HInv.out.ordLen
              have x1 := hX7.c1
              have xl := hX7.lt
              obtain ⟨ii, hi, hz0, hz1, hz2⟩ := info_parts infoInt
              clear hR7 hord hX7
              go_region_law
                (first | (refine step_append_two (by rfl) (.tmp 64) (.tmp 67) 42 (by rfl) (q + 1) 3 ii (.int .i64 0) 1 8 Try.underlying42 hi hz0 hz1 hz2 rfl (by decide) (.slice gd B.ord.length capd) _ _ (by rfl) (own_next HOrd.out (by go_grown)) ⟨w7.heap.size, 0, none⟩ 1 1 [.int .i64 m.deal] (by rfl) rfl (num_lies (by simp [go_sem])) num_cell (by have := HLo.out; unfold maxLen; omega) (by have := HLo.out; omega) (by simp; omega) (by decide) ?_; intro v8 w8 hown8 hgrow8 hwh8; obtain ⟨ga8, cap8, rfl⟩ := own_sl hown8; have HO8 : Hid (w8.ownsRow (q + 1) 3 1 (.slice ga8 (B.ord.length + 1) cap8) (B.ord.length + 1) (B.ord.map (Value.int .i64) ++ [.int .i64 m.deal])) := hown8; clear hown8; have HW8 : Hid _ := hwh8; clear hwh8; have k8 : w8.cell? ⟨q, 1, none⟩ = some (.slice gd B.ord.length capd) := hgrow8.cell (by simp [go_sem, c1, hl7]) HN1.out; have f8 : ∀ k, w8.frozen? ⟨q, k, none⟩ = false := fun k => (World.frozen?_of_block (hgrow8.block q (by simp; omega) HN1.out)).trans (by simp [go_sem, hf7, hl7])))
              all_goals
                have h8 : Save (fun k => (Value.slice gd B.ord.length capd).ownBlock = some k) w7 w8 := (Save.of_below (by go_grown)).grown hgrow8 (fun k e _ => e)
                have hW8 : ∀ k, (Value.slice ga8 (B.ord.length + 1) cap8).ownBlock = some k → (Value.slice gd B.ord.length capd).ownBlock = some k ∨ w7.heap.size ≤ k := fun k hk => (HW8.out k hk).imp id (fun e => by rw [e]; simp)
                clear hgrow8 x1 c1
                go_wp2_with fail
                refine bodyPost_end (v := .tuple #[]) (by simp [results, Try.results95, go_sem]) rfl ⟨rfl, ?_⟩
                rw [HE.out, if_pos HL.out]
                have e8 : (B.ord ++ [(k : Int)]).length = B.ord.length + 1 := by simp
                have e9 : (B.ord ++ [(k : Int)]).map (Value.int .i64) = B.ord.map (Value.int .i64) ++ [.int .i64 m.deal] := by rw [hmk.out]; simp
                have hR9 := HR7.out.ordr (l := B.ord ++ [(k : Int)]) (v8 := .slice ga8 (B.ord.length + 1) cap8) hl7 (fun u hu j hj => (HRw7.out u hu j hj).2) h8 (by rw [e8, e9]; exact HO8.out) hW8
                have eB : ({ putD (putD B (k : Int) E) (k : Int) { E with st := 1 } with ord := B.ord ++ [(k : Int)] } : Bok) = { putD B (k : Int) { D with yes := addI D.yes (i : Int), st := 1 } with ord := B.ord ++ [(k : Int)] } := by
                  rw [HEE.out]
                  unfold putD
                  simp
                rw [eB] at hR9
                refine brk_to HI.out.own HI.out.mine ?_ hR9 (by simpa [go_sem] using f8) ?_
                · exact (HSv7.out.trans h8 (fun j _ e => (HRw7.out _ (by simp) j e).1)).setCell (p := ⟨q, 1, none⟩) (fun _ => HI.out.mine) _
                · intro u hu j hj
                  have hsz : (w8.setCell (⟨q, 1, none⟩ : Addr) (.slice ga8 (B.ord.length + 1) cap8)).heap.size = w8.heap.size := by simp
                  rw [hsz]
                  have z1 := HSv7.out.size
                  have z8 := h8.size
                  have old : ∀ x ∈ (.slice (some ⟨g, 0, none⟩) B.L.length cap : Value) :: (.slice gd B.ord.length capd) :: ((P.set k (E, .slice gw D.w.length capw)).set k ({ E with st := 1 }, .slice gw D.w.length capw)).map Prod.snd, x.ownBlock = some j → (O j ∨ w.heap.size ≤ j) ∧ j < w8.heap.size := fun x hx hj => ⟨.inl (HRw7.out x hx j hj).1, by have := (HRw7.out x hx j hj).2; omega⟩
                  rcases List.mem_cons.1 hu with rfl | hu
                  · exact old _ (by simp) hj
                  · rcases List.mem_cons.1 hu with rfl | hu
                    · refine ⟨?_, (HO8.out.lt j hj).2⟩
                      rcases hW8 j hj with e | e
                      · exact (old _ (by simp) e).1
                      · exact .inr (by omega)
                    · exact old _ (List.mem_cons_of_mem _ (List.mem_cons_of_mem _ hu)) hj
            · have hl0 : ¬ ll.length = 0 := fun q => hl (HAll.out.1 q)
              have hl' : ((ll.length : Int) == 0) = false := by rw [beq_eq_false_iff_ne]; omega
              have HL : Hid _ := hl
              clear hl hl0
              go_wp2_with fail
              refine bodyPost_end (v := .tuple #[]) (by simp [results, Try.results95, go_sem]) rfl ⟨rfl, ?_⟩
              rw [HE.out, if_neg HL.out, ← HEE.out]
              exact brk_to HI.out.own HI.out.mine HSv6.out hR6 hf6 (fun u hu j hj => ⟨.inl (HRows.out u hu j hj).1, (HRows.out u hu j hj).2⟩)
        · have hs' : (shp m.c != m.shop) = true := by simpa using hs
          have HE : Hid _ := hear_say_no HD.out HK2.out (.inr (.inr hs))
          clear hw hs
          go_upto_region 3 with fail
          go_quiet ((go_at_call 59; exact Calls.quiet_of_same (shop_any _ _)))
          go_wp2_with fail
          exact bodyPost_ret (v := .tuple #[]) (by simp [results, Try.results95, go_sem]) rfl ⟨rfl, by rw [HE.out]; exact BrkTo.stay HI.out (bdrewN hb3 _)⟩
    · have h0' : (D.st != 0) = true := by simpa using h0
      have HE : Hid _ := hear_say_no HD.out HK2.out (.inl h0)
      clear h0
      go_upto_region 3 with fail
      go_quiet (fail)
      go_wp2_with fail
      exact bodyPost_ret (v := .tuple #[]) (by simp [results, Try.results95, go_sem]) rfl ⟨rfl, by rw [HE.out]; exact BrkTo.stay HI.out (bdrewN hb3 _)⟩

theorem hear_none {B : Bok} {m : Ml} (h : dealAt B m.deal = none) : hearR B m = B := by
  unfold hearR
  rw [h]
theorem hear_other {B : Bok} {m : Ml} (h2 : m.kind ≠ 2) (h4 : m.kind ≠ 4) : hearR B m = B := by
  unfold hearR
  cases hd : dealAt B m.deal with
  | none => rfl
  | some D =>
    simp only
    rw [if_neg (fun q : m.kind = 2 ∧ _ => h2 q.1), if_neg (fun q : m.kind = 4 ∧ _ => h4 q.1)]
    split <;> rfl

set_option maxHeartbeats 4000000 in
set_option maxRecDepth 100000 in
theorem rhear_any (O : Nat → Prop) (B : Bok) (q : Nat) (m : Ml) (w : World) (h : BrkIn O w q B) (hI : BInv B) :
    Calls Try.prog 75 #[.pointer (some ⟨q, 0, none⟩), .agg #[.int .i64 m.kind, .int .i64 m.deal, .int .i64 m.shop, .int .i64 m.c, .int .i64 m.d, .bool m.yes]] w fun e w' => e = .returned (.tuple #[]) ∧ BrkTo O w w' q (hearR B m) := by
  have HI : Hid (BrkIn O w q B) := h
  have HInv : Hid (BInv B) := hI
  have hql := h.lt
  clear h hI
  go_enter Try.func75, Try.ntmps75
  go_upto_region 1 with fail
  have hb1 : Below w.heap.size w (w.alloc (.cells #[.int .i64 m.kind, .int .i64 m.deal, .int .i64 m.shop, .int .i64 m.c, .int .i64 m.d, .bool m.yes] 71)) := (Below.refl _ _).alloc (Nat.le_refl _) _
  have hX := MBx.new w m
  generalize (w.alloc (.cells #[.int .i64 m.kind, .int .i64 m.deal, .int .i64 m.shop, .int .i64 m.c, .int .i64 m.d, .bool m.yes] 71)) = w1 at hb1 hX ⊢
  have HI1 : Hid (BrkIn O w1 q B) := HI.out.next hb1
  have HH : Hid _ := rhas_any O B q m.deal w1 HI1.out HInv.out.len
  have HB1 : Hid (Below w.heap.size w w1) := hb1
  generalize w.heap.size = B0 at hX ⊢
  obtain ⟨_, x0, x1, x2, x3, x4, x5⟩ := hX
  clear hb1
  cases hd : dealAt B m.deal with
  | none =>
    rw [hd] at HH
    have HE : Hid _ := hear_none hd
    clear hd
    go_wp2_with fail
    refine Calls.mono HH.out ?_
    rintro e w' ⟨rfl, rfl⟩
    go_wp2_with fail
    exact bodyPost_ret (v := .tuple #[]) (by simp [results, Try.results75, go_sem]) rfl ⟨rfl, by rw [HE.out]; exact BrkTo.stay HI.out HB1.out⟩
  | some D =>
    rw [hd] at HH
    by_cases h2 : m.kind = 2
    · have HC : Hid _ := rsay_any O B q m D w1 HI1.out HInv.out hd h2
      have h2' : (m.kind == 2) = true := by simp [h2]
      clear hd h2
      go_wp2_with fail
      refine Calls.mono HH.out ?_
      rintro e w' ⟨rfl, rfl⟩
      go_wp2_with fail
      refine Calls.mono HC.out ?_
      rintro e w2 ⟨rfl, hT⟩
      go_wp2_with fail
      exact bodyPost_end (v := .tuple #[]) (by simp [results, Try.results75, go_sem]) rfl ⟨rfl, hT.behind HB1.out⟩
    · have h2' : (m.kind == 2) = false := by simpa using h2
      by_cases h4 : m.kind = 4
      · have HC : Hid _ := rover_any O B q m D w1 HI1.out HInv.out hd h4
        have h4' : (m.kind == 4) = true := by simp [h4]
        clear hd h2 h4
        go_wp2_with fail
        refine Calls.mono HH.out ?_
        rintro e w' ⟨rfl, rfl⟩
        go_wp2_with fail
        refine Calls.mono HC.out ?_
        rintro e w2 ⟨rfl, hT⟩
        go_wp2_with fail
        exact bodyPost_end (v := .tuple #[]) (by simp [results, Try.results75, go_sem]) rfl ⟨rfl, hT.behind HB1.out⟩
      · have h4' : (m.kind == 4) = false := by simpa using h4
        have HE : Hid (hearR B m = B) := hear_other h2 h4
        clear hd h2 h4
        go_wp2_with fail
        refine Calls.mono HH.out ?_
        rintro e w' ⟨rfl, rfl⟩
        go_wp2_with fail
        exact bodyPost_end (v := .tuple #[]) (by simp [results, Try.results75, go_sem]) rfl ⟨rfl, by rw [HE.out]; exact BrkTo.stay HI.out HB1.out⟩

end Go.Proofs.Ytbgnajcmhmpjlab

namespace Go.Proofs.Ytbgnajcmhmpjlab
open Go.RowKit

/-- A broker of one's own, made since w0, in blocks outside Z. -/
structure RLv (w0 : World) (Z : Nat → Prop) (w : World) (q : Nat) (B : Bok) : Prop where
  inn : ∃ O, BrkIn O w q B ∧ ∀ k, O k → w0.heap.size ≤ k ∧ ¬ Z k
  below : Below w0.heap.size w0 w
  kept : ∀ k, Z k → k < w.heap.size
  inv : BInv B
theorem RLv.more {w0 w w1 : World} {Z Z' : Nat → Prop} {q : Nat} {B : Bok} (h : RLv w0 Z w q B) (hb : Below w.heap.size w w1) (hZ : ∀ k, Z' k → Z k ∨ (w.heap.size ≤ k ∧ k < w1.heap.size)) : RLv w0 Z' w1 q B := by
  obtain ⟨O, h1, h2⟩ := h.inn
  refine ⟨⟨O, h1.next hb, fun k hk => ⟨(h2 k hk).1, fun hk' => ?_⟩⟩, after h.below hb h.below.size, fun k hk => ?_, h.inv⟩
  · rcases hZ k hk' with q | q
    · exact (h2 k hk).2 q
    · have := h1.own k hk
      omega
  · rcases hZ k hk with q | q
    · exact Nat.lt_of_lt_of_le (h.kept k q) hb.size
    · exact q.2
theorem RLv.next {w0 w w1 : World} {Z : Nat → Prop} {q : Nat} {B : Bok} (h : RLv w0 Z w q B) (hb : Below w.heap.size w w1) : RLv w0 Z w1 q B := h.more hb (fun _ hk => .inl hk)
theorem RLv.less {w0 w : World} {Z Z' : Nat → Prop} {q : Nat} {B : Bok} (h : RLv w0 Z w q B) (hZ : ∀ k, Z' k → Z k) : RLv w0 Z' w q B := h.more (Below.refl _ _) (fun k hk => .inl (hZ k hk))
theorem RLv.cons {w0 w w1 : World} {l : List Nat} {b q : Nat} {B : Bok} (h : RLv w0 (fun k => k ∈ l) w q B) (hb : Below w.heap.size w w1) (h1 : w.heap.size ≤ b) (h2 : b < w1.heap.size) : RLv w0 (fun k => k ∈ b :: l) w1 q B :=
  h.more hb (fun k hk => by
    rcases List.mem_cons.1 hk with rfl | q
    · exact .inr ⟨h1, h2⟩
    · exact .inl q)
theorem RLv.keep {O : Nat → Prop} {w0 w w1 : World} {Z : Nat → Prop} {q : Nat} {B : Bok} (h : RLv w0 Z w q B) (hs : Save O w w1) (hO : ∀ k, O k → Z k ∧ w0.heap.size ≤ k) : RLv w0 Z w1 q B := by
  obtain ⟨Q, h1, h2⟩ := h.inn
  exact ⟨⟨Q, h1.save hs (fun k hk hq => (h2 k hk).2 (hO k hq).1), h2⟩, h.below.trans (hs.below (fun k hk hq => by have := (hO k hq).2; omega) h.below.size), fun k hk => Nat.lt_of_lt_of_le (h.kept k hk) hs.size, h.inv⟩
theorem RLv.step {O : Nat → Prop} {w0 w w1 : World} {Z : Nat → Prop} {q : Nat} {B B' : Bok} (h : RLv w0 Z w q B) (h2 : ∀ k, O k → w0.heap.size ≤ k ∧ ¬ Z k) (hs : BrkTo O w w1 q B') (hI : BInv B') : RLv w0 Z w1 q B' ∧ Save (fun k => ¬ Z k) w w1 := by
  obtain ⟨O', h3, h4, h5⟩ := hs
  exact ⟨⟨⟨O', h3, fun k hk => (h5 k hk).elim (h2 k) (fun q => ⟨Nat.le_trans h.below.size q, fun hk' => by have := h.kept k hk'; omega⟩)⟩, h.below.trans (h4.below (fun k hk hO => by have := (h2 k hO).1; omega) h.below.size), fun k hk => Nat.lt_of_lt_of_le (h.kept k hk) h4.size, hI⟩, h4.mono (fun k _ hk => (h2 k hk).2)⟩
theorem new_rlv (w : World) : Calls Try.prog 47 #[] w fun e w' => ∃ q, e = .returned (.pointer (some ⟨q, 0, none⟩)) ∧ RLv w (fun k => k ∈ ([] : List Nat)) w' q ⟨[], []⟩ ∧ Below w.heap.size w w' := by
  refine (rnew_any w).mono ?_
  rintro e w' ⟨⟨q, O, he, hI, hO⟩, hb⟩
  exact ⟨q, he, ⟨⟨O, hI, fun k hk => ⟨hO k hk, by simp⟩⟩, hb, fun k hk => by simp at hk, binv_new⟩, hb⟩
theorem begin_rlv {w0 w : World} {Z : Nat → Prop} {q : Nat} {B : Bok} {la : Option Addr} {ll lc : Nat} {l : List (Int × Int)} (h : RLv w0 Z w q B) (hl : WantsAt w la l) (hll : l.length = ll) : Calls Try.prog 74 #[.pointer (some ⟨q, 0, none⟩), .slice la ll lc] w fun e w' => e = .returned (.tuple #[.int .i64 (beginR B l).1, .int .i64 (beginR B l).2.1]) ∧ RLv w0 Z w' q (beginR B l).2.2 ∧ Save (fun k => ¬ Z k) w w' := by
  obtain ⟨O, h1, h2⟩ := h.inn
  exact (rbegin_any O B q la ll lc l w h1 h.inv hl hll).mono (fun e w' z => ⟨z.1, h.step h2 z.2 (h.inv.begin l)⟩)
theorem quit_rlv {w0 w : World} {Z : Nat → Prop} {q : Nat} {B : Bok} (n : Int) (h : RLv w0 Z w q B) : Calls Try.prog 76 #[.pointer (some ⟨q, 0, none⟩), .int .i64 n] w fun e w' => e = .returned (.int .i64 (quitR B n).1) ∧ RLv w0 Z w' q (quitR B n).2 ∧ Save (fun k => ¬ Z k) w w' := by
  obtain ⟨O, h1, h2⟩ := h.inn
  exact (rquit_any O B q n w h1 h.inv).mono (fun e w' z => ⟨z.1, h.step h2 z.2 (h.inv.quit n)⟩)
theorem hear_rlv {w0 w : World} {Z : Nat → Prop} {q : Nat} {B : Bok} (m : Ml) (h : RLv w0 Z w q B) : Calls Try.prog 75 #[.pointer (some ⟨q, 0, none⟩), .agg #[.int .i64 m.kind, .int .i64 m.deal, .int .i64 m.shop, .int .i64 m.c, .int .i64 m.d, .bool m.yes]] w fun e w' => e = .returned (.tuple #[]) ∧ RLv w0 Z w' q (hearR B m) ∧ Save (fun k => ¬ Z k) w w' := by
  obtain ⟨O, h1, h2⟩ := h.inn
  exact (rhear_any O B q m w h1 h.inv).mono (fun e w' z => ⟨z.1, h.step h2 z.2 (h.inv.hear m)⟩)
theorem len_rlv {w0 w : World} {Z : Nat → Prop} {q : Nat} {B : Bok} (h : RLv w0 Z w q B) : Calls Try.prog 49 #[.pointer (some ⟨q, 0, none⟩)] w fun e w' => e = .returned (.int .i64 (B.L.length : Int)) ∧ w' = w := by
  obtain ⟨O, h1, _⟩ := h.inn
  exact rlen_any O B q w h1
theorem state_rlv {w0 w : World} {Z : Nat → Prop} {q : Nat} {B : Bok} (n : Int) (h : RLv w0 Z w q B) : Calls Try.prog 54 #[.pointer (some ⟨q, 0, none⟩), .int .i64 n] w fun e w' => e = .returned (.int .i64 (stR B n)) ∧ w' = w := by
  obtain ⟨O, h1, _⟩ := h.inn
  exact rstate_any O B q n w h1 h.inv.len
theorem done_rlv {w0 w : World} {Z : Nat → Prop} {q : Nat} {B : Bok} (h : RLv w0 Z w q B) : Calls Try.prog 51 #[.pointer (some ⟨q, 0, none⟩)] w fun e w' => (∃ v, e = .returned v ∧ w'.ownsRow w.heap.size 3 1 v B.ord.length (B.ord.map (Value.int .i64))) ∧ Below w.heap.size w w' := by
  obtain ⟨O, h1, _⟩ := h.inn
  exact rdone_any O B q w h1 (by have := h.inv.ordLen; omega)
theorem due_rlv {w0 w : World} {Z : Nat → Prop} {q : Nat} {B : Bok} (h : RLv w0 Z w q B) : Calls Try.prog 52 #[.pointer (some ⟨q, 0, none⟩)] w fun e w' => (∃ v, e = .returned v ∧ w'.ownsRow w.heap.size 71 6 v (dueR B).length (flat6 (dueR B))) ∧ Below w.heap.size w w' := by
  obtain ⟨O, h1, _⟩ := h.inn
  exact rdue_any O B q w h1 h.inv
theorem wants_rlv {w0 w : World} {Z : Nat → Prop} {q : Nat} {B : Bok} (n : Int) (h : RLv w0 Z w q B) : Calls Try.prog 57 #[.pointer (some ⟨q, 0, none⟩), .int .i64 n] w fun e w' => (∃ v, e = .returned v ∧ w'.ownsRow w.heap.size 69 2 v (wantsR B n).length (flat (wantsR B n))) ∧ Below w.heap.size w w' := by
  obtain ⟨O, h1, _⟩ := h.inn
  exact rwants_any O B q n w h1 h.inv

def lBr : List (Int × Int) := [(0, -1), (4, 1)]
def BB1 : Bok := ⟨[⟨lBr, 0, [], []⟩], []⟩
def BB2 : Bok := ⟨[⟨lBr, 0, [0], []⟩], []⟩
def BB3 : Bok := ⟨[⟨lBr, 1, [0, 1], []⟩], [0]⟩
def BB4 : Bok := ⟨[⟨lBr, 1, [0, 1], [0]⟩], [0]⟩
theorem bb1 : beginR ⟨[], []⟩ lBr = (0, 0, BB1) := by rfl
theorem bb2 : hearR BB1 ⟨2, 0, 0, 0, -1, true⟩ = BB2 := by rfl
theorem bb3 : hearR BB2 ⟨2, 0, 2, 4, 1, true⟩ = BB3 := by rfl
theorem bb4 : hearR BB3 ⟨4, 0, 0, 0, 0, true⟩ = BB4 := by rfl
theorem bd1 : dueR BB1 = [⟨1, 0, 0, 0, -1, false⟩, ⟨1, 0, 2, 4, 1, false⟩] := by rfl
theorem bd2 : dueR BB2 = [⟨1, 0, 2, 4, 1, false⟩] := by rfl
theorem bd3 : dueR BB3 = [⟨3, 0, 0, 0, 0, true⟩, ⟨3, 0, 2, 0, 0, true⟩] := by rfl
theorem bd4 : dueR BB4 = [⟨3, 0, 2, 0, 0, true⟩] := by rfl
theorem bq4 : quitR BB4 0 = (8, BB4) := by rfl
theorem bst0 : stR BB4 0 = 1 := by rfl
theorem bst1 : stR BB4 1 = -1 := by rfl

set_option maxRecDepth 100000 in
set_option maxHeartbeats 8000000 in
theorem rbegun_any (w : World) : Calls Try.prog 45 #[] w fun e w' => e = .returned (.bool true) ∧ Below w.heap.size w w' := by
  go_enter Try.func45, Try.ntmps45
  go_wp2_with fail
  refine Calls.mono (new_rlv w) ?_
  rintro e w1 ⟨q, rfl, hL1, _⟩
  go_upto_region 5 with fail
  have hQ := BoxAt.new w1 [.int .i64 0, .int .i64 (-1), .int .i64 4, .int .i64 1] 69
  have hbn : Below w1.heap.size w1 (w1.alloc (.cells #[.int .i64 0, .int .i64 (-1), .int .i64 4, .int .i64 1] 69)) := (Below.refl _ _).alloc (Nat.le_refl _) _
  have hL2 := hL1.cons (b := w1.heap.size) hbn (Nat.le_refl _) hQ.1
  change BoxAt (w1.alloc (.cells #[.int .i64 0, .int .i64 (-1), .int .i64 4, .int .i64 1] 69)) _ _ at hQ
  generalize (w1.alloc (.cells #[.int .i64 0, .int .i64 (-1), .int .i64 4, .int .i64 1] 69)) = w2 at hQ hL2 ⊢
  generalize w1.heap.size = bl at hQ hL2 ⊢
  clear hL1 hbn
  have hW : WantsAt w2 (some ⟨bl, 0, none⟩) lBr := by
    intro k c d hk
    refine ⟨bl, 0, rfl, hQ.1, ?_⟩
    match k, hk with
    | 0, hk => obtain ⟨rfl, rfl⟩ : (0 : Int) = c ∧ (-1 : Int) = d := by simpa [lBr] using hk
               exact ⟨hQ.2 0 _ rfl, hQ.2 1 _ rfl⟩
    | 1, hk => obtain ⟨rfl, rfl⟩ : (4 : Int) = c ∧ (1 : Int) = d := by simpa [lBr] using hk
               exact ⟨hQ.2 2 _ rfl, hQ.2 3 _ rfl⟩
    | k + 2, hk => simp [lBr] at hk
  have HC : Hid _ := begin_rlv (lc := 2) hL2 hW rfl
  rw [bb1] at HC
  clear hL2 hW
  go_wp2_with fail
  refine Calls.mono HC.out ?_
  rintro e w3 ⟨rfl, hL3, hS3⟩
  have hQ3 := hQ.save hS3 (fun e => e (by simp))
  clear hQ hS3 HC
  have HC : Hid _ := due_rlv hL3
  rw [bd1] at HC
  go_wp2_with fail
  refine Calls.mono HC.out ?_
  rintro e w4 ⟨⟨vd, rfl, hrd⟩, hb4⟩
  obtain ⟨gd, capd, rfl⟩ := own_sl hrd
  have hL4 := hL3.next hb4
  have hQ4 := hQ3.next hb4
  clear hL3 hQ3 HC hrd hb4
  have q0 := hQ4.2 0 _ rfl
  have q1 := hQ4.2 1 _ rfl
  have HC : Hid _ := hear_rlv ⟨2, 0, 0, 0, -1, true⟩ hL4
  rw [bb2] at HC
  go_wp2_with fail
  refine Calls.mono HC.out ?_
  rintro e w5 ⟨rfl, hL5, hS5⟩
  have hQ5 := hQ4.save hS5 (fun e => e (by simp))
  clear hL4 hQ4 HC hS5 q0 q1
  have HC : Hid _ := due_rlv hL5
  rw [bd2] at HC
  go_wp2_with fail
  refine Calls.mono HC.out ?_
  rintro e w6 ⟨⟨ve, rfl, hre⟩, hb6⟩
  obtain ⟨ge, cape, rfl⟩ := own_any hre (by decide)
  have hle := hre.lt ge rfl
  have hL6 := hL5.cons (b := ge) hb6 hle.1 hle.2
  have hQ6 := hQ5.next hb6
  have hE6 : BoxAt w6 ge [.int .i64 1, .int .i64 0, .int .i64 2] := by
    obtain ⟨_, _, _, _, hc⟩ := own_row hre
    refine ⟨hle.2, fun j v hj => hc j v ?_⟩
    match j, hj with
    | 0, hj => simpa [flat6, Ml.cells] using hj
    | 1, hj => simpa [flat6, Ml.cells] using hj
    | 2, hj => simpa [flat6, Ml.cells] using hj
    | j + 3, hj => simp at hj
  clear hL5 hQ5 HC hre hb6 hle
  have q2 := hQ6.2 2 _ rfl
  have q3 := hQ6.2 3 _ rfl
  have HC : Hid _ := hear_rlv ⟨2, 0, 2, 4, 1, true⟩ hL6
  rw [bb3] at HC
  go_wp2_with fail
  refine Calls.mono HC.out ?_
  rintro e w7 ⟨rfl, hL7, hS7⟩
  have hE7 := hE6.save hS7 (fun e => e (by simp))
  clear hL6 hQ6 hE6 HC hS7 q2 q3
  have HC : Hid _ := due_rlv hL7
  rw [bd3] at HC
  go_wp2_with fail
  refine Calls.mono HC.out ?_
  rintro e w8 ⟨⟨vf, rfl, hrf⟩, hb8⟩
  obtain ⟨gf, capf, rfl⟩ := own_any hrf (by decide)
  have hlf := hrf.lt gf rfl
  have hL8 := hL7.cons (b := gf) hb8 hlf.1 hlf.2
  have hE8 := hE7.next hb8
  have hF8 : BoxAt w8 gf [.int .i64 3, .int .i64 0, .int .i64 0, .int .i64 0, .int .i64 0, .bool true] := by
    obtain ⟨_, _, _, _, hc⟩ := own_row hrf
    refine ⟨hlf.2, fun j v hj => hc j v ?_⟩
    match j, hj with
    | 0, hj => simpa [flat6, Ml.cells] using hj
    | 1, hj => simpa [flat6, Ml.cells] using hj
    | 2, hj => simpa [flat6, Ml.cells] using hj
    | 3, hj => simpa [flat6, Ml.cells] using hj
    | 4, hj => simpa [flat6, Ml.cells] using hj
    | 5, hj => simpa [flat6, Ml.cells] using hj
    | j + 6, hj => simp at hj
  clear hL7 hE7 HC hrf hb8 hlf
  have HC : Hid _ := hear_rlv ⟨4, 0, 0, 0, 0, true⟩ hL8
  rw [bb4] at HC
  go_wp2_with fail
  refine Calls.mono HC.out ?_
  rintro e w9 ⟨rfl, hL9, hS9⟩
  have hE9 := hE8.save hS9 (fun e => e (by simp))
  have hF9 := hF8.save hS9 (fun e => e (by simp))
  clear hL8 hE8 hF8 HC hS9
  have e0 := hE9.2 0 _ rfl
  have e2 := hE9.2 2 _ rfl
  have f0 := hF9.2 0 _ rfl
  have f5 := hF9.2 5 _ rfl
  have HC : Hid _ := due_rlv hL9
  rw [bd4] at HC
  go_wp2_with fail
  refine Calls.mono HC.out ?_
  rintro e w10 ⟨⟨vg, rfl, hrg⟩, hb10⟩
  obtain ⟨gg, capg, rfl⟩ := own_sl hrg
  have hL10 := hL9.next hb10
  clear hL9 HC hrg hb10 e0 e2 f0 f5 hE9 hF9
  have HC : Hid _ := state_rlv 0 hL10
  rw [bst0] at HC
  go_wp2_with fail
  refine Calls.mono HC.out ?_
  rintro e w11 ⟨rfl, rfl⟩
  clear HC
  have HC : Hid _ := done_rlv hL10
  go_wp2_with fail
  refine Calls.mono HC.out ?_
  rintro e w12 ⟨⟨vh, rfl, hrh⟩, hb12⟩
  obtain ⟨gh, caph, rfl, hNh, _⟩ := nums_of_own hrh
  have hL12 := hL10.next hb12
  clear hL10 HC hrh hb12
  go_wp2_with fail
  have hbn : Below w12.heap.size w12 (w12.alloc (.cells #[.int .i64 0] 3)) := (Below.refl _ _).alloc (Nat.le_refl _) _
  have hNn : NumsAt (w12.alloc (.cells #[.int .i64 0] 3)) (some ⟨w12.heap.size, 0, none⟩) [0] := by
    intro k c hk
    refine ⟨w12.heap.size, 0, rfl, by simp, ?_⟩
    match k, hk with
    | 0, hk => obtain rfl : (0 : Int) = c := by simpa using hk
               simp [go_sem]
    | k + 1, hk => simp at hk
  refine Calls.mono (sameInts_any gh _ _ 1 caph 1 BB4.ord [0] _ (hNh.below hbn (Nat.le_refl _)) hNn rfl rfl (by decide)) ?_
  rintro e w13 ⟨rfl, hb13⟩
  rw [decide_eq_true (show BB4.ord = [0] from rfl)]
  have hL13 := (hL12.next hbn).next hb13
  clear hL12 hNh hNn hbn hb13
  have HC : Hid _ := state_rlv 1 hL13
  rw [bst1] at HC
  go_wp2_with fail
  refine Calls.mono HC.out ?_
  rintro e w14 ⟨rfl, rfl⟩
  clear HC
  have HC : Hid _ := quit_rlv 0 hL13
  rw [bq4] at HC
  go_wp2_with fail
  refine Calls.mono HC.out ?_
  rintro e w15 ⟨rfl, hL15, _⟩
  clear HC hL13
  have HC : Hid _ := len_rlv hL15
  go_wp2_with fail
  refine Calls.mono HC.out ?_
  rintro e w16 ⟨rfl, rfl⟩
  go_wp2_with fail
  go_ret
  exact ⟨rfl, hL15.below⟩

end Go.Proofs.Ytbgnajcmhmpjlab
