/- The plain mathematics of package keep: records, what they come to one behind the other, and that those that were written come to the same again. -/
import Derived.Test.YtbgnajcmhmpjlabSStep
namespace Go.Proofs.Ytbgnajcmhmpjlab
open Go.RowKit

/-- What is wrong with a record, whatever the shop has (a record is written as a step: kind, deal, counter, delta, done). -/
def rchk (r : Stp) : Int := if r.what = 1 then (if r.done = true then 2 else 0) else if r.what = 2 then (if r.c = 0 ∧ r.d = 0 then 0 else 2) else 10
/-- A record, done in a shop: the code, and the book behind it. -/
def tellR (A : Bk) (r : Stp) : Int × Bk := if rchk r = 0 then (if r.what = 1 then holdR A r.deal r.c r.d else endR A r.deal r.done) else (rchk r, A)
theorem tellR_bad {A : Bk} {r : Stp} (h : rchk r ≠ 0) : tellR A r = (rchk r, A) := by unfold tellR; rw [if_neg h]
theorem tellR_hold {A : Bk} {r : Stp} (h : rchk r = 0) (h1 : r.what = 1) : tellR A r = holdR A r.deal r.c r.d := by unfold tellR; rw [if_pos h, if_pos h1]
theorem tellR_end {A : Bk} {r : Stp} (h : rchk r = 0) (h1 : r.what ≠ 1) : tellR A r = endR A r.deal r.done := by unfold tellR; rw [if_pos h, if_neg h1]
theorem good_tell {A : Bk} (hG : Good A) (r : Stp) : Good (tellR A r).2 := by
  unfold tellR
  split
  · split
    · exact good_hold hG _ _ _
    · exact good_end hG _ _
  · exact hG
theorem tell_len (A : Bk) (r : Stp) : (tellR A r).2.hs.length ≤ A.hs.length + 1 ∧ (tellR A r).2.es.length ≤ A.es.length + 1 ∧ (tellR A r).2.no = A.no := by
  unfold tellR
  split
  · split
    · obtain ⟨a, b, c⟩ := hold_len A r.deal r.c r.d
      exact ⟨a, by rw [b]; omega, c⟩
    · obtain ⟨a, b, c⟩ := end_len A r.deal r.done
      exact ⟨by omega, b, c⟩
  · exact ⟨by simp, by simp, rfl⟩
theorem tell_code {A : Bk} {r : Stp} (h : (tellR A r).1 ≠ 0) : (tellR A r).2 = A := by
  by_cases hc : rchk r = 0
  · by_cases h1 : r.what = 1
    · have := @step_code A { r with what := 0 }
      rw [stepR_hold (x := { r with what := 0 }) rfl] at this
      rw [tellR_hold hc h1] at h ⊢
      exact this h
    · have := @step_code A { r with what := 1 }
      rw [stepR_end (x := { r with what := 1 }) rfl] at this
      rw [tellR_end hc h1] at h ⊢
      exact this h
  · rw [tellR_bad hc]

/-- It was written: it would change nothing now. -/
def Wrote (A : Bk) (r : Stp) : Prop := rchk r = 0 ∧ (r.what = 1 → (∃ x, A.hs.find? (same r.deal r.c) = some x ∧ x.2.2 = r.d) ∨ (over A.es r.deal).isSome = true) ∧ (r.what ≠ 1 → over A.es r.deal = some r.done)
theorem over_keep {es m : List (Int × Bool)} {x : Int} {b : Bool} (h : over es x = some b) : over (es ++ m) x = some b := by rw [over_append, h]
theorem over_keep' {es m : List (Int × Bool)} {x : Int} (h : (over es x).isSome = true) : (over (es ++ m) x).isSome = true := by
  obtain ⟨b, hb⟩ := Option.isSome_iff_exists.1 h
  rw [over_keep hb]; rfl
theorem find_filter {l : List H3} {deal c x : Int} {h : H3} (hx : deal ≠ x) (hf : l.find? (same deal c) = some h) : (l.filter (fun h => h.1 != x)).find? (same deal c) = some h := by
  induction l with
  | nil => simp at hf
  | cons y r ih =>
    rw [List.find?_cons] at hf
    cases hs : same deal c y with
    | true =>
      rw [hs] at hf
      have hy : y.1 = deal := by unfold same at hs; simp at hs; exact hs.1
      rw [List.filter_cons, if_pos (by simp [hy, hx]), List.find?_cons, hs]
      exact hf
    | false =>
      rw [hs] at hf
      by_cases hy : (y.1 != x) = true
      · rw [List.filter_cons, if_pos hy, List.find?_cons, hs]; exact ih hf
      · rw [List.filter_cons, if_neg hy]; exact ih hf
theorem Wrote.hold {A : Bk} {r : Stp} (h : Wrote A r) (deal c d : Int) : Wrote (holdR A deal c d).2 r := by
  obtain ⟨h0, h1, h2⟩ := h
  rcases holdR_cases A deal c d with ⟨_, e⟩ | ⟨hc, m, hm, _, ⟨y, _, e⟩ | ⟨_, _, e⟩ | ⟨_, hz, e⟩⟩
  · rw [e]; exact ⟨h0, h1, h2⟩
  · rw [e]; exact ⟨h0, h1, h2⟩
  · rw [e]; exact ⟨h0, h1, h2⟩
  · rw [e]
    refine ⟨h0, fun q => ?_, h2⟩
    rcases h1 q with ⟨x, hx, hd⟩ | ho
    · left
      refine ⟨x, ?_, hd⟩
      show (A.hs ++ [(deal, c, d)]).find? _ = _
      rw [List.find?_append, hx]; rfl
    · exact .inr ho
theorem Wrote.fin {A : Bk} {r : Stp} (h : Wrote A r) (deal : Int) (done : Bool) : Wrote (endR A deal done).2 r := by
  obtain ⟨h0, h1, h2⟩ := h
  rcases endR_cases A deal done with ⟨_, e⟩ | ⟨_, _, ⟨b, _, e⟩ | ⟨hn, e⟩⟩
  · rw [e]; exact ⟨h0, h1, h2⟩
  · rw [e]; exact ⟨h0, h1, h2⟩
  · rw [e]
    refine ⟨h0, fun q => ?_, fun q => ?_⟩
    · by_cases hd : r.deal = deal
      · right
        show (over (A.es ++ [(deal, done)]) r.deal).isSome = true
        rw [over_append, hd, hn]
        simp [over]
      · rcases h1 q with ⟨x, hx, hxd⟩ | ho
        · exact .inl ⟨x, find_filter hd hx, hxd⟩
        · exact .inr (over_keep' ho)
    · exact over_keep (h2 q)
theorem Wrote.tell {A : Bk} {r : Stp} (h : Wrote A r) (s : Stp) : Wrote (tellR A s).2 r := by
  unfold tellR
  split
  · split
    · exact h.hold _ _ _
    · exact h.fin _ _
  · exact h
/-- What was written changes nothing. -/
theorem Wrote.again {A : Bk} {r : Stp} (h : Wrote A r) : (tellR A r).2 = A := by
  obtain ⟨h0, h1, h2⟩ := h
  by_cases e1 : r.what = 1
  · rw [tellR_hold h0 e1]
    rcases holdR_cases A r.deal r.c r.d with ⟨_, e⟩ | ⟨hc, m, hm, _, ⟨y, _, e⟩ | ⟨_, _, e⟩ | ⟨hf, _, e⟩⟩
    · rw [e]
    · rw [e]
    · rw [e]
    · rcases h1 e1 with ⟨x, hx, _⟩ | ho
      · rw [hf] at hx; cases hx
      · rw [(chkS_zero hc).2.2.2.2] at ho; cases ho
  · rw [tellR_end h0 e1]
    rcases endR_cases A r.deal r.done with ⟨_, e⟩ | ⟨_, _, ⟨b, _, e⟩ | ⟨hn, e⟩⟩
    · rw [e]
    · rw [e]
    · rw [h2 e1] at hn; cases hn
/-- What has no code would change nothing, done again. -/
theorem wrote_new {A : Bk} {r : Stp} (hz : (tellR A r).1 = 0) : Wrote (tellR A r).2 r := by
  by_cases h0 : rchk r = 0
  · by_cases e1 : r.what = 1
    · rw [tellR_hold h0 e1] at hz ⊢
      refine ⟨h0, fun _ => ?_, fun q => absurd e1 q⟩
      rcases holdR_cases A r.deal r.c r.d with ⟨hc, e⟩ | ⟨hc, m, hm, _, ⟨y, hy, e⟩ | ⟨_, hz', e⟩ | ⟨hf, _, e⟩⟩
      · rw [e] at hz; exact absurd hz hc
      · rw [e] at hz
        rw [e]
        left
        refine ⟨y, hy, ?_⟩
        have hz1 : (if y.2.2 = r.d then (0 : Int) else 9) = 0 := hz
        by_cases q : y.2.2 = r.d
        · exact q
        · rw [if_neg q] at hz1; omega
      · rw [e] at hz; exact absurd hz hz'
      · rw [e]
        exact .inl ⟨(r.deal, r.c, r.d), find_snoc hf (by simp [same]), rfl⟩
    · rw [tellR_end h0 e1] at hz ⊢
      refine ⟨h0, fun q => absurd q e1, fun _ => ?_⟩
      rcases endR_cases A r.deal r.done with ⟨_, e⟩ | ⟨_, _, ⟨b, hb, e⟩ | ⟨hn, e⟩⟩
      · rw [e] at hz; exact absurd (show (1 : Int) = 0 from hz) (by decide)
      · rw [e] at hz
        rw [e]
        have hz1 : (if b = r.done then (0 : Int) else 9) = 0 := hz
        by_cases q : b = r.done
        · rw [← q]; exact hb
        · rw [if_neg q] at hz1; omega
      · rw [e]
        show over (A.es ++ [(r.deal, r.done)]) r.deal = _
        rw [over_append, hn]
        simp [over]
  · rw [tellR_bad h0] at hz; exact absurd hz h0

/-- Records, one behind the other: the first code and its place, and the book behind all. -/
def faultR : Bk → List Stp → Nat → Int × Int
  | _, [], _ => (0, 0)
  | A, r :: t, i => if (tellR A r).1 = 0 then faultR (tellR A r).2 t (i + 1) else ((tellR A r).1, i)
def runR : Bk → List Stp → Bk
  | A, [] => A
  | A, r :: t => runR (tellR A r).2 t
theorem runR_append (A : Bk) (l m : List Stp) : runR A (l ++ m) = runR (runR A l) m := by
  induction l generalizing A with
  | nil => rfl
  | cons r t ih => exact ih _
theorem faultR_append {l m : List Stp} : ∀ {A : Bk} {i : Nat}, faultR A l i = (0, 0) → (∀ A', A' = runR A l → ∀ j, j = i + l.length → faultR A' m j = (0, 0)) → faultR A (l ++ m) i = (0, 0) := by
  induction l with
  | nil => intro A i _ h; exact h A rfl i (by simp)
  | cons r t ih =>
    intro A i h1 h2
    simp only [List.cons_append, faultR] at h1 ⊢
    by_cases hz : (tellR A r).1 = 0
    · rw [if_pos hz] at h1 ⊢
      exact ih h1 (fun A' e j hj => h2 A' e j (by simp; omega))
    · rw [if_neg hz] at h1
      simp only [Prod.mk.injEq] at h1
      exact absurd h1.1 hz

/-- A keeper's book: the shop's, and the records. -/
structure Kb where
  A : Bk
  rs : List Stp
/-- Are two records just alike? (in the order in which the program looks) -/
def eqS (a b : Stp) : Bool := a.what == b.what && (a.deal == b.deal && (a.c == b.c && (a.d == b.d && a.done == b.done)))
theorem eqS_iff {a b : Stp} : eqS a b = true ↔ a = b := by
  rcases a with ⟨a1, a2, a3, a4, a5⟩
  rcases b with ⟨b1, b2, b3, b4, b5⟩
  unfold eqS
  simp
def hasS (rs : List Stp) (r : Stp) : Bool := rs.any (fun s => eqS s r)
theorem hasS_iff {rs : List Stp} {r : Stp} : hasS rs r = true ↔ r ∈ rs := by
  unfold hasS
  rw [List.any_eq_true]
  constructor
  · rintro ⟨s, hs, he⟩
    rw [← eqS_iff.1 he]; exact hs
  · intro h
    exact ⟨r, h, eqS_iff.2 rfl⟩
def noteR (rs : List Stp) (r : Stp) : List Stp := if hasS rs r = true then rs else rs ++ [r]
theorem noteR_in {rs : List Stp} {r : Stp} (h : r ∈ rs) : noteR rs r = rs := by unfold noteR; rw [if_pos (hasS_iff.2 h)]
theorem noteR_out {rs : List Stp} {r : Stp} (h : ¬ r ∈ rs) : noteR rs r = rs ++ [r] := by unfold noteR; rw [if_neg (fun q => h (hasS_iff.1 q))]
/-- Do: the code, and the keeper's book behind it. -/
def doR (K : Kb) (r : Stp) : Int × Kb := if (tellR K.A r).1 = 0 then (0, ⟨(tellR K.A r).2, noteR K.rs r⟩) else ((tellR K.A r).1, K)
theorem doR_code {K : Kb} {r : Stp} (h : (tellR K.A r).1 ≠ 0) : doR K r = ((tellR K.A r).1, K) := by unfold doR; rw [if_neg h]
theorem doR_done {K : Kb} {r : Stp} (h : (tellR K.A r).1 = 0) : doR K r = (0, ⟨(tellR K.A r).2, noteR K.rs r⟩) := by unfold doR; rw [if_pos h]
theorem doR_fst (K : Kb) (r : Stp) : (doR K r).1 = (tellR K.A r).1 := by
  unfold doR
  split
  · rename_i h; rw [h]
  · rfl
theorem doR_book (K : Kb) (r : Stp) : (doR K r).2.A = (tellR K.A r).2 := by
  unfold doR
  split
  · rfl
  · rename_i h; rw [tell_code h]
/-- A keeper's book that may be, made of A0. -/
structure GoodK (A0 : Bk) (K : Kb) : Prop where
  good : Good K.A
  no : K.A.no = A0.no
  run : runR A0 K.rs = K.A
  fault : faultR A0 K.rs 0 = (0, 0)
  wrote : ∀ r ∈ K.rs, Wrote K.A r
  hl : K.A.hs.length ≤ K.rs.length
  el : K.A.es.length ≤ K.rs.length
  nodup : K.rs.Nodup
theorem goodK_new {A0 : Bk} (h : Good A0) (hh : A0.hs = []) (he : A0.es = []) : GoodK A0 ⟨A0, []⟩ :=
  ⟨h, rfl, rfl, rfl, by simp, by rw [hh]; exact Nat.le_refl _, by rw [he]; exact Nat.le_refl _, List.nodup_nil⟩
theorem goodK_do {A0 : Bk} {K : Kb} (h : GoodK A0 K) (r : Stp) : GoodK A0 (doR K r).2 := by
  unfold doR
  split
  · rename_i hz
    by_cases hm : r ∈ K.rs
    · have e := (h.wrote r hm).again
      have e2 := noteR_in hm
      simp only [e, e2]
      exact h
    · have e2 := noteR_out hm
      have hlen := tell_len K.A r
      refine ⟨good_tell h.good r, hlen.2.2.trans h.no, ?_, ?_, ?_, ?_, ?_, ?_⟩
      · show runR A0 (noteR K.rs r) = _
        rw [e2, runR_append, h.run]
        rfl
      · show faultR A0 (noteR K.rs r) 0 = _
        rw [e2]
        refine faultR_append h.fault (fun A' e j hj => ?_)
        rw [e, h.run]
        unfold faultR
        rw [if_pos hz]
        rfl
      · show ∀ s ∈ noteR K.rs r, Wrote (tellR K.A r).2 s
        rw [e2]
        intro s hs
        rcases List.mem_append.1 hs with hs | hs
        · exact (h.wrote s hs).tell r
        · rw [List.mem_singleton.1 hs]; exact wrote_new hz
      · show (tellR K.A r).2.hs.length ≤ (noteR K.rs r).length
        rw [e2]
        have := h.hl
        simp
        omega
      · show (tellR K.A r).2.es.length ≤ (noteR K.rs r).length
        rw [e2]
        have := h.el
        simp
        omega
      · show (noteR K.rs r).Nodup
        rw [e2]
        refine List.nodup_append.2 ⟨h.nodup, by simp, ?_⟩
        intro a ha b hb
        rw [List.mem_singleton.1 hb]
        intro e
        subst e
        exact hm ha
  · exact h
theorem do_len (K : Kb) (r : Stp) : (doR K r).2.rs.length ≤ K.rs.length + 1 := by
  unfold doR
  split
  · show (noteR K.rs r).length ≤ _
    unfold noteR
    split
    · omega
    · simp
  · exact Nat.le_succ _

end Go.Proofs.Ytbgnajcmhmpjlab
