/- The contract of the deletion of some holds from a row of one's own. -/
import Derived.Test.YtbgnajcmhmpjlabSIdx
namespace Go.Proofs.Ytbgnajcmhmpjlab
open Go.RowKit

def zeros (n : Nat) : List Value := (Builtin.zeroCells (Value.agg #[.int .i64 0, .int .i64 0, .int .i64 0]).cells n).toList
theorem zeros_length (n : Nat) : (zeros n).length = n * 3 := by
  unfold zeros
  rw [Array.length_toList, size_zeroCells]
  rfl
theorem zeros_one (n : Nat) : ∀ v ∈ zeros n, v.oneCell' = true := by
  intro v hv
  unfold zeros at hv
  simp only [Builtin.zeroCells, Array.toList_map, List.mem_map] at hv
  obtain ⟨i, _, rfl⟩ := hv
  have h : i % 3 = 0 ∨ i % 3 = 1 ∨ i % 3 = 2 := by omega
  show Value.oneCell' (#[Value.int .i64 0, .int .i64 0, .int .i64 0][i % 3]!) = true
  rcases h with h | h | h <;> rw [h] <;> rfl
/-- 'clear' of a part of a row of holds. -/
theorem run_clear3 (w : World) (ty : TypeId) (b o n c : Nat) (hc : ∀ j, j < n * 3 → (w.cell? ⟨b, o + j, none⟩).isSome = true) (hf : ∀ j, j < n * 3 → w.frozen? ⟨b, o + j, none⟩ = false) :
    (Builtin.clear_ #[39] ty #[.slice (some ⟨b, o, none⟩) n c]).run Try.prog w = .ok (.tuple #[]) (w.setCells b o (zeros n)) := by
  have hst := run_storeCells_cells (P := Try.prog) b o (zeros n) 0 w (by rw [zeros_length]; simpa using hc) (by rw [zeros_length]; simpa using hf) (zeros_one n)
  simp only [Nat.add_zero] at hst
  unfold zeros at hst ⊢
  cases n with
  | zero => simp [Builtin.clear_, run_underlying Try.underlying39, Builtin.zeroCells, World.setCells]
  | succ m => simp [Builtin.clear_, run_underlying Try.underlying39, hst]

/-- What the row holds when j holds were looked at: those that are kept, then (from j on) what it held. -/
structure Kept (q : H3 → Bool) (l : List H3) (g cap j i : Nat) (w : World) : Prop where
  row : Row w g 92 (cap * 3)
  len : i = ((l.take j).filter (fun h => !q h)).length
  done : ∀ t u, (flat3 ((l.take j).filter (fun h => !q h)))[t]? = some u → w.cell? ⟨g, t, none⟩ = some u
  todo : ∀ m a c d, j ≤ m → l[m]? = some (a, c, d) → w.cell? ⟨g, m * 3, none⟩ = some (.int .i64 a) ∧ w.cell? ⟨g, m * 3 + 1, none⟩ = some (.int .i64 c) ∧ w.cell? ⟨g, m * 3 + 2, none⟩ = some (.int .i64 d)
theorem Kept.next {q : H3 → Bool} {l : List H3} {g cap j i : Nat} {w w1 : World} (h : Kept q l g cap j i w) (hb : Below w.heap.size w w1) : Kept q l g cap j i w1 := by
  have hg := h.row.lt
  have e : ∀ t, w1.cell? ⟨g, t, none⟩ = w.cell? ⟨g, t, none⟩ := fun t => hb.cell (p := ⟨g, t, none⟩) hg
  exact ⟨h.row.below hb hg, h.len, fun t u hu => (e t).trans (h.done t u hu), fun m a c d hm hl => by rw [e, e, e]; exact h.todo m a c d hm hl⟩
theorem Kept.le {q : H3 → Bool} {l : List H3} {g cap j i : Nat} {w : World} (h : Kept q l g cap j i w) : i ≤ j := by
  rw [h.len]
  exact Nat.le_trans (List.length_filter_le _ _) (by rw [List.length_take]; omega)
theorem Kept.skip {q : H3 → Bool} {l : List H3} {g cap j i : Nat} {w : World} {x : H3} (h : Kept q l g cap j i w) (hx : l[j]? = some x) (hq : q x = true) : Kept q l g cap (j + 1) i w := by
  have e : (l.take (j + 1)).filter (fun h => !q h) = (l.take j).filter (fun h => !q h) := by
    rw [take_snoc hx, List.filter_append]; simp [hq]
  exact ⟨h.row, by rw [e]; exact h.len, by rw [e]; exact h.done, fun m a c d hm hl => h.todo m a c d (by omega) hl⟩
theorem Kept.keep {q : H3 → Bool} {l : List H3} {g cap j i : Nat} {w : World} {a c d : Int} (h : Kept q l g cap j i w) (hx : l[j]? = some (a, c, d)) (hq : q (a, c, d) = false) (hcap : j < cap) :
    Kept q l g cap (j + 1) (i + 1) (((w.setCell ⟨g, i * 3, none⟩ (.int .i64 a)).setCell ⟨g, i * 3 + 1, none⟩ (.int .i64 c)).setCell ⟨g, i * 3 + 2, none⟩ (.int .i64 d)) := by
  have e : (l.take (j + 1)).filter (fun h => !q h) = (l.take j).filter (fun h => !q h) ++ [(a, c, d)] := by
    rw [take_snoc hx, List.filter_append]; simp [hq]
  have hij := h.le
  have hl : (flat3 ((l.take j).filter (fun h => !q h))).length = i * 3 := by rw [flat3_length, ← h.len]
  have hsome : ∀ t, t < cap * 3 → ∃ u, w.cell? ⟨g, t, none⟩ = some u := fun t ht => Option.isSome_iff_exists.1 (h.row.some ht)
  refine ⟨((h.row.setCell _ _).setCell _ _).setCell _ _, ?_, ?_, ?_⟩
  · rw [e, List.length_append, ← h.len]; rfl
  · rw [e, flat3_snoc]
    intro t u hu
    by_cases ht : t < i * 3
    · rw [List.getElem?_append_left (by omega)] at hu
      rw [cell_set_off (by omega), cell_set_off (by omega), cell_set_off (by omega)]
      exact h.done t u hu
    · rw [List.getElem?_append_right (by omega), hl] at hu
      have hlt := (List.getElem?_eq_some_iff.1 hu).1
      simp only [List.length_cons, List.length_nil] at hlt
      obtain ⟨s, rfl⟩ : ∃ s, t = i * 3 + s := ⟨t - i * 3, by omega⟩
      rw [show i * 3 + s - i * 3 = s by omega] at hu hlt
      obtain ⟨u0, h0⟩ := hsome (i * 3) (by omega)
      obtain ⟨u1, h1⟩ := hsome (i * 3 + 1) (by omega)
      obtain ⟨u2, h2⟩ := hsome (i * 3 + 2) (by omega)
      match s, hlt, hu with
      | 0, _, hu => simp only [List.getElem?_cons_zero] at hu
                    simp only [Nat.add_zero]
                    rw [cell_set_off (by omega), cell_set_off (by omega), cell_set_same h0, hu]
      | 1, _, hu => simp only [List.getElem?_cons_succ, List.getElem?_cons_zero] at hu
                    rw [cell_set_off (by omega), cell_set_same ((cell_set_off (by omega)).trans h1), hu]
      | 2, _, hu => simp only [List.getElem?_cons_succ, List.getElem?_cons_zero] at hu
                    rw [cell_set_same ((cell_set_off (by omega)).trans ((cell_set_off (by omega)).trans h2)), hu]
  · intro m a' c' d' hm hl'
    obtain ⟨t0, t1, t2⟩ := h.todo m a' c' d' (by omega) hl'
    refine ⟨?_, ?_, ?_⟩
    · rw [cell_set_off (by omega), cell_set_off (by omega), cell_set_off (by omega)]; exact t0
    · rw [cell_set_off (by omega), cell_set_off (by omega), cell_set_off (by omega)]; exact t1
    · rw [cell_set_off (by omega), cell_set_off (by omega), cell_set_off (by omega)]; exact t2

theorem filter_none {q : H3 → Bool} {l : List H3} (h : ∀ x ∈ l, q x = false) : l.filter (fun h => !q h) = l := by
  rw [List.filter_eq_self]
  intro x hx
  rw [h x hx]; rfl

set_option maxHeartbeats 2000000 in
theorem del_any {g : Nat} {lb : Array Value} {q : H3 → Bool} {C : World → Prop} (hp : PredIs g lb q C) (hv : Value) (B : Nat) (l : List H3) (w : World) (hown : w.ownsRow B 92 3 hv l.length (flat3 l)) (hs : l.length < 2 ^ 62) (hC : C w) (hset : ∀ W k o u, hv.ownBlock = some k → C W → C (W.setCell ⟨k, o, none⟩ u)) :
    Calls Try.prog 108 #[hv, .func (.func g) #[] lb] w fun e w' => (∃ hv', e = .returned hv' ∧ w'.ownsRow B 92 3 hv' (l.filter (fun h => !q h)).length (flat3 (l.filter (fun h => !q h))) ∧ ∀ k, hv'.ownBlock = some k → hv.ownBlock = some k) ∧ Save (fun k => hv.ownBlock = some k) w w' := by
  obtain ⟨ga, cap, rfl, hA, _⟩ := holds_of_own hown
  have eg := hp.enters
  have HI := idx_any hp ga l.length cap l w hA rfl hs hC
  go_enter Try.func108, Try.ntmps108
  go_wp2_with fail
  refine HI.mono ?_
  rintro e w1 ⟨⟨r, rfl, hr⟩, hb1⟩
  have HO : Hid (w.ownsRow B 92 3 (.slice ga l.length cap) l.length (flat3 l)) := hown
  clear HI hown
  rcases hr with ⟨rfl, hall⟩ | ⟨k, x, rfl, hx, hqx, hall⟩
  · go_wp2_with fail
    go_ret
    exact ⟨⟨_, rfl, by rw [filter_none hall]; exact own_next HO.out hb1, fun k hk => hk⟩, .of_below hb1⟩
  · have hk := (List.getElem?_eq_some_iff.1 hx).1
    obtain ⟨a0, c0, d0⟩ := x
    obtain ⟨gb, off, rfl, hgb, _⟩ := hA k a0 c0 d0 hx
    obtain ⟨rfl⟩ : off = 0 := by
      rcases HO.out.2 with ⟨e1, _⟩ | ⟨g', cap', cur, e1, _⟩
      · simp at e1
      · simp at e1; exact e1.1.2
    obtain ⟨hB, hrow, hnc, hcm, hcell⟩ := own_row HO.out
    have hne1 : ((k : Int) == -1) = false := beq_eq_false_iff_ne.2 (by omega)
    have e0 : (l.take k).filter (fun h => !q h) = l.take k := filter_none hall
    have hK0 : Kept q l gb cap (k + 1) k w1 := by
      have hk1 : Kept q l gb cap k k w := by
        refine ⟨hrow, by rw [e0, List.length_take]; omega, ?_, ?_⟩
        · rw [e0]
          intro t u hu
          refine hcell t u ?_
          have e : flat3 l = flat3 (l.take k) ++ flat3 (l.drop k) := by rw [← flat3_append, List.take_append_drop]
          rw [e, List.getElem?_append_left (List.getElem?_eq_some_iff.1 hu).1]
          exact hu
        · intro m a c d _ hl
          obtain ⟨f0, f1, f2⟩ := flat3_at l m a c d hl
          exact ⟨hcell _ _ f0, hcell _ _ f1, hcell _ _ f2⟩
      exact (hk1.skip hx hqx).next hb1
    have HC1 : Hid (C w1) := hp.keeps _ _ hC hb1
    have hS1 : Save (fun k => (Value.slice (some ⟨gb, 0, none⟩) l.length cap).ownBlock = some k) w w1 := .of_below hb1
    have hgO : (Value.slice (some ⟨gb, 0, none⟩) l.length cap).ownBlock = some gb := rfl
    have hlen : (l.length : Int) < 2 ^ 62 := by omega
    have hbp : 0 ≤ (k : Int) := by omega
    have hkl : (k : Int) < (l.length : Int) := by omega
    clear hcell hrow hb1 hA hall hqx hC e0
    go_wp2_with fail
    go_loopg [5, 6, 7] l.length (fun gg s5 s6 _ wr => ∃ (i j : Nat), s5 = .int .i64 i ∧ s6 = .int .i64 j ∧ j ≤ l.length ∧ l.length - j ≤ gg ∧ i < j ∧ Kept q l gb cap j i wr ∧ Hid (C wr) ∧ Save (fun k => (Value.slice (some ⟨gb, 0, none⟩) l.length cap).ownBlock = some k) w wr)
    case atStart => exact ⟨k, k + 1, rfl, by simp, by omega, by omega, by omega, hK0, HC1, hS1⟩
    case round =>
      obtain ⟨i, j, rfl, rfl, hj, hgg, hij, hK, HC, hS⟩ := hrel
      clear hK0 HC1 hS1
      by_cases hlt : j < l.length
      · obtain ⟨⟨a, c, d⟩, hjl⟩ : ∃ x, l[j]? = some x := ⟨_, List.getElem?_eq_getElem (by omega)⟩
        obtain ⟨p0, p1, p2⟩ := hK.todo j a c d (Nat.le_refl _) hjl
        have j0 : (0 : Int) ≤ (j : Int) := by omega
        have j1 : (j : Int) < (l.length : Int) := by omega
        have i0 : (0 : Int) ≤ (i : Int) := by omega
        have i1 : (i : Int) < (l.length : Int) := by omega
        have hgl := hK.row.lt
        have hnew : Below wr.heap.size wr (wr.alloc (.cells #[.int .i64 a, .int .i64 c, .int .i64 d] 92)) := (Below.refl _ _).alloc (Nat.le_refl _) _
        have HP : Hid _ := hp.says _ a c d (hp.keeps _ _ HC.out hnew)
        have hK1 := hK.next hnew
        have HC1 : Hid (C (wr.alloc (.cells #[.int .i64 a, .int .i64 c, .int .i64 d] 92))) := hp.keeps _ _ HC.out hnew
        have hS1 := hS.next hnew
        have hX1 := BoxAt.new wr [.int .i64 a, .int .i64 c, .int .i64 d] 92
        clear hnew
        cases hq : q (a, c, d)
        · rw [hq] at HP
          have HQ : Hid _ := hq
          clear hq
          go_wp2_with fail
          refine Calls.mono HP.out ?_
          rintro e w2 ⟨rfl, hb2⟩
          have hK2 := hK1.next hb2
          have HC2 : Hid (C w2) := hp.keeps _ _ HC1.out hb2
          have hS2 := hS1.next hb2
          have hX2 := hX1.next hb2
          have x0 := hX2.2 0 _ rfl
          have x1 := hX2.2 1 _ rfl
          have x2 := hX2.2 2 _ rfl
          clear hK1 HC1 hS1 hX1 hb2 HP p0 p1 p2 hK HC hS
          have hfr := hK2.row.loose
          obtain ⟨u0, q0⟩ : ∃ u, w2.cell? ⟨gb, i * 3, none⟩ = some u := Option.isSome_iff_exists.1 (hK2.row.some (by omega))
          obtain ⟨u1, q1⟩ : ∃ u, w2.cell? ⟨gb, i * 3 + 1, none⟩ = some u := Option.isSome_iff_exists.1 (hK2.row.some (by omega))
          obtain ⟨u2, q2⟩ : ∃ u, w2.cell? ⟨gb, i * 3 + 2, none⟩ = some u := Option.isSome_iff_exists.1 (hK2.row.some (by omega))
          go_wp2_with fail
          go_roundg (l.length - (j + 1))
          case measure => omega
          case rel =>
            refine ⟨i + 1, j + 1, by simp, by simp, by omega, Nat.le_refl _, by omega, hK2.keep hjl HQ.out (by omega), ?_, ?_⟩
            · show C _
              exact hset _ gb _ _ rfl (hset _ gb _ _ rfl (hset _ gb _ _ rfl HC2.out))
            · exact hS2.set3 gb hgO _ _ _ _ _ _
        · rw [hq] at HP
          have HQ : Hid _ := hq
          clear hq
          go_wp2_with fail
          refine Calls.mono HP.out ?_
          rintro e w2 ⟨rfl, hb2⟩
          go_wp2_with fail
          go_roundg (l.length - (j + 1))
          case measure => omega
          case rel => exact ⟨i, j + 1, rfl, by simp, by omega, Nat.le_refl _, by omega, (hK1.next hb2).skip hjl HQ.out, hp.keeps _ _ HC1.out hb2, hS1.next hb2⟩
      · have hjj : j = l.length := by omega
        subst hjj
        have hx1 : ∀ ty, (Builtin.clear_ #[39] ty #[.slice (some ⟨gb, i * 3, none⟩) (l.length - i) (cap - i)]).run Try.prog wr = .ok (.tuple #[]) (wr.setCells gb (i * 3) (zeros (l.length - i))) := fun ty => run_clear3 wr ty gb (i * 3) _ _ (fun t ht => hK.row.some (by omega)) (fun t ht => hK.row.loose _)
        have hil : i ≤ l.length := by omega
        have hic : i ≤ cap := by omega
        have hni : ¬ cap = i := by omega
        have i0 : (0 : Int) ≤ (i : Int) := by omega
        have i1 : (i : Int) ≤ (l.length : Int) := by omega
        have i2 : (i : Int) ≤ (cap : Int) := by omega
        have i3 : (l.length : Int) ≤ (cap : Int) := by omega
        go_wp2_with fail
        go_ret
        refine ⟨⟨_, rfl, ?_, fun k hk => hk⟩, hS.setCells gb (fun _ => hgO) _ _ _⟩
        have hl := hK.len
        have hd := hK.done
        rw [List.take_of_length_le (Nat.le_refl _)] at hl hd
        rw [← hl]
        refine row_own (Row.setCells gb _ _ _ hK.row) hB hic hcm (by rw [flat3_length, ← hl]) (fun t u hu => ?_)
        have ht := (List.getElem?_eq_some_iff.1 hu).1
        rw [flat3_length, ← hl] at ht
        rw [World.cell?_setCells_out gb _ _ _ _ (fun _ _ => .inl ht)]
        exact hd t u hu

end Go.Proofs.Ytbgnajcmhmpjlab
