/- What is held of a counter, as a list of numbers: its Out and In are the sums of it; and the state that CountNever's loop keeps in memory. -/
import Derived.Test.YtbgnajcmhmpjlaaFacts
namespace Go.Proofs.Ytbgnajcmhmpjlaa
open Go.RowKit

def negs : List Int → Int
  | [] => 0
  | n :: r => (if n < 0 then - n else 0) + negs r
def poss : List Int → Int
  | [] => 0
  | n :: r => (if n < 0 then 0 else n) + poss r
theorem negs_append : ∀ a b : List Int, negs (a ++ b) = negs a + negs b
  | [], b => by simp [negs]
  | n :: r, b => by simp only [List.cons_append, negs, negs_append r b]; omega
theorem poss_append : ∀ a b : List Int, poss (a ++ b) = poss a + poss b
  | [], b => by simp [poss]
  | n :: r, b => by simp only [List.cons_append, poss, poss_append r b]; omega
theorem negs_nonneg : ∀ a : List Int, 0 ≤ negs a
  | [] => by simp [negs]
  | n :: r => by have := negs_nonneg r; simp only [negs]; split <;> omega
theorem poss_nonneg : ∀ a : List Int, 0 ≤ poss a
  | [] => by simp [poss]
  | n :: r => by have := poss_nonneg r; simp only [poss]; split <;> omega
theorem parts (hs : List Int) (k : Nat) (h : k < hs.length) : hs = hs.take k ++ (hs[k] :: hs.drop (k + 1)) := by
  rw [List.getElem_cons_drop, List.take_append_drop]

/-- The counter may be so, and what is held of it is hs. -/
structure Inv (v o i : Int) (hs : List Int) : Prop where
  v0 : 0 ≤ v
  v1 : v ≤ 100
  o0 : 0 ≤ o
  o1 : o ≤ v
  i0 : 0 ≤ i
  i1 : v + i ≤ 100
  out : o = negs hs
  inn : i = poss hs
  each : ∀ n ∈ hs, n ≠ 0 ∧ -100 ≤ n ∧ n ≤ 100

theorem Inv.hold {v o i n : Int} {hs : List Int} (h : Inv v o i hs) (hc : hC v o i n = 0) : Inv (hV v o i n) (hO v o i n) (hI v o i n) (hs ++ [n]) := by
  obtain ⟨⟨a1, a2, a3, a4, a5, a6⟩, b1, b2, b3, hw⟩ := hold_zero hc
  have e1 := negs_append hs [n]
  have e2 := poss_append hs [n]
  simp only [negs, poss] at e1 e2
  have e3 := h.out
  have e4 := h.inn
  have each : ∀ m ∈ hs ++ [n], m ≠ 0 ∧ -100 ≤ m ∧ m ≤ 100 := by
    intro m hm
    rcases List.mem_append.1 hm with hm | hm
    · exact h.each m hm
    · simp at hm; subst hm; exact ⟨b1, b2, b3⟩
  rcases hw with ⟨hn, hs', g1, g2, g3⟩ | ⟨hn, hs', g1, g2, g3⟩
  · rw [if_pos hn] at e1 e2
    rw [g1, g2, g3]
    exact ⟨a1, a2, by omega, by omega, a5, a6, by omega, by omega, each⟩
  · rw [if_neg (by omega)] at e1 e2
    rw [g1, g2, g3]
    exact ⟨a1, a2, a3, a4, by omega, by omega, by omega, by omega, each⟩

/-- What comes of it when one of what is held is over. -/
theorem Inv.over {v o i : Int} {hs : List Int} (h : Inv v o i hs) (k : Nat) (hk : k < hs.length) (d : Bool) :
    ∃ v' o' i', EndIs v o i hs[k] d v' o' i' 0 ∧ Inv v' o' i' (hs.take k ++ hs.drop (k + 1)) ∧ v - o ≤ v' - o' ∧ v' + i' ≤ v + i := by
  obtain ⟨v0, v1, o0, o1, i0, i1, ho, hi, each⟩ := h
  have hn := each hs[k] (List.getElem_mem hk)
  have ep := parts hs k hk
  have e1 : negs hs = negs (hs.take k) + ((if hs[k] < 0 then - hs[k] else 0) + negs (hs.drop (k + 1))) := by
    have := congrArg negs ep
    rw [negs_append] at this
    exact this
  have e2 : poss hs = poss (hs.take k) + ((if hs[k] < 0 then 0 else hs[k]) + poss (hs.drop (k + 1))) := by
    have := congrArg poss ep
    rw [poss_append] at this
    exact this
  have e3 := negs_append (hs.take k) (hs.drop (k + 1))
  have e4 := poss_append (hs.take k) (hs.drop (k + 1))
  have n1 := negs_nonneg (hs.take k)
  have n2 := negs_nonneg (hs.drop (k + 1))
  have n3 := poss_nonneg (hs.take k)
  have n4 := poss_nonneg (hs.drop (k + 1))
  have each' : ∀ m ∈ hs.take k ++ hs.drop (k + 1), m ≠ 0 ∧ -100 ≤ m ∧ m ≤ 100 := by
    intro m hm
    rcases List.mem_append.1 hm with hm | hm
    · exact each m (List.mem_of_mem_take hm)
    · exact each m (List.mem_of_mem_drop hm)
  generalize hs[k] = n at *
  have hb : both v o i n = 0 := both_of (chk_of v0 v1 o0 o1 i0 i1) (dlt_of hn.1 hn.2.1 hn.2.2)
  by_cases hneg : n < 0
  · rw [if_pos hneg] at e1 e2
    have E := endIs_less (v := v) (o := o) (i := i) d hb hneg (by omega)
    cases d
    · exact ⟨_, _, _, E, ⟨by simpa using v0, by simpa using v1, by omega, by simp; omega, by omega, by simp; omega, by omega, by omega, each'⟩, by simp; omega, by simp⟩
    · exact ⟨_, _, _, E, ⟨by simp; omega, by simp; omega, by omega, by simp; omega, by omega, by simp; omega, by omega, by omega, each'⟩, by simp; omega, by simp; omega⟩
  · rw [if_neg hneg] at e1 e2
    have E := endIs_more (v := v) (o := o) (i := i) d hb (by omega) (by omega)
    cases d
    · exact ⟨_, _, _, E, ⟨by simpa using v0, by simpa using v1, by omega, by simp; omega, by omega, by simp; omega, by omega, by omega, each'⟩, by simp, by simp; omega⟩
    · exact ⟨_, _, _, E, ⟨by simp; omega, by simp; omega, by omega, by simp; omega, by omega, by simp; omega, by omega, by omega, each'⟩, by simp; omega, by simp; omega⟩

/-- What the loop keeps: the counter's box, block B; the slice of what is held, a row of the call's own behind it; old memory. -/
structure St (B : Nat) (w : World) (v o i : Int) (hs : List Int) (hv : Value) (wr : World) : Prop where
  c0 : wr.cell? ⟨B, 0, none⟩ = some (.int .i64 v)
  c1 : wr.cell? ⟨B, 1, none⟩ = some (.int .i64 o)
  c2 : wr.cell? ⟨B, 2, none⟩ = some (.int .i64 i)
  loose : ∀ k, wr.frozen? ⟨B, k, none⟩ = false
  row : wr.ownsRow (B + 1) 3 1 hv hs.length (hs.map (Value.int .i64))
  below : Below w.heap.size w wr
  base : w.heap.size ≤ B
  lt : B < wr.heap.size

theorem grownOf {a b : World} (h : Below a.heap.size a b) (row : Option Nat) : a.grownBy b row := ⟨h.os, h.tape, h.output, h.size, fun k hk _ => h.block k hk⟩

theorem St.next {B : Nat} {w : World} {v o i : Int} {hs : List Int} {hv : Value} {wr w1 : World} (h : St B w v o i hs hv wr) (hb : Below wr.heap.size wr w1) : St B w v o i hs hv w1 := by
  obtain ⟨q0, q1, q2⟩ := box3 B hb h.lt h.c0 h.c1 h.c2
  refine ⟨q0, q1, q2, Go.Proofs.Ytbgnajcmhmpjlaa.loose B hb h.lt h.loose, ?_, after h.below hb (by have := h.base; have := h.lt; omega), h.base, by have := hb.size; have := h.lt; omega⟩
  refine h.row.kept (grownOf hb none) ?_
  cases hv.ownBlock <;> simp

theorem St.store {B : Nat} {w : World} {v o i : Int} {hs : List Int} {hv : Value} {wr : World} (h : St B w v o i hs hv wr) (a b c : Int) :
    St B w a b c hs hv (((wr.setCell ⟨B, 0, none⟩ (.int .i64 a)).setCell ⟨B, 1, none⟩ (.int .i64 b)).setCell ⟨B, 2, none⟩ (.int .i64 c)) := by
  have h0 := h.c0
  have h1 := h.c1
  have h2 := h.c2
  refine ⟨by simp [go_sem, h0], by simp [go_sem, h1], by simp [go_sem, h2], fun k => by simp [go_sem, h.loose], ?_, ?_, h.base, by simpa [World.size_setCell] using h.lt⟩
  · exact ownsRow_setCell_below (ownsRow_setCell_below (ownsRow_setCell_below h.row (by simp) _) (by simp) _) (by simp) _
  · exact ((h.below.setCell h.base _).setCell h.base _).setCell h.base _

/-- Behind an append of the slice of what is held, or of one that takes its place. -/
theorem St.grow {B : Nat} {w : World} {v o i : Int} {hs hs' : List Int} {hv hv' u : Value} {wr w1 : World} (h : St B w v o i hs hv wr) (hg : wr.grownBy w1 u.ownBlock) (hu : ∀ k, u.ownBlock = some k → B + 1 ≤ k)
    (hr : w1.ownsRow (B + 1) 3 1 hv' hs'.length (hs'.map (Value.int .i64))) : St B w v o i hs' hv' w1 := by
  have hne : some B ≠ u.ownBlock := fun e => by have := hu B e.symm; omega
  have hb := hg.block B h.lt hne
  refine ⟨(World.cell?_of_block (w := wr) hb).trans h.c0, (World.cell?_of_block (w := wr) hb).trans h.c1, (World.cell?_of_block (w := wr) hb).trans h.c2, fun k => (World.frozen?_of_block (w := wr) hb).trans (h.loose k), hr, ?_, h.base, by have := hg.size; have := h.lt; omega⟩
  exact h.below.grown hg (by have := h.base; have := h.lt; omega) (fun k hk => by have := hu k hk; have := h.base; omega)

theorem St.push {B : Nat} {w : World} {v o i n : Int} {hs : List Int} {hv hv' : Value} {wr w1 : World} (h : St B w v o i hs hv wr) (hg : wr.grownBy w1 hv.ownBlock)
    (hr : w1.ownsRow (B + 1) 3 1 hv' (hs.length + 1) (hs.map (Value.int .i64) ++ [.int .i64 n])) : St B w v o i (hs ++ [n]) hv' w1 :=
  h.grow hg (fun k hk => (h.row.lt k hk).1) (by simpa using hr)

/-- The slice of what is held, by its value: its length is the list's; where there is an element, its row and its cells. -/
theorem St.shape {B : Nat} {w : World} {v o i : Int} {hs : List Int} {hv : Value} {wr : World} (h : St B w v o i hs hv wr) :
    ∃ (ga : Option Addr) (cap : Nat), hv = .slice ga hs.length cap ∧ hs.length ≤ cap ∧ (0 < hs.length → ∃ g, ga = some ⟨g, 0, none⟩ ∧ B < g ∧ g < wr.heap.size ∧ ∀ j (hj : j < hs.length), wr.cell? ⟨g, j, none⟩ = some (.int .i64 hs[j])) := by
  rcases h.row.2 with ⟨e, e0⟩ | ⟨g, cap, cur, e, hb, hg, hc, hm, hz, ht⟩
  · exact ⟨none, 0, by rw [e, e0], by omega, fun h => absurd e0 (by omega)⟩
  · refine ⟨_, cap, e, hc, fun _ => ⟨g, rfl, by omega, (Array.getElem?_eq_some_iff.1 hg).1, fun j hj => ?_⟩⟩
    have h1 : (cur.toList.take (hs.length * 1))[j]? = (hs.map (Value.int .i64))[j]? := by rw [ht]
    rw [Nat.mul_one, List.getElem?_take_of_lt hj, List.getElem?_map, List.getElem?_eq_getElem hj] at h1
    simp only [World.cell?, hg]
    simpa using h1

/-- Which one is over: a number below how many are held. -/
theorem mod_ok (n : Int) (L : Nat) (h0 : 0 < L) (h1 : L ≤ 201) : ∃ r : Nat, r < L ∧ wrap64 ((IntKind.u64.wrap n).tmod (L : Int)) = (r : Int) := by
  have e2 : 0 ≤ IntKind.u64.wrap n := by rw [IntKind.wrap_u64]; omega
  rw [Int.tmod_eq_emod_of_nonneg e2]
  have e3 := Int.emod_nonneg (IntKind.u64.wrap n) (b := (L : Int)) (by omega)
  have e4 := Int.emod_lt_of_pos (IntKind.u64.wrap n) (b := (L : Int)) (by omega)
  refine ⟨(IntKind.u64.wrap n % (L : Int)).toNat, by omega, ?_⟩
  rw [IntWalk.wrap64_in _ (by omega)]
  omega

/-- The counter's box in a later world, and all that is older. -/
theorem boxKeep {B : Nat} {x y z : Value} {w W w1 : World} (h : W.cell? ⟨B, 0, none⟩ = some x ∧ W.cell? ⟨B, 1, none⟩ = some y ∧ W.cell? ⟨B, 2, none⟩ = some z ∧ B < W.heap.size ∧ Below w.heap.size w W) (hb : Below W.heap.size W w1) :
    w1.cell? ⟨B, 0, none⟩ = some x ∧ w1.cell? ⟨B, 1, none⟩ = some y ∧ w1.cell? ⟨B, 2, none⟩ = some z ∧ B < w1.heap.size ∧ Below w.heap.size w w1 := by
  obtain ⟨a0, a1, a2, hlt, hw⟩ := h
  obtain ⟨a0, a1, a2⟩ := box3 B hb hlt a0 a1 a2
  exact ⟨a0, a1, a2, by have := hb.size; omega, after hw hb hw.size⟩

/-- What End reads, in a later world: the counter's box, the one that is over, whether it is done. -/
theorem six {B g r be oe : Nat} {x y z m d : Value} {w8 w' : World} (a0 : w8.cell? ⟨B, 0, none⟩ = some x) (a1 : w8.cell? ⟨B, 1, none⟩ = some y) (a2 : w8.cell? ⟨B, 2, none⟩ = some z) (a3 : w8.cell? ⟨g, r, none⟩ = some m) (a4 : w8.cell? ⟨be, oe, none⟩ = some d)
    (hb : Below w8.heap.size w8 w') : w'.cell? ⟨B, 0, none⟩ = some x ∧ w'.cell? ⟨B, 1, none⟩ = some y ∧ w'.cell? ⟨B, 2, none⟩ = some z ∧ w'.cell? ⟨g, r, none⟩ = some m ∧ w'.cell? ⟨be, oe, none⟩ = some d ∧ Below w8.heap.size w8 w' := by
  have l0 := World.block_lt_of_cell? w8 _ a0
  have l1 := World.block_lt_of_cell? w8 _ a3
  have l2 := World.block_lt_of_cell? w8 _ a4
  exact ⟨(hb.cell (p := ⟨B, 0, none⟩) l0).trans a0, (hb.cell (p := ⟨B, 1, none⟩) l0).trans a1, (hb.cell (p := ⟨B, 2, none⟩) l0).trans a2, (hb.cell l1).trans a3, (hb.cell l2).trans a4, hb⟩

theorem St.drew {B : Nat} {w : World} {v o i : Int} {hs : List Int} {hv : Value} {wr : World} (h : St B w v o i hs hv wr) : St B w v o i hs hv wr.drew := h.next (Below.refl _ _).drew

/-- A row's first cells, and its cells behind number r. -/
theorem row_take {W : World} {g : Nat} {hs : List Int} (hc : ∀ j (hj : j < hs.length), W.cell? ⟨g, j, none⟩ = some (.int .i64 hs[j])) (r : Nat) :
    ∀ j u, ((hs.take r).map (Value.int .i64))[j]? = some u → W.cell? ((⟨g, 0, none⟩ : Addr).add j) = some u := by
  intro j u hj
  rw [List.getElem?_map, Option.map_eq_some_iff] at hj
  obtain ⟨x, hx, rfl⟩ := hj
  have hl := (List.getElem?_eq_some_iff.1 hx).1
  simp only [List.length_take] at hl
  rw [List.getElem?_take_of_lt (by omega), List.getElem?_eq_getElem (by omega)] at hx
  simp only [Option.some.injEq] at hx
  rw [Addr.add_lit, Nat.zero_add, hc j (by omega), hx]
theorem row_drop {W : World} {g : Nat} {hs : List Int} (hc : ∀ j (hj : j < hs.length), W.cell? ⟨g, j, none⟩ = some (.int .i64 hs[j])) (r : Nat) :
    ∀ j u, ((hs.drop (r + 1)).map (Value.int .i64))[j]? = some u → W.cell? ((⟨g, r + 1, none⟩ : Addr).add j) = some u := by
  intro j u hj
  rw [List.getElem?_map, Option.map_eq_some_iff] at hj
  obtain ⟨x, hx, rfl⟩ := hj
  rw [List.getElem?_drop] at hx
  have hl := (List.getElem?_eq_some_iff.1 hx).1
  rw [List.getElem?_eq_getElem hl] at hx
  simp only [Option.some.injEq] at hx
  rw [Addr.add_lit, hc (r + 1 + j) hl, hx]
theorem all_one (l : List Int) : ∀ u ∈ l.map (Value.int .i64), u.oneCell' = true := by
  intro u hu
  obtain ⟨x, _, rfl⟩ := List.mem_map.1 hu
  rfl
theorem cells_grown {W w1 : World} {g : Nat} {hs : List Int} (hc : ∀ j (hj : j < hs.length), W.cell? ⟨g, j, none⟩ = some (.int .i64 hs[j])) (hg : W.drew.grownBy w1 (Value.slice none 0 0).ownBlock) : ∀ j (hj : j < hs.length), w1.cell? ⟨g, j, none⟩ = some (.int .i64 hs[j]) :=
  fun j hj => hg.cell (w := W.drew) (hc j hj) (by simp [Value.ownBlock])
theorem St.base14 {B : Nat} {w : World} {v o i : Int} {hs : List Int} {hv : Value} {W w14 : World} {row : Option Nat} (h : St B w v o i hs hv W) (hg : W.drew.grownBy w14 row) : B + 1 ≤ w14.heap.size := by
  have h1 := h.drew.lt
  have h2 := hg.size
  omega
/-- Where the cells behind number r begin: the model, as Go, keeps the row's own address where there is no room behind it. -/
theorem row_behind {g r cap : Nat} {hs : List Int} (hl : r < hs.length) (hcap : hs.length ≤ cap) : ∃ A : Addr, (if cap = r + 1 then some (⟨g, 0, none⟩ : Addr) else some ⟨g, r + 1, none⟩) = some A ∧
    ∀ W : World, (∀ j (hj : j < hs.length), W.cell? ⟨g, j, none⟩ = some (.int .i64 hs[j])) → ∀ j u, ((hs.drop (r + 1)).map (Value.int .i64))[j]? = some u → W.cell? (A.add j) = some u := by
  by_cases h : cap = r + 1
  · refine ⟨⟨g, 0, none⟩, by simp [h], fun W _ j u hu => ?_⟩
    rw [List.drop_eq_nil_of_le (by omega)] at hu
    simp at hu
  · exact ⟨⟨g, r + 1, none⟩, by simp [h], fun W hc => row_drop hc r⟩

theorem St.cutOut {B : Nat} {w : World} {v o i : Int} {hs : List Int} {hv v14 v15 : Value} {W w14 w15 : World} {r : Nat} (h : St B w v o i hs hv W) (hr : r < hs.length) (g14 : W.drew.grownBy w14 (Value.slice none 0 0).ownBlock)
    (o14 : w14.ownsRow (B + 1) 3 1 v14 (0 + r) ([] ++ (hs.take r).map (Value.int .i64))) (g15 : w14.grownBy w15 v14.ownBlock)
    (o15 : w15.ownsRow (B + 1) 3 1 v15 (0 + r + (hs.length - (r + 1))) (([] ++ (hs.take r).map (Value.int .i64)) ++ (hs.drop (r + 1)).map (Value.int .i64))) : St B w v o i (hs.take r ++ hs.drop (r + 1)) v15 w15 := by
  have e1 : (hs.take r).length = 0 + r := by simp; omega
  have e2 : (hs.take r ++ hs.drop (r + 1)).length = 0 + r + (hs.length - (r + 1)) := by simp; omega
  have h1 : St B w v o i (hs.take r) v14 w14 := h.drew.grow (u := .slice none 0 0) g14 (by simp [Value.ownBlock]) (by rw [e1]; simpa using o14)
  exact h1.grow g15 (fun k hk => (o14.lt k hk).1) (by rw [e2]; simpa using o15)

theorem step_append_own {P : Program} {w : World} {ops : Array Oper} {o : Oper} {a : Act} {K : Act → World → Prop} {Q : Exit → Act → World → Prop} {E : Prop} (hgd : o.guard = none) (s x : Operand) (t : TypeId)
    (ho : o.op = .call { callee := .builtin .append, args := #[s, x], argTypes := #[t, t] })
    (base : Nat) (e : TypeId) (i : TypeInfo) (z : Value) (size bytes : Nat) (ht : P.underlying t = some (.slice e)) (hi : P.info? e = some i) (hz : i.zero = some z)
    (hsize : i.size = size) (hby : i.bytes = bytes) (hzs : z.cells.size = size) (hsz : 0 < size)
    (v : Value) (n : Nat) (xs : List Value) (hs : a.eval s = v) (hown : w.ownsRow base e size v n xs)
    (ad : Addr) (m c : Nat) (news : List Value) (hx : a.eval x = .slice (some ad) m c) (hl : news.length = m * size) (hnews : ∀ j u, news[j]? = some u → w.cell? (ad.add j) = some u) (h1 : ∀ u ∈ news, u.oneCell' = true)
    (h63 : n + m ≤ maxLen) (hbytes : (n + m) * bytes ≤ 140737488355328) (hbase : base ≤ w.heap.size)
    (h : ∀ v' w', w'.ownsRow base e size v' (n + m) (xs ++ news) → w.grownBy w' v.ownBlock → K (a.put o.dst v') w') : if Region.wanted o (yielded ops a.tmps) = true then Oper.wp P o a w K Q else E := by
  have hw : Region.wanted o (yielded ops a.tmps) = true := by simp [Region.wanted, hgd]
  rw [if_pos hw]
  exact wp_append_own w s x t ho base e i z size bytes ht hi hz hsize hby hzs hsz v n xs hs hown ad m c news hx hl hnews h1 h63 hbytes hbase fun v' w' h2 h3 _ => h v' w' h2 h3

theorem one_new {w : World} {n : Int} {t : TypeId} (H : Nat) (hH : w.heap.size = H) : ∀ j u, [Value.int .i64 n][j]? = some u → (w.alloc (.cells #[.int .i64 n] t)).cell? ((⟨H, 0, none⟩ : Addr).add j) = some u := by
  intro j u hj
  subst hH
  cases j with
  | zero => simp at hj; subst hj; simp [Addr.add]
  | succ j => simp at hj
theorem one_cell {n : Int} : ∀ u ∈ [Value.int .i64 n], u.oneCell' = true := by
  intro u hu
  simp at hu
  subst hu
  rfl

end Go.Proofs.Ytbgnajcmhmpjlaa
