/- How a list of steps of a post, and one step, come in as arguments. -/
import Derived.Test.YtbgnajcmhmpjlabPKit
import Derived.Test.YtbgnajcmhmpjlabMMath
namespace Go.Proofs.Ytbgnajcmhmpjlab
open Go.ChangeShapes Go.WideShapes Go.ChangeAt Go.RowKit Go.Deep

/-- A step: what is done, the number, the mail. -/
structure PSp where
  what : Int
  n : Int
  m : Ml
def PSp.cells (x : PSp) : List Value := [.int .i64 x.what, .int .i64 x.n, .int .i64 x.m.kind, .int .i64 x.m.deal, .int .i64 x.m.shop, .int .i64 x.m.c, .int .i64 x.m.d, .bool x.m.yes]
/-- A list of steps as memory holds it. -/
def PStepsAt (w : World) (la : Option Addr) (l : List PSp) : Prop := ∀ k x, l[k]? = some x → ∃ b off, la = some ⟨b, off, none⟩ ∧ b < w.heap.size ∧ ∀ j v, x.cells[j]? = some v → w.cell? ⟨b, off + k * 8 + j, none⟩ = some v
theorem PStepsAt.below {w w' : World} {B : Nat} {la : Option Addr} {l : List PSp} (h : PStepsAt w la l) (hb : Below B w w') (hB : w.heap.size ≤ B) : PStepsAt w' la l := by
  intro k x hk
  obtain ⟨b, off, e, hlt, h0⟩ := h k x hk
  have hb' : b < B := by omega
  exact ⟨b, off, e, Nat.lt_of_lt_of_le hlt hb.size, fun j v hj => (hb.cell (p := ⟨b, _, none⟩) hb').trans (h0 j v hj)⟩

theorem Try.cellsPStepP : Try.prog.cellsOf 73 = 8 := by kernel_rfl
theorem Try.cellsMailP : Try.prog.cellsOf 71 = 6 := by kernel_rfl
theorem Try.cellsBoolQ : Try.prog.cellsOf 4 = 1 := by kernel_rfl

set_option maxRecDepth 20000 in
theorem open_mail {H : Type} {enc : TypeId × Value → H} {W : World} {b : Nat} {sp : Nat → Bool} {held : Bool} {fuel : Nat} {cs : List Value} {x : DataW H × List MemPlace} (hlen : cs.length = 6) (h : DataW.trod enc Try.prog W b sp held fuel 71 cs = some x) : ∃ m : Ml, cs = m.cells := by
  obtain ⟨xs, k, hk, hxy, _, hxl, hf⟩ := DataW.trod_struct Try.underlying71 h
  match xs, hxl, cs, hlen with
  | [z0, z1, z2, z3, z4], _, [v0, v1, v2, v3, v4, v5], _ =>
    have f0 := hf 0 _ rfl
    have f1 := hf 1 _ rfl
    have f2 := hf 2 _ rfl
    have f3 := hf 3 _ rfl
    have f4 := hf 4 _ rfl
    simp [Try.cellsIntP, Try.cellsWantP, Try.cellsBoolQ] at f0 f1 f2 f3 f4
    obtain ⟨a0, e0, _⟩ := DataW.trod_int Try.underlying3 f0
    obtain ⟨a1, e1, _⟩ := DataW.trod_int Try.underlying3 f1
    obtain ⟨a2, e2, _⟩ := DataW.trod_int Try.underlying3 f2
    obtain ⟨ys, k2, hk2, hxy2, _, hxl2, hf2⟩ := DataW.trod_struct Try.underlying69 f3
    match ys, hxl2 with
    | [t0, t1], _ =>
    have g0 := hf2 0 _ rfl
    have g1 := hf2 1 _ rfl
    simp [Try.cellsIntP] at g0 g1
    obtain ⟨a3, e3, _⟩ := DataW.trod_int Try.underlying3 g0
    obtain ⟨a4, e4, _⟩ := DataW.trod_int Try.underlying3 g1
    obtain ⟨a5, e5, _⟩ := DataW.trod_bool Try.underlying4 f4
    simp at e0 e1 e2 e3 e4 e5
    exact ⟨⟨a0, a1, a2, a3, a4, a5⟩, by rw [e0, e1, e2, e3, e4, e5]; rfl⟩
set_option maxRecDepth 20000 in
theorem open_pstep {H : Type} {enc : TypeId × Value → H} {W : World} {b : Nat} {sp : Nat → Bool} {held : Bool} {fuel : Nat} {cs : List Value} {x : DataW H × List MemPlace} (hlen : cs.length = 8) (h : DataW.trod enc Try.prog W b sp held fuel 73 cs = some x) : ∃ s : PSp, cs = s.cells := by
  obtain ⟨xs, k, hk, hxy, _, hxl, hf⟩ := DataW.trod_struct Try.underlying73 h
  match xs, hxl, cs, hlen with
  | [z0, z1, z2], _, [v0, v1, v2, v3, v4, v5, v6, v7], _ =>
    have f0 := hf 0 _ rfl
    have f1 := hf 1 _ rfl
    have f2 := hf 2 _ rfl
    simp [Try.cellsIntP, Try.cellsMailP] at f0 f1 f2
    obtain ⟨a0, e0, _⟩ := DataW.trod_int Try.underlying3 f0
    obtain ⟨a1, e1, _⟩ := DataW.trod_int Try.underlying3 f1
    obtain ⟨m, e2⟩ := open_mail rfl f2
    simp [Ml.cells] at e0 e1 e2
    obtain ⟨q0, q1, q2, q3, q4, q5⟩ := e2
    exact ⟨⟨a0, a1, m⟩, by rw [e0, e1, q0, q1, q2, q3, q4, q5]; rfl⟩

theorem open_psteps {H : Type} {enc : TypeId × Value → H} {W : World} {held : Bool} {a : Option Addr} {l c : Nat} {d : DataW H} {ps : List MemPlace} (hd : DataW.Trod enc Try.prog W 0 (fun _ => true) held 63 (.slice a l c) d ps) :
    ∃ m : List PSp, PStepsAt W a m ∧ m.length = l := by
  obtain ⟨fuel, hf⟩ := hd
  rcases open_slice Try.underlying63 hf with ⟨hcs, _⟩ | ⟨x, l', c', m, n, D, Pl, hcs, _, hl, hm, hz, _, hx⟩
  · simp [Value.cells] at hcs
    obtain ⟨rfl, rfl, rfl⟩ := hcs
    exact ⟨[], by intro k x h; simp at h, rfl⟩
  · simp [Value.cells] at hcs
    obtain ⟨rfl, rfl, rfl⟩ := hcs
    simp only [if_true] at hz
    have each : ∀ k, k < l → ∃ q : PSp, ∀ j v, q.cells[j]? = some v → W.cell? (x.add (k * 8 + j)) = some v := by
      intro k hk
      obtain ⟨cs, h1, h2⟩ := hx k (by omega)
      rw [Try.cellsPStepP] at h1
      obtain ⟨_, hlen, hcell⟩ := World.cells?_some h1
      obtain ⟨s, rfl⟩ := open_pstep hlen h2
      refine ⟨s, fun j v hj => ?_⟩
      have hj' := (List.getElem?_eq_some_iff.1 hj).1
      have q := hcell j (by simpa [PSp.cells] using hj')
      rw [add_add] at q
      rw [q]
      exact hj
    haveI : Inhabited PSp := ⟨⟨0, 0, ⟨0, 0, 0, 0, 0, false⟩⟩⟩
    obtain ⟨q, hq⟩ := choose_lt each
    refine ⟨(List.range l).map q, ?_, by simp⟩
    intro k s hk
    have hk' : k < l := by have := (List.getElem?_eq_some_iff.1 hk).1; simpa using this
    have eq : q k = s := by
      rw [List.getElem?_map, List.getElem?_range hk'] at hk
      simpa using hk
    have h00 := hq 0 (by omega) 0 _ rfl
    obtain ⟨bb, off, spot⟩ := x
    have hspot : spot = none := by simpa [Addr.add] using World.cell?_spot h00
    subst hspot
    rw [add_plain] at h00
    refine ⟨bb, off, rfl, World.block_lt_of_cell? W _ h00, fun j v hj => ?_⟩
    have := hq k hk' j v (by rw [eq]; exact hj)
    rw [add_plain] at this
    rw [Nat.add_assoc]; exact this

end Go.Proofs.Ytbgnajcmhmpjlab
