/- For every list of lines and every number: the statement DeskJoins of the program returns true, and its arguments read as before, where the library's listed variables read as the program's own text lays them (the card ties them to it). -/
import Derived.Lib.IndexAny
import Derived.KernelRfl
import Derived.Test.YtbgnajcmhmpjlacGreatDoorRows
import Derived.Deep.Strs
import Derived.Stop.LaidErr
import Derived.LaidMore
import Derived.LaidLaws
import Derived.SizedLaws
import Derived.MakeChecks
import Derived.Test.YtbgnajcmhmpjlacGreatDoorCards
import Derived.Test.YtbgnajcmhmpjlacGreatDoorTie
import Derived.OpenShut
import Derived.Stop.Joined
import Derived.Test.YtbgnajcmhmpjlacGreatDoorG7

/- A desk does what lines ask for; a new desk. -/
namespace Go.Proofs.YtbgnajcmhmpjlacGreatDoor
open Go.RowKit

def hasNl (x : ByteArray) : Bool := x.data.toList.contains 10
def nlB (xs : List ByteArray) : Int := Lib.idxBy (fun _ y => hasNl y) xs default
theorem nlB_any (xs : List ByteArray) : decide (0 ≤ nlB xs) = xs.any hasNl := Lib.idxBy_nonneg_iff (fun _ y => hasNl y) xs default
def chkL (xs : List ByteArray) : Int × Int := if 150 < xs.length then (3, -1) else if 0 ≤ nlB xs then (12, nlB xs) else (0, 0)
set_option maxRecDepth 100000 in
theorem nl_pred (w : World) : PredAt Tryz.prog 25 #[] Value.string hasNl w := by
  intro W x hb
  unfold FnGives
  have e2 : hasNl x = decide (0 ≤ Lib.indexByte x.data.toList 10) := Lib.contains_iff_indexByte x.data.toList 10
  have HC := Tryz.strings_Contains_one x 10 W
  rw [e2]
  clear e2
  generalize decide (0 ≤ Lib.indexByte x.data.toList 10) = o at *
  go_enter Tryz.func25, Tryz.ntmps25
  go_wp2_with (go_at_call 26; refine Calls.mono HC ?_; rintro e w' ⟨rfl, h6⟩; rw [h6]; clear h6 w')
  go_ret
  exact ⟨rfl, 0, rfl⟩
theorem index_any (xs : List ByteArray) (la : Option Addr) (lc : Nat) (w : World) (hx : StrsAt w la xs) (hl : xs.length < 1000) : Calls Tryz.prog 24 #[.slice la xs.length lc, .func (.func 25) #[] #[]] w fun e w' => e = .returned (.int .i64 (nlB xs)) ∧ Below w.heap.size w w' := by
  cases xs with
  | nil =>
    refine (Tryz.slices_IndexFunc_empty (α := ByteArray) la lc _ w).mono ?_
    rintro e w' ⟨rfl, rfl⟩
    exact ⟨rfl, Below.refl _ _⟩
  | cons x r =>
    obtain ⟨b, off, rfl, hb, _⟩ := hx 0 x rfl
    refine (Tryz.slices_IndexFunc Value.string hasNl 25 #[] (enters_of Tryz.func25 (by kernel_rfl) rfl) b off (x :: r).length lc (x :: r) w (nl_pred w) (Nat.le_refl _) (by omega) (fun j hj => ?_)).mono ?_
    · obtain ⟨b', o', e, _, hc⟩ := hx j (x :: r)[j] (List.getElem?_eq_getElem hj)
      cases e
      rw [hc, List.getElem!_eq_getElem?_getD, List.getElem?_eq_getElem hj]
      rfl
    · rintro e w' ⟨rfl, k, rfl⟩
      rw [List.take_length]
      exact ⟨rfl, rfl, rfl, rfl, Nat.le_refl _, fun _ _ => rfl⟩
theorem set2 {w : World} {g : Nat} {a b u v : Value} (h0 : w.cell? ⟨g, 0, none⟩ = some a) (h1 : w.cell? ⟨g, 1, none⟩ = some b) : ((w.setCell ⟨g, 0, none⟩ u).setCell ⟨g, 1, none⟩ v).cell? ⟨g, 0, none⟩ = some u ∧ ((w.setCell ⟨g, 0, none⟩ u).setCell ⟨g, 1, none⟩ v).cell? ⟨g, 1, none⟩ = some v :=
  ⟨(cell_set_off (by omega)).trans (cell_set_same h0), cell_set_same ((cell_set_off (by omega)).trans h1)⟩
theorem below2 {B g : Nat} {a w : World} {u v : Value} (h : Below B a w) (hg : B ≤ g) : Below B a ((w.setCell ⟨g, 0, none⟩ u).setCell ⟨g, 1, none⟩ v) := (h.setCell (p := ⟨g, 0, none⟩) hg _).setCell (p := ⟨g, 1, none⟩) hg _
set_option maxRecDepth 100000 in
set_option maxHeartbeats 2000000 in
theorem dcheck_any (xs : List ByteArray) (la : Option Addr) (lc : Nat) (w : World) (hx : StrsAt w la xs) (hl : xs.length < 1000) : Calls Tryz.prog 14 #[.slice la xs.length lc] w fun e w' => e = .returned (.agg #[.int .i64 (chkL xs).1, .int .i64 (chkL xs).2]) ∧ Below w.heap.size w w' := by
  have HX := hid hx
  have HI : Hid (∀ W : World, Below w.heap.size w W → Calls Tryz.prog 24 #[.slice la xs.length lc, .func (.func 25) #[] #[]] W fun e w' => e = .returned (.int .i64 (nlB xs)) ∧ Below W.heap.size W w') := fun W hW => index_any xs la lc W (hx.below hW) hl
  clear hx
  by_cases h1 : 150 < xs.length
  · have j1 : (150 : Int) < (xs.length : Int) := by omega
    have HE : Hid (chkL xs = (3, -1)) := by unfold chkL; rw [if_pos h1]; exact rfl
    rw [HE.out]
    obtain ⟨ll, hll⟩ : ∃ ll, xs.length = ll := ⟨_, rfl⟩
    rw [hll] at j1 ⊢
    clear h1 hl hll HI
    go_enter Tryz.func14, Tryz.ntmps14
    go_wp2_with fail
    go_returns
    exact ⟨rfl, by go_grown⟩
  · have j1 : ¬ (150 : Int) < (xs.length : Int) := by omega
    by_cases h2 : 0 ≤ nlB xs
    · have HE : Hid (chkL xs = (12, nlB xs)) := by unfold chkL; rw [if_neg h1, if_pos h2]; exact rfl
      rw [HE.out]
      clear HE
      obtain ⟨ll, hll⟩ : ∃ ll, xs.length = ll := ⟨_, rfl⟩
      rw [hll] at j1 HI ⊢
      generalize nlB xs = no at *
      clear h1 hl hll
      go_enter Tryz.func14, Tryz.ntmps14
      go_wp2_with (go_at_call 24; refine Calls.mono (HI.out _ (by go_grown)) ?_; rintro e w1 ⟨rfl, hb1⟩; have hB1 : Hid (Below w.heap.size w w1) := after (by go_grown) hb1 (by simp); have k0 : w1.cell? ⟨w.heap.size, 0, none⟩ = some (.int .i64 0) := ((bcell hb1).1 _ _ (by simp)).trans (by simp [go_sem]); have k1 : w1.cell? ⟨w.heap.size, 1, none⟩ = some (.int .i64 0) := ((bcell hb1).1 _ _ (by simp)).trans (by simp [go_sem]); have f0 : ∀ k, w1.frozen? ⟨w.heap.size, k, none⟩ = false := loose w.heap.size hb1 (by simp) (by simp [go_sem]); have hz1 := hb1.size; clear hb1)
      obtain ⟨z0, z1⟩ := set2 (u := .int .i64 12) (v := .int .i64 no) k0 k1
      (try simp only [Exit.inBlock, Exit.then])
      exact bodyPost_ret (v := .agg #[.int .i64 12, .int .i64 no]) (by simp [results, Tryz.results14, go_sem, z0, z1]) rfl ⟨rfl, below2 hB1.out (Nat.le_refl _)⟩
    · have HE : Hid (chkL xs = (0, 0)) := by unfold chkL; rw [if_neg h1, if_neg h2]; exact rfl
      rw [HE.out]
      clear HE
      obtain ⟨ll, hll⟩ : ∃ ll, xs.length = ll := ⟨_, rfl⟩
      rw [hll] at j1 HI ⊢
      generalize nlB xs = no at *
      clear h1 hl hll
      go_enter Tryz.func14, Tryz.ntmps14
      go_wp2_with (go_at_call 24; refine Calls.mono (HI.out _ (by go_grown)) ?_; rintro e w1 ⟨rfl, hb1⟩; have hB1 : Hid (Below w.heap.size w w1) := after (by go_grown) hb1 (by simp); have k0 : w1.cell? ⟨w.heap.size, 0, none⟩ = some (.int .i64 0) := ((bcell hb1).1 _ _ (by simp)).trans (by simp [go_sem]); have k1 : w1.cell? ⟨w.heap.size, 1, none⟩ = some (.int .i64 0) := ((bcell hb1).1 _ _ (by simp)).trans (by simp [go_sem]); have f0 : ∀ k, w1.frozen? ⟨w.heap.size, k, none⟩ = false := loose w.heap.size hb1 (by simp) (by simp [go_sem]); have hz1 := hb1.size; clear hb1)
      obtain ⟨z0, z1⟩ := set2 (u := .int .i64 0) (v := .int .i64 0) k0 k1
      (try simp only [Exit.inBlock, Exit.then])
      exact bodyPost_ret (v := .agg #[.int .i64 0, .int .i64 0]) (by simp [results, Tryz.results14, go_sem, z0, z1]) rfl ⟨rfl, below2 hB1.out (Nat.le_refl _)⟩

theorem DLv.keep {O : Nat → Prop} {w0 w w1 : World} {Z : Nat → Prop} {p q b m : Nat} {c : Nat → Nat} {ws : Nat → Int} {l : List UInt8} {T : Twn} (h : DLv w0 Z w p q b m c ws l T) (hs : Save O w w1) (hO : ∀ k, O k → Z k ∧ w0.heap.size ≤ k) : DLv w0 Z w1 p q b m c ws l T := ⟨h.lv.keep (dk_stands ..) hs hO, h.full, h.ok⟩
theorem string_dlv {w0 w : World} {Z : Nat → Prop} {p q b m : Nat} {c : Nat → Nat} {ws : Nat → Int} {l : List UInt8} {T : Twn} (h : DLv w0 Z w p q b m c ws l T) :
    Calls Tryz.prog 16 #[.pointer (some ⟨p, 0, none⟩)] w fun e w' => e = .returned (.string (bs l)) ∧ p < w'.heap.size ∧ Calls Tryz.prog 17 #[.pointer (some ⟨p, 0, none⟩)] w' fun e w2 => e = .returned (.tuple #[]) ∧ DLv w0 Z w2 p q b m c ws [] T ∧ Save (fun k => ¬ Z k) w w2 := by
  obtain ⟨O, h1, h2⟩ := h.bld
  refine (bstring_any h1).mono ?_
  rintro e w1 ⟨rfl, k1, k2⟩
  refine ⟨rfl, k1.own p k1.mine, (breset_any k1).mono ?_⟩
  rintro e w2 ⟨rfl, k3, k4⟩
  exact ⟨rfl, h2 w2 [] ⟨O, k3, k2.trans k4 (fun _ _ hj => hj), .refl _ _⟩⟩

set_option maxRecDepth 100000 in
set_option maxHeartbeats 4000000 in
theorem do_bad {w0 w : World} {Z : Nat → Prop} {p q b m : Nat} {c : Nat → Nat} {ws : Nat → Int} {l : List UInt8} {T : Twn} (xs : List ByteArray) {la : Option Addr} {lc : Nat} (h : DLv w0 Z w p q b m c ws l T) (hx : StrsAt w la xs) (hl : xs.length < 1000) (hc : (chkL xs).1 ≠ 0) :
    Calls Tryz.prog 9 #[.pointer (some ⟨p, 0, none⟩), .slice la xs.length lc] w fun e w' => e = .returned (.tuple #[.string ⟨#[]⟩, .agg #[.int .i64 (chkL xs).1, .int .i64 (chkL xs).2]]) ∧ DLv w0 Z w' p q b m c ws l T ∧ Save (fun k => ¬ Z k) w w' := by
  have HC : Hid (∀ W : World, Below w.heap.size w W → Calls Tryz.prog 14 #[.slice la xs.length lc] W fun e w' => e = .returned (.agg #[.int .i64 (chkL xs).1, .int .i64 (chkL xs).2]) ∧ Below W.heap.size W w') := fun W hW => dcheck_any xs la lc W (hx.below hW) hl
  have HD := hid h
  obtain ⟨ll, hll⟩ : ∃ ll, xs.length = ll := ⟨_, rfl⟩
  rw [hll] at HC ⊢
  generalize (chkL xs).1 = co at *
  generalize (chkL xs).2 = ca at *
  have hc' : (co != 0) = true := by simpa using hc
  clear h hx hl hll hc
  go_enter Tryz.func9, Tryz.ntmps9
  go_upto_region 3 with (go_at_call 14; refine Calls.mono (HC.out _ (by go_grown)) ?_; rintro e w1 ⟨rfl, hb1⟩; have hB1 : Hid (Below w.heap.size w w1) := after (by go_grown) hb1 (by simp); have k0 : w1.cell? ⟨w.heap.size, 0, none⟩ = some (.int .i64 0) := ((bcell hb1).1 _ _ (by simp)).trans (by simp [go_sem]); have k1 : w1.cell? ⟨w.heap.size, 1, none⟩ = some (.int .i64 0) := ((bcell hb1).1 _ _ (by simp)).trans (by simp [go_sem]); have f0 : ∀ k, w1.frozen? ⟨w.heap.size, k, none⟩ = false := loose w.heap.size hb1 (by simp) (by simp [go_sem]); have hz1 : w.heap.size < w1.heap.size := (by have := hb1.size; simp at this; omega); clear hb1)
  go_region
  all_goals
    go_wp2_with fail
    obtain ⟨z0, z1⟩ := set2 (u := .int .i64 co) (v := .int .i64 ca) k0 k1
    have HB : Hid (Below w.heap.size w (((w1.setCell ⟨w.heap.size, 0, none⟩ (.int .i64 co)).setCell ⟨w.heap.size, 1, none⟩ (.int .i64 ca)).alloc (.cells #[.int .i64 co, .int .i64 ca] 31)).drew) := ((below2 hB1.out (Nat.le_refl _)).alloc (by simp; omega) _).drew
    (try simp only [Exit.inBlock, Exit.then])
    exact bodyPost_ret (v := .tuple #[.string ⟨#[]⟩, .agg #[.int .i64 co, .int .i64 ca]]) (by simp [results, Tryz.results9, go_sem, z0, z1, hz1]) rfl ⟨rfl, HD.out.next HB.out, Save.of_below HB.out⟩
set_option maxRecDepth 100000 in
set_option maxHeartbeats 4000000 in
theorem do_good {w0 w : World} {Z : Nat → Prop} {p q b m : Nat} {c : Nat → Nat} {ws : Nat → Int} {T : Twn} (xs : List ByteArray) {la : Option Addr} {lc : Nat} (ht : Tied w0) (h : DLv w0 Z w p q b m c ws [] T) (hx : StrsAt w la xs) (hz : xs ≠ [] → ∀ a, la = some a → Z a.block ∨ a.block < w0.heap.size) (hs : ∀ x ∈ xs, x.size ≤ 4294967296) (hl : xs.length < 1000) (hc : (chkL xs).1 = 0) :
    Calls Tryz.prog 9 #[.pointer (some ⟨p, 0, none⟩), .slice la xs.length lc] w fun e w' => e = .returned (.tuple #[.string (bs (linesR ws T (xs.map (·.data.toList))).1), .agg #[.int .i64 0, .int .i64 0]]) ∧ DLv w0 Z w' p q b m c ws [] (linesR ws T (xs.map (·.data.toList))).2 ∧ Save (fun k => ¬ Z k) w w' := by
  have HC : Hid (∀ W : World, Below w.heap.size w W → Calls Tryz.prog 14 #[.slice la xs.length lc] W fun e w' => e = .returned (.agg #[.int .i64 (chkL xs).1, .int .i64 (chkL xs).2]) ∧ Below W.heap.size W w') := fun W hW => dcheck_any xs la lc W (hx.below hW) hl
  have H150 : Hid (xs.length ≤ 150) := by
    unfold chkL at hc
    split at hc
    · simp at hc
    · exact hid (by omega)
  have HD := hid h
  have HT := hid ht
  have HX := hid hx
  have HZ := hid hz
  have HS := hid hs
  obtain ⟨ll, hll⟩ : ∃ ll, xs.length = ll := ⟨_, rfl⟩
  rw [hll] at HC hl ⊢
  rw [hc] at HC
  generalize (chkL xs).2 = ca at *
  clear h hx hc ht hz hs
  go_enter Tryz.func9, Tryz.ntmps9
  go_wp2_with (go_at_call 14; refine Calls.mono (HC.out _ (by go_grown)) ?_; rintro e w1 ⟨rfl, hb1⟩; have hB1 : Hid (Below w.heap.size w w1) := after (by go_grown) hb1 (by simp); have k0 : w1.cell? ⟨w.heap.size, 0, none⟩ = some (.int .i64 0) := ((bcell hb1).1 _ _ (by simp)).trans (by simp [go_sem]); have k1 : w1.cell? ⟨w.heap.size, 1, none⟩ = some (.int .i64 0) := ((bcell hb1).1 _ _ (by simp)).trans (by simp [go_sem]); have f0 : ∀ k, w1.frozen? ⟨w.heap.size, k, none⟩ = false := loose w.heap.size hb1 (by simp) (by simp [go_sem]); have hz1 : w.heap.size < w1.heap.size := (by have := hb1.size; simp at this; omega); clear hb1)
  obtain ⟨W2, hW2⟩ : ∃ W2, W2 = w1.alloc (.cells #[.int .i64 0, .int .i64 ca] 31) := ⟨_, rfl⟩
  rw [← hW2]
  have hb2 : Below w1.heap.size w1 W2 := by rw [hW2]; go_grown
  have hB2 : Below w.heap.size w W2 := after hB1.out hb2 hB1.out.size
  have x0 := ((bcell hb2).1 _ 0 hz1).trans k0
  have x1 := ((bcell hb2).1 _ 1 hz1).trans k1
  have x2 := loose w.heap.size hb2 hz1 f0
  have hz2 : w.heap.size < W2.heap.size := Nat.lt_of_lt_of_le hz1 hb2.size
  have HD2 : Hid (DLv w0 (fun k => Z k ∨ k = w.heap.size) W2 p q b m c ws [] T) := HD.out.more hB2 (fun k hk => hk.elim .inl (fun e => .inr ⟨by omega, by omega⟩))
  have HB2 := hid hB2
  have HCell : Hid (∀ k x, xs[k]? = some x → ∃ bl ol, la = some ⟨bl, ol, none⟩ ∧ ∀ (wr : World) l' T', DLv w0 (fun k => Z k ∨ k = w.heap.size) wr p q b m c ws l' T' → Save (fun k => ¬ (Z k ∨ k = w.heap.size)) W2 wr → wr.cell? ⟨bl, ol + k, none⟩ = some (.string x)) := fun k x hk => by
    obtain ⟨bl, ol, e, hbl, hc⟩ := HX.out k x hk
    refine ⟨bl, ol, e, fun wr l' T' hd hs => ?_⟩
    rcases HZ.out (fun e => by rw [e] at hk; simp at hk) _ e with q1 | q1
    · exact (hs.cell (p := ⟨bl, ol + k, none⟩) (Nat.lt_of_lt_of_le hbl hB2.size) (fun hn => hn (.inl q1))).trans (((bcell hB2).1 _ _ hbl).trans hc)
    · exact (hd.below.cell (p := ⟨bl, ol + k, none⟩) q1).trans ((HD.out.below.cell (p := ⟨bl, ol + k, none⟩) q1).symm.trans hc)
  have HRes : Hid (∀ wr : World, Save (fun k => ¬ (Z k ∨ k = w.heap.size)) W2 wr → wr.cell? ⟨w.heap.size, 0, none⟩ = some (.int .i64 0) ∧ wr.cell? ⟨w.heap.size, 1, none⟩ = some (.int .i64 0) ∧ (∀ k, wr.frozen? ⟨w.heap.size, k, none⟩ = false) ∧ w.heap.size < wr.heap.size) := fun wr hs => ⟨(hs.cell (p := ⟨w.heap.size, 0, none⟩) hz2 (fun hn => hn (.inr rfl))).trans x0, (hs.cell (p := ⟨w.heap.size, 1, none⟩) hz2 (fun hn => hn (.inr rfl))).trans x1, fun k => (hs.frozen (p := ⟨w.heap.size, k, none⟩) hz2 (fun hn => hn (.inr rfl))).trans (x2 k), Nat.lt_of_lt_of_le hz2 hs.size⟩
  have HFin : Hid (∀ (w5 : World) (T' : Twn), DLv w0 (fun k => Z k ∨ k = w.heap.size) w5 p q b m c ws [] T' → Save (fun k => ¬ (Z k ∨ k = w.heap.size)) W2 w5 → DLv w0 Z ((w5.setCell ⟨w.heap.size, 0, none⟩ (.int .i64 0)).setCell ⟨w.heap.size, 1, none⟩ (.int .i64 0)) p q b m c ws [] T' ∧ Save (fun k => ¬ Z k) w ((w5.setCell ⟨w.heap.size, 0, none⟩ (.int .i64 0)).setCell ⟨w.heap.size, 1, none⟩ (.int .i64 0))) := fun w5 T' hd hs => by
    have hS : Save (fun k => k = w.heap.size) w5 ((w5.setCell ⟨w.heap.size, 0, none⟩ (.int .i64 0)).setCell ⟨w.heap.size, 1, none⟩ (.int .i64 0)) := Save.setCell (O := fun k => k = w.heap.size) (Save.setCell (O := fun k => k = w.heap.size) (Save.refl _ w5) (p := ⟨w.heap.size, 0, none⟩) (fun _ => rfl) _) (p := ⟨w.heap.size, 1, none⟩) (fun _ => rfl) _
    refine ⟨(hd.keep hS (fun k hk => ⟨.inr hk, by rw [hk]; exact HD.out.below.size⟩)).less (fun _ hk => .inl hk), (save_z hB2 hs).trans hS (fun k hk e => ?_)⟩
    omega
  clear hW2 hb2 hB2 x0 x1 x2 k0 k1 f0 hz1 hB1 HC HX HZ HD
  go_loopg [18] ll (fun g i wr => ∃ k : Nat, k ≤ ll ∧ g = ll - k ∧ i = .int .i64 k ∧ DLv w0 (fun k => Z k ∨ k = w.heap.size) wr p q b m c ws (linesR ws T ((xs.take k).map (·.data.toList))).1 (linesR ws T ((xs.take k).map (·.data.toList))).2 ∧ Save (fun k => ¬ (Z k ∨ k = w.heap.size)) W2 wr)
  case atStart => exact ⟨0, by omega, rfl, rfl, HD2.out, Save.refl _ _⟩
  case round =>
    obtain ⟨k, hk, rfl, rfl, hD, hV⟩ := hrel
    have HD3 := hid hD
    have HV3 := hid hV
    have hp3 := hD.cells.2.1
    clear hD hV
    by_cases hlt : k < ll
    · obtain ⟨x, hkx⟩ : ∃ x, xs[k]? = some x := ⟨_, List.getElem?_eq_getElem (by omega)⟩
      obtain ⟨bl, ol, rfl, hcl⟩ := HCell.out k x hkx
      have y0 := hcl wr _ _ HD3.out HV3.out
      have HE : Hid (linesR ws T ((xs.take (k + 1)).map (·.data.toList)) = ((linesR ws T ((xs.take k).map (·.data.toList))).1 ++ (lineR ws (linesR ws T ((xs.take k).map (·.data.toList))).2 x.data.toList).1, (lineR ws (linesR ws T ((xs.take k).map (·.data.toList))).2 x.data.toList).2)) := by
        have e1 : xs.take (k + 1) = xs.take k ++ [x] := by rw [List.take_add_one, hkx]; rfl
        rw [e1, List.map_append]
        exact lines_snoc ws _ _ T
      have HRm : Room ((linesR ws T ((xs.take k).map (·.data.toList))).1.length + 5000) := by
        have e1 := lines_short ((xs.take k).map (·.data.toList)) HD2.out.full
        have e2 := H150.out
        rw [List.length_map, List.length_take] at e1
        have e3 : min k xs.length ≤ 150 := by omega
        unfold Room
        omega
      have HC := hear_dlv x (HS.out x (List.mem_of_getElem? hkx)) HT.out HD3.out HRm
      have j0 : (0 : Int) ≤ (k : Int) := by omega
      have j1 : (k : Int) < (ll : Int) := by omega
      have j2 : (ll : Int) < 2 ^ 62 := by omega
      clear hcl hkx HRm
      go_wp2_with (go_at_call 15; refine Calls.mono HC ?_; rintro e w6 ⟨rfl, q1, q2⟩; have HK6 := hid (And.intro q1 (HV3.out.trans q2 (fun _ _ hj => hj))); clear q1 q2)
      go_roundg (ll - (k + 1))
      case measure => omega
      case rel => exact ⟨k + 1, by omega, rfl, by simp, by rw [HE.out]; exact HK6.out.1, HK6.out.2⟩
    · obtain rfl : k = ll := by omega
      have j1 : ¬ (k : Int) < (k : Int) := by omega
      have HSt := string_dlv HD3.out
      rw [List.take_of_length_le (by omega)] at HSt
      go_wp2_with (first | (go_at_call 16; refine Calls.mono HSt ?_; rintro e w4 ⟨rfl, hp4, hrs⟩; have HRs := hid hrs; clear hrs) | (go_at_call 17; refine Calls.mono HRs.out ?_; rintro e w5 ⟨rfl, q1, q2⟩; have HK5 := hid (And.intro q1 (HV3.out.trans q2 (fun _ _ hj => hj))); obtain ⟨r0, r1, rf, hz5⟩ := HRes.out _ HK5.out.2; clear q1 q2))
      obtain ⟨z0, z1⟩ := set2 (u := .int .i64 0) (v := .int .i64 0) r0 r1
      (try simp only [Exit.inBlock, Exit.then])
      exact bodyPost_ret (v := .tuple #[.string (bs (linesR ws T (xs.map (·.data.toList))).1), .agg #[.int .i64 0, .int .i64 0]]) (by simp [results, Tryz.results9, go_sem, z0, z1]) rfl ⟨rfl, HFin.out _ _ HK5.out.1 HK5.out.2⟩

end Go.Proofs.YtbgnajcmhmpjlacGreatDoor

namespace Go.Proofs.YtbgnajcmhmpjlacGreatDoor
open Go.RowKit

theorem Pr.new2 {A B : (Nat → Prop) → World → Prop} (hA : Stands A) (hB : Stands B) {w0 w w1 : World} {O : Nat → Prop} (h : Lv B w0 (fun k => k ∈ ([] : List Nat)) w) (hb : Below w.heap.size w w1) (h1 : A O w1) (hO : ∀ k, O k → w.heap.size ≤ k) : Lv (Pr A B) w0 (fun k => k ∈ ([] : List Nat)) w1 := by
  obtain ⟨Q, b1, b2⟩ := h.inn
  have x : ∀ k, O k → Q k → False := fun k o q => by have := hB.own b1 k q; have := hO k o; omega
  refine ⟨⟨fun k => O k ∨ Q k, ⟨fun k hk => hk.elim (hA.own h1 k) (fun q => Nat.lt_of_lt_of_le (hB.own b1 k q) hb.size), fun i => if i = 0 then O else Q, fun i hi => ?_, fun i hi k hk => ?_, fun i j hi hj hij k hk hk' => ?_⟩, fun k hk => hk.elim (fun q => ⟨Nat.le_trans h.below.size (hO k q), by simp⟩) (b2 k)⟩, after h.below hb h.below.size, fun k hk => by simp at hk⟩
  · match i, hi with
    | 0, _ => exact h1
    | 1, _ => exact hB.next b1 hb
  · match i, hi, hk with
    | 0, _, hk => exact .inl hk
    | 1, _, hk => exact .inr hk
  · match i, hi, j, hj, hij, hk, hk' with
    | 0, _, 1, _, _, hk, hk' => exact x k hk hk'
    | 1, _, 0, _, _, hk, hk' => exact x k hk' hk
    | 0, _, 0, _, hij, _, _ => exact hij rfl
    | 1, _, 1, _, hij, _, _ => exact hij rfl
def w50 : Nat → Int := fun _ => 50
theorem ok50 : OkT w50 := fun s hs => by
  match s, hs with
  | 0, _ => decide
  | 1, _ => decide
  | 2, _ => decide
theorem dfull_new : DFull w50 (T00 w50) := ⟨full_new ok50, fun m hm => by simp [T00] at hm⟩
structure NSt (B : Nat) (w : World) (k : Nat) (wr : World) : Prop where
  row : ∀ j : Nat, j < 6 → wr.cell? ⟨B, j, none⟩ = some (.int .i64 (if j < k then 50 else 0))
  f0 : ∀ k, wr.frozen? ⟨B, k, none⟩ = false
  below : Below B w wr
  lt : B < wr.heap.size
theorem NSt.set {B : Nat} {w wr : World} {k : Nat} (h : NSt B w k wr) : NSt B w (k + 1) (wr.setCell ⟨B, k, none⟩ (.int .i64 50)) := by
  refine ⟨?_, by simpa [go_sem] using h.f0, h.below.setCell (by simp) _, by simpa using h.lt⟩
  intro j hj
  by_cases e : j = k
  · subst e
    rw [World.cell?_setCell_same _ _ _ (h.row j hj), if_pos (by omega)]
  · rw [World.cell?_setCell_other _ _ _ _ (by intro e'; simp only [Addr.mk.injEq] at e'; omega), h.row j hj]
    by_cases q : j < k
    · rw [if_pos q, if_pos (by omega)]
    · rw [if_neg q, if_neg (by omega)]
set_option maxRecDepth 100000 in
set_option maxHeartbeats 2000000 in
theorem new_dlv (w : World) : Calls Tryz.prog 7 #[] w fun e w' => ∃ p q b m c, e = .returned (.pointer (some ⟨p, 0, none⟩)) ∧ DLv w (fun k => k ∈ ([] : List Nat)) w' p q b m c w50 [] (T00 w50) := by
  go_enter Tryz.func7, Tryz.ntmps7
  go_wp2_with fail
  go_loopg [3] 6 (fun g i wr => ∃ k : Nat, k ≤ 6 ∧ g = 6 - k ∧ i = .int .i64 k ∧ NSt w.heap.size w k wr)
  case atStart =>
    refine ⟨0, by omega, rfl, rfl, fun j hj => ?_, by simp [go_sem], by go_grown, by simp⟩
    have : j = 0 ∨ j = 1 ∨ j = 2 ∨ j = 3 ∨ j = 4 ∨ j = 5 := by omega
    rcases this with rfl | rfl | rfl | rfl | rfl | rfl <;> simp [go_sem]
  case round =>
    obtain ⟨k, hk, rfl, rfl, hN⟩ := hrel
    have HN := hid hN
    by_cases hlt : k < 6
    · have r0 := hN.row k hlt
      have f0 := hN.f0 k
      have j0 : (0 : Int) ≤ (k : Int) := by omega
      have j1 : (k : Int) < 6 := by omega
      clear hN
      go_wp2_with fail
      go_roundg (6 - (k + 1))
      case measure => omega
      case rel => exact ⟨k + 1, by omega, rfl, by simp, HN.out.set⟩
    · obtain rfl : k = 6 := by omega
      have r0 : wr.cell? ⟨w.heap.size, 0, none⟩ = some (.int .i64 50) := hN.row 0 (by omega)
      have r1 : wr.cell? ⟨w.heap.size, 1, none⟩ = some (.int .i64 50) := hN.row 1 (by omega)
      have r2 : wr.cell? ⟨w.heap.size, 2, none⟩ = some (.int .i64 50) := hN.row 2 (by omega)
      have r3 : wr.cell? ⟨w.heap.size, 3, none⟩ = some (.int .i64 50) := hN.row 3 (by omega)
      have r4 : wr.cell? ⟨w.heap.size, 4, none⟩ = some (.int .i64 50) := hN.row 4 (by omega)
      have r5 : wr.cell? ⟨w.heap.size, 5, none⟩ = some (.int .i64 50) := hN.row 5 (by omega)
      have HC : Calls Tryz.prog 12 #[.agg #[.int .i64 50, .int .i64 50, .int .i64 50, .int .i64 50, .int .i64 50, .int .i64 50]] wr fun e w' => ∃ p b m c, e = .returned (.pointer (some ⟨p, 0, none⟩)) ∧ TLv wr (fun k => k ∈ ([] : List Nat)) w' p b m c w50 (T00 w50) := new_tlv ok50 wr
      clear hN
      go_wp2_with (go_at_call 12; refine Calls.mono HC ?_; rintro e w1 ⟨q, b, m, c, rfl, hT⟩; have HT := hid hT; clear hT)
      go_ret
      have hb2 : Below w1.heap.size w1 (w1.alloc (dkO q (.pointer none) (.slice none 0 0))) := by go_grown
      have hA : BldIn w1.heap.size q [] (fun k => k = w1.heap.size) (w1.alloc (dkO q (.pointer none) (.slice none 0 0))) := ⟨fun k hk => by subst hk; simp, rfl, _, _, heap_alloc_new w1 _, .inl rfl, World.ownsRow_nil _ _ _ _, fun k hk => by simp [Value.ownBlock] at hk, fun _ => rfl⟩
      refine ⟨w1.heap.size, q, b, m, c, rfl, ⟨?_, dfull_new, ok50⟩⟩
      exact Pr.new2 (bld_stands _ _ _) (tn_stands ..) (Lv.since HN.out.below HT.out.lv) hb2 hA (fun k hk => by subst hk; exact Nat.le_refl _)

end Go.Proofs.YtbgnajcmhmpjlacGreatDoor

namespace Go.Proofs.YtbgnajcmhmpjlacGreatDoor
open Go.RowKit

def begL : List (List UInt8) := [[98, 101, 103, 105, 110, 32, 48, 32, 45, 50, 48, 32, 51, 32, 50, 48], [116, 105, 99, 107], [109, 97, 105, 108], [100, 101, 108, 105, 118, 101, 114, 32, 48], [104, 111, 108, 100, 115, 32, 48], [99, 97, 108, 109], [115, 116, 97, 116, 101, 32, 48], [100, 111, 110, 101], [119, 111, 114, 108, 100], [115, 101, 114, 105, 97, 108], [120]]
def begS : List UInt8 := [111, 107, 10, 111, 107, 10, 97, 115, 107, 32, 48, 32, 48, 32, 48, 32, 45, 50, 48, 10, 97, 115, 107, 32, 48, 32, 49, 32, 51, 32, 50, 48, 10, 101, 110, 100, 10, 111, 107, 10, 99, 111, 117, 110, 116, 32, 53, 48, 32, 50, 48, 32, 48, 10, 99, 111, 117, 110, 116, 32, 53, 48, 32, 48, 32, 48, 10, 104, 111, 108, 100, 32, 48, 32, 48, 32, 45, 50, 48, 10, 101, 110, 100, 10, 99, 97, 108, 109, 32, 49, 10, 115, 116, 97, 116, 101, 32, 49, 10, 100, 111, 110, 101, 32, 48, 10, 119, 111, 114, 108, 100, 32, 51, 48, 32, 53, 48, 32, 53, 48, 32, 55, 48, 32, 53, 48, 32, 53, 48, 10, 119, 111, 114, 108, 100, 32, 51, 48, 32, 53, 48, 32, 53, 48, 32, 55, 48, 32, 53, 48, 32, 53, 48, 10, 119, 104, 97, 116, 10]
theorem beg_told : (linesR w50 (T00 w50) begL).1 = begS := by kernel_rfl
theorem beg_chk : chkL (begL.map bs) = (0, 0) := by kernel_rfl

end Go.Proofs.YtbgnajcmhmpjlacGreatDoor

namespace Go.Proofs.YtbgnajcmhmpjlacGreatDoor
open Go.RowKit

def deskR (ws : Nat → Int) (T : Twn) (xs : List ByteArray) : List UInt8 × (Int × Int) × Twn := if (chkL xs).1 = 0 then ((linesR ws T (xs.map (·.data.toList))).1, (0, 0), (linesR ws T (xs.map (·.data.toList))).2) else ([], chkL xs, T)
theorem deskR_full {ws : Nat → Int} {T : Twn} (h : DFull ws T) (xs : List ByteArray) : DFull ws (deskR ws T xs).2.2 := by
  unfold deskR
  split
  · exact DFull.lines _ h
  · exact h
theorem do_any {w0 w : World} {Z : Nat → Prop} {p q b m : Nat} {c : Nat → Nat} {ws : Nat → Int} {T : Twn} (xs : List ByteArray) {la : Option Addr} {lc : Nat} (ht : Tied w0) (h : DLv w0 Z w p q b m c ws [] T) (hx : StrsAt w la xs) (hz : xs ≠ [] → ∀ a, la = some a → Z a.block ∨ a.block < w0.heap.size) (hs : ∀ x ∈ xs, x.size ≤ 4294967296) (hl : xs.length < 1000) :
    Calls Tryz.prog 9 #[.pointer (some ⟨p, 0, none⟩), .slice la xs.length lc] w fun e w' => e = .returned (.tuple #[.string (bs (deskR ws T xs).1), .agg #[.int .i64 (deskR ws T xs).2.1.1, .int .i64 (deskR ws T xs).2.1.2]]) ∧ DLv w0 Z w' p q b m c ws [] (deskR ws T xs).2.2 ∧ Save (fun k => ¬ Z k) w w' := by
  unfold deskR
  by_cases hc : (chkL xs).1 = 0
  · rw [if_pos hc]
    exact do_good xs ht h hx hz hs hl hc
  · rw [if_neg hc]
    exact do_bad xs h hx hl hc
theorem strs_row {w : World} {g : Nat} {xs : List ByteArray} (h : g < w.heap.size) (hc : ∀ k x, xs[k]? = some x → w.cell? ⟨g, k, none⟩ = some (.string x)) : StrsAt w (some ⟨g, 0, none⟩) xs := fun k x hk => ⟨g, 0, rfl, h, by rw [Nat.zero_add]; exact hc k x hk⟩
def begV : Array Value := #[.string ⟨#[98, 101, 103, 105, 110, 32, 48, 32, 45, 50, 48, 32, 51, 32, 50, 48]⟩, .string ⟨#[116, 105, 99, 107]⟩, .string ⟨#[109, 97, 105, 108]⟩, .string ⟨#[100, 101, 108, 105, 118, 101, 114, 32, 48]⟩, .string ⟨#[104, 111, 108, 100, 115, 32, 48]⟩, .string ⟨#[99, 97, 108, 109]⟩, .string ⟨#[115, 116, 97, 116, 101, 32, 48]⟩, .string ⟨#[100, 111, 110, 101]⟩, .string ⟨#[119, 111, 114, 108, 100]⟩, .string ⟨#[115, 101, 114, 105, 97, 108]⟩, .string ⟨#[120]⟩]
theorem begV_at (k : Nat) (x : ByteArray) (hk : (begL.map bs)[k]? = some x) : begV[k]? = some (.string x) := by
  have e : begV = ((begL.map bs).map Value.string).toArray := rfl
  rw [e, List.getElem?_toArray, List.getElem?_map, hk]
  rfl
set_option maxRecDepth 100000 in
set_option maxHeartbeats 2000000 in
theorem deskBegun_any (w : World) (ht : Tied w) : Calls Tryz.prog 5 #[] w fun e w' => e = .returned (.bool true) ∧ Below w.heap.size w w' := by
  have HT := hid ht
  have HN := new_dlv w
  have HDo : Hid (∀ (w1 : World) (p q b m : Nat) (c : Nat → Nat), DLv w (fun k => k ∈ ([] : List Nat)) w1 p q b m c w50 [] (T00 w50) → Calls Tryz.prog 9 #[.pointer (some ⟨p, 0, none⟩), .slice (some ⟨w1.heap.size, 0, none⟩) 11 11] (w1.alloc (.cells begV 9)) fun e w' => e = .returned (.tuple #[.string (bs begS), .agg #[.int .i64 0, .int .i64 0]]) ∧ Below w.heap.size w w') := fun w1 p q b m c h => by
    have hb : Below w1.heap.size w1 (w1.alloc (.cells begV 9)) := by go_grown
    have h2 : DLv w (fun k => k ∈ [w1.heap.size]) (w1.alloc (.cells begV 9)) p q b m c w50 [] (T00 w50) := h.more hb (fun k hk => .inr (by rw [List.mem_singleton.1 hk]; simp))
    have h3 := do_good (begL.map bs) (la := some ⟨w1.heap.size, 0, none⟩) (lc := 11) HT.out h2 (strs_row (by simp) (fun k x hk => by
      have e0 := heap_alloc_new w1 (.cells begV 9)
      have e2 := begV_at k x hk
      simp only [World.cell?, e0]
      simpa using e2)) (fun _ a ha => by cases ha; exact .inl (by simp)) (by decide) (by decide) (by rw [beg_chk])
    have e1 : (begL.map bs).map (·.data.toList) = begL := by rw [List.map_map]; simp [Function.comp_def, bs_data]
    rw [e1, beg_told] at h3
    refine h3.mono ?_
    rintro e w' ⟨rfl, k1, k2⟩
    exact ⟨rfl, k1.below⟩
  clear ht HT
  go_enter Tryz.func5, Tryz.ntmps5
  go_wp2_with (first | (go_at_call 7; refine Calls.mono HN ?_; rintro e w1 ⟨p, q, b, m, c, rfl, hD⟩; have HC := HDo.out w1 p q b m c hD; have hp := hD.cells.2.1; clear hD) | (go_at_call 9; refine Calls.mono HC ?_; rintro e w2 ⟨rfl, hb2⟩; have HB2 := hid hb2; clear hb2))
  go_ret
  refine ⟨?_, HB2.out.alloc HB2.out.size _⟩
  have e1 : (bs begS).toList = begS := by rw [ByteArray.toList_eq, bs_data]
  rw [e1]
  rfl

def sumL : List ByteArray → Nat
  | [] => 0
  | x :: r => x.size + sumL r
theorem sumL_append (a b : List ByteArray) : sumL (a ++ b) = sumL a + sumL b := by
  induction a with
  | nil => simp [sumL]
  | cons x r ih => simp only [List.cons_append, sumL, ih]; omega
theorem sumL_mem {x : ByteArray} {l : List ByteArray} (h : x ∈ l) : x.size ≤ sumL l := by
  induction l with
  | nil => simp at h
  | cons y r ih =>
    simp only [sumL]
    rcases List.mem_cons.1 h with e | e
    · rw [e]; omega
    · have := ih e; omega
def Few (n : Nat) : Prop := n ≤ 9000
def SlowIs (n : Nat) (e : Ending) : Prop := ∃ o, e = .returned (.bool o) ∧ (o = false → Few n)
set_option maxRecDepth 100000 in
set_option maxHeartbeats 2000000 in
theorem slow_any (xs : List ByteArray) (la : Option Addr) (lc : Nat) (w : World) (hx : StrsAt w la xs) (hl : xs.length < 1000) (hs : ∀ x ∈ xs, x.size ≤ 140737488355328) : Calls Tryz.prog 6 #[.slice la xs.length lc] w fun e w' => SlowIs (sumL xs) e ∧ w' = w := by
  have HX := hid hx
  have HS := hid hs
  obtain ⟨ll, hll⟩ : ∃ ll, xs.length = ll := ⟨_, rfl⟩
  rw [hll] at hl ⊢
  clear hx hs
  go_enter Tryz.func6, Tryz.ntmps6
  go_wp2_with fail
  go_loopg [3, 4] ll (fun g n i wr => ∃ k t : Nat, k ≤ ll ∧ g = ll - k ∧ i = .int .i64 k ∧ n = .int .i64 t ∧ Hid (t = sumL (xs.take k) ∧ Few t) ∧ wr = w)
  case atStart => exact ⟨0, 0, by omega, rfl, rfl, rfl, hid ⟨rfl, by unfold Few; omega⟩, rfl⟩
  case round =>
    obtain ⟨k, t, hk, rfl, rfl, rfl, HTt, rfl⟩ := hrel
    by_cases hlt : k < ll
    · obtain ⟨x, hkx⟩ : ∃ x, xs[k]? = some x := ⟨_, List.getElem?_eq_getElem (by omega)⟩
      obtain ⟨bl, ol, rfl, hbl, y0⟩ := HX.out k x hkx
      have hmx := HS.out x (List.mem_of_getElem? hkx)
      have j0 : (0 : Int) ≤ (k : Int) := by omega
      have j1 : (k : Int) < (ll : Int) := by omega
      have j2 : (ll : Int) < 2 ^ 62 := by omega
      have hw1 : IntKind.i64.wrap ((t : Int) + (x.size : Int)) = ((t + x.size : Nat) : Int) := by
        have e1 := HTt.out.2
        unfold Few at e1
        rw [show ((t : Int) + (x.size : Int)) = ((t + x.size : Nat) : Int) by omega]
        rw [IntKind.wrap_i64]
        omega
      have HN : Hid (t + x.size = sumL (xs.take (k + 1))) := by
        have e1 : xs.take (k + 1) = xs.take k ++ [x] := by rw [List.take_add_one, hkx]; rfl
        rw [e1, sumL_append, ← HTt.out.1]
        exact hid (by simp [sumL])
      clear hmx hkx
      generalize t + x.size = t' at *
      by_cases hf : 9000 < t'
      · have j3 : (9000 : Int) < (t' : Int) := by omega
        clear hf
        go_wp2_with fail
        go_ret
        exact ⟨⟨true, rfl, fun e => by cases e⟩, rfl⟩
      · have j3 : ¬ (9000 : Int) < (t' : Int) := by omega
        have HF : Hid (Few t') := by unfold Few; exact hid (by omega)
        clear hf
        go_wp2_with fail
        go_roundg (ll - (k + 1))
        case measure => omega
        case rel => exact ⟨k + 1, t', by omega, rfl, by simp, rfl, hid ⟨HN.out, HF.out⟩, rfl⟩
    · obtain rfl : k = ll := by omega
      have j1 : ¬ (k : Int) < (k : Int) := by omega
      go_wp2_with fail
      go_ret
      refine ⟨⟨false, rfl, fun _ => ?_⟩, rfl⟩
      have e1 := HTt.out
      rw [List.take_of_length_le (by omega)] at e1
      rw [← e1.1]
      exact e1.2

end Go.Proofs.YtbgnajcmhmpjlacGreatDoor

namespace Go.Proofs.YtbgnajcmhmpjlacGreatDoor
open Go.RowKit

structure Dc where
  p : Nat
  q : Nat
  b : Nat
  m : Nat
  c : Nat → Nat
def DkT (K : Dc) (T : Twn) : (Nat → Prop) → World → Prop := DkIn K.p K.q K.b K.m K.c w50 [] T
theorem dkt_stands (K : Dc) (T : Twn) : Stands (DkT K T) := dk_stands ..
theorem do_to {O : Nat → Prop} {w0 w : World} {K : Dc} {T : Twn} (xs : List ByteArray) {la : Option Addr} {lc : Nat} (ht : Tied w0) (h : DkT K T O w) (hO : ∀ k, O k → w0.heap.size ≤ k) (hb : Below w0.heap.size w0 w) (hF : DFull w50 T) (hx : StrsAt w la xs) (hz : xs ≠ [] → ∀ a, la = some a → a.block < w0.heap.size) (hs : ∀ x ∈ xs, x.size ≤ 4294967296) (hl : xs.length < 1000) :
    Calls Tryz.prog 9 #[.pointer (some ⟨K.p, 0, none⟩), .slice la xs.length lc] w fun e w' => e = .returned (.tuple #[.string (bs (deskR w50 T xs).1), .agg #[.int .i64 (deskR w50 T xs).2.1.1, .int .i64 (deskR w50 T xs).2.1.2]]) ∧ To (DkT K (deskR w50 T xs).2.2) O w w' := by
  have hD : DLv w0 (fun k => k < w.heap.size ∧ ¬ O k) w K.p K.q K.b K.m K.c w50 [] T := ⟨⟨⟨O, h, fun k hk => ⟨hO k hk, fun q => q.2 hk⟩⟩, hb, fun k hk => hk.1⟩, hF, ok50⟩
  refine (do_any xs ht hD hx (fun hn a ha => .inr (hz hn a ha)) hs hl).mono ?_
  rintro e w' ⟨rfl, k1, k2⟩
  obtain ⟨O', a1, a2⟩ := k1.lv.inn
  refine ⟨rfl, O', a1, k2.mono (fun j hj hn => ?_), fun k hk => ?_⟩
  · exact Classical.byContradiction (fun q => hn ⟨hj, q⟩)
  · have := (a2 k hk).2
    by_cases q : k < w.heap.size
    · exact .inl (Classical.byContradiction (fun o => this ⟨q, o⟩))
    · exact .inr (by omega)
structure D2 (w0 : World) (Z : Nat → Prop) (w : World) (K K' : Dc) (T T' : Twn) : Prop where
  lv : Lv (Pr (DkT K T) (DkT K' T')) w0 Z w
  f1 : DFull w50 T
  f2 : DFull w50 T'
theorem D2.next {w0 w w1 : World} {Z : Nat → Prop} {K K' : Dc} {T T' : Twn} (h : D2 w0 Z w K K' T T') (hb : Below w.heap.size w w1) : D2 w0 Z w1 K K' T T' := ⟨h.lv.next (pr_stands (dkt_stands ..) (dkt_stands ..)) hb, h.f1, h.f2⟩
theorem D2.cons {w0 w w1 : World} {l : List Nat} {x : Nat} {K K' : Dc} {T T' : Twn} (h : D2 w0 (fun k => k ∈ l) w K K' T T') (hb : Below w.heap.size w w1) (h1 : w.heap.size ≤ x) (h2 : x < w1.heap.size) : D2 w0 (fun k => k ∈ x :: l) w1 K K' T T' := ⟨h.lv.cons (pr_stands (dkt_stands ..) (dkt_stands ..)) hb h1 h2, h.f1, h.f2⟩
theorem D2.doL {w0 w : World} {Z : Nat → Prop} {K K' : Dc} {T T' : Twn} (xs : List ByteArray) {la : Option Addr} {lc : Nat} (ht : Tied w0) (h : D2 w0 Z w K K' T T') (hx : StrsAt w la xs) (hz : xs ≠ [] → ∀ a, la = some a → a.block < w0.heap.size) (hs : ∀ x ∈ xs, x.size ≤ 4294967296) (hl : xs.length < 1000) :
    Calls Tryz.prog 9 #[.pointer (some ⟨K.p, 0, none⟩), .slice la xs.length lc] w fun e w' => e = .returned (.tuple #[.string (bs (deskR w50 T xs).1), .agg #[.int .i64 (deskR w50 T xs).2.1.1, .int .i64 (deskR w50 T xs).2.1.2]]) ∧ D2 w0 Z w' K K' (deskR w50 T xs).2.2 T' ∧ Save (fun k => ¬ Z k) w w' := by
  obtain ⟨O, h1, h2⟩ := h.lv.inn
  obtain ⟨OA, a1, a2, a3⟩ := Pr.left (dkt_stands K T) (dkt_stands K' T') h1
  refine (do_to xs ht a1 (fun k hk => (h2 k (a2 k hk)).1) h.lv.below h.f1 hx hz hs hl).mono ?_
  rintro e w' ⟨rfl, k⟩
  obtain ⟨r1, r2⟩ := h.lv.step h2 (a3 w' _ (dkt_stands ..) k)
  exact ⟨rfl, ⟨r1, deskR_full h.f1 xs, h.f2⟩, r2⟩
theorem D2.doR {w0 w : World} {Z : Nat → Prop} {K K' : Dc} {T T' : Twn} (xs : List ByteArray) {la : Option Addr} {lc : Nat} (ht : Tied w0) (h : D2 w0 Z w K K' T T') (hx : StrsAt w la xs) (hz : xs ≠ [] → ∀ a, la = some a → a.block < w0.heap.size) (hs : ∀ x ∈ xs, x.size ≤ 4294967296) (hl : xs.length < 1000) :
    Calls Tryz.prog 9 #[.pointer (some ⟨K'.p, 0, none⟩), .slice la xs.length lc] w fun e w' => e = .returned (.tuple #[.string (bs (deskR w50 T' xs).1), .agg #[.int .i64 (deskR w50 T' xs).2.1.1, .int .i64 (deskR w50 T' xs).2.1.2]]) ∧ D2 w0 Z w' K K' T (deskR w50 T' xs).2.2 ∧ Save (fun k => ¬ Z k) w w' := by
  obtain ⟨O, h1, h2⟩ := h.lv.inn
  obtain ⟨OA, a1, a2, a3⟩ := Pr.right (dkt_stands K T) (dkt_stands K' T') h1
  refine (do_to xs ht a1 (fun k hk => (h2 k (a2 k hk)).1) h.lv.below h.f2 hx hz hs hl).mono ?_
  rintro e w' ⟨rfl, k⟩
  obtain ⟨r1, r2⟩ := h.lv.step h2 (a3 w' _ (dkt_stands ..) k)
  exact ⟨rfl, ⟨r1, h.f1, deskR_full h.f2 xs⟩, r2⟩
theorem D2.lt {w0 w : World} {Z : Nat → Prop} {K K' : Dc} {T T' : Twn} (h : D2 w0 Z w K K' T T') : K.p < w.heap.size ∧ K'.p < w.heap.size := by
  obtain ⟨O, h1, _⟩ := h.lv.inn
  obtain ⟨OA, a1, _⟩ := Pr.left (dkt_stands K T) (dkt_stands K' T') h1
  obtain ⟨OB, b1, _⟩ := Pr.right (dkt_stands K T) (dkt_stands K' T') h1
  obtain ⟨P1, p1, _⟩ := Pr.left (bld_stands ..) (tn_stands ..) a1
  obtain ⟨P2, p2, _⟩ := Pr.left (bld_stands ..) (tn_stands ..) b1
  exact ⟨p1.own _ p1.mine, p2.own _ p2.mine⟩
theorem new_one (w : World) : Calls Tryz.prog 7 #[] w fun e w' => ∃ K : Dc, e = .returned (.pointer (some ⟨K.p, 0, none⟩)) ∧ Lv (DkT K (T00 w50)) w (fun k => k ∈ ([] : List Nat)) w' ∧ K.p < w'.heap.size ∧ Below w.heap.size w w' := by
  refine (new_dlv w).mono ?_
  rintro e w' ⟨p, q, b, m, c, rfl, h⟩
  exact ⟨⟨p, q, b, m, c⟩, rfl, h.lv, h.cells.2.1, h.below⟩
theorem d2_new {w0 w w1 w2 : World} {K K' : Dc} (hb : Below w0.heap.size w0 w) (h1 : Lv (DkT K (T00 w50)) w (fun k => k ∈ ([] : List Nat)) w1) (h2 : Lv (DkT K' (T00 w50)) w1 (fun k => k ∈ ([] : List Nat)) w2) : D2 w0 (fun k => k ∈ ([] : List Nat)) w2 K K' (T00 w50) (T00 w50) := ⟨Pr.new (dkt_stands ..) (dkt_stands ..) (Lv.since hb h1) h2.below h2, dfull_new, dfull_new⟩

theorem StrsAt.take {w : World} {la : Option Addr} {xs : List ByteArray} (h : StrsAt w la xs) (k : Nat) : StrsAt w la (xs.take k) := fun j x hj => h j x (by
  rw [List.getElem?_take] at hj
  split at hj
  · exact hj
  · cases hj)
theorem StrsAt.drop {w : World} {b o : Nat} {xs : List ByteArray} (h : StrsAt w (some ⟨b, o, none⟩) xs) (k : Nat) : StrsAt w (some ⟨b, o + k, none⟩) (xs.drop k) := fun j x hj => by
  rw [List.getElem?_drop] at hj
  obtain ⟨b', o', e, hb, hc⟩ := h (k + j) x hj
  cases e
  exact ⟨b, o + k, rfl, hb, by rw [show o + k + j = o + (k + j) by omega]; exact hc⟩
theorem StrsAt.lt {w : World} {la : Option Addr} {xs : List ByteArray} (h : StrsAt w la xs) : xs ≠ [] → ∀ a, la = some a → a.block < w.heap.size := fun hn a ha => by
  cases xs with
  | nil => exact absurd rfl hn
  | cons x r =>
    obtain ⟨b', o', e, hb, _⟩ := h 0 x rfl
    rw [e] at ha
    cases ha
    exact hb
theorem chk_nl {xs : List ByteArray} (h : xs.length ≤ 150) : (chkL xs).1 = 0 ↔ xs.any hasNl = false := by
  rw [← nlB_any]
  unfold chkL
  rw [if_neg (by omega)]
  split
  · rename_i q
    simp [q]
  · rename_i q
    simp [q]
theorem chk_join {xs : List ByteArray} (h : xs.length ≤ 150) (k : Nat) : (chkL xs).1 = 0 ↔ (chkL (xs.take k)).1 = 0 ∧ (chkL (xs.drop k)).1 = 0 := by
  rw [chk_nl h, chk_nl (by rw [List.length_take]; omega), chk_nl (by rw [List.length_drop]; omega)]
  conv => lhs; rw [← List.take_append_drop k xs]
  rw [List.any_append, Bool.or_eq_false_iff]
theorem desk_join {T : Twn} {xs : List ByteArray} (h : xs.length ≤ 150) (k : Nat) (hc : (chkL xs).1 = 0) : (deskR w50 T xs).1 = (deskR w50 T (xs.take k)).1 ++ (deskR w50 (deskR w50 T (xs.take k)).2.2 (xs.drop k)).1 := by
  obtain ⟨h1, h2⟩ := (chk_join h k).1 hc
  unfold deskR
  rw [if_pos hc, if_pos h1, if_pos h2]
  have e : xs.map (·.data.toList) = (xs.take k).map (·.data.toList) ++ (xs.drop k).map (·.data.toList) := by rw [← List.map_append, List.take_append_drop]
  simp only
  rw [e, lines_append]
theorem desk_len {T : Twn} (h : DFull w50 T) {xs : List ByteArray} (hl : xs.length ≤ 150) : (deskR w50 T xs).1.length ≤ 300000 := by
  unfold deskR
  split
  · have := lines_short (xs.map (·.data.toList)) h
    rw [List.length_map] at this
    simp only
    omega
  · simp
theorem desk_code (T : Twn) (xs : List ByteArray) : (deskR w50 T xs).2.1 = chkL xs ∨ ((deskR w50 T xs).2.1 = (0, 0) ∧ (chkL xs).1 = 0) := by
  unfold deskR
  split
  · rename_i q
    exact .inr ⟨rfl, q⟩
  · exact .inl rfl
theorem desk_zero (T : Twn) (xs : List ByteArray) : (deskR w50 T xs).2.1.1 = (chkL xs).1 := by
  rcases desk_code T xs with e | ⟨e, e1⟩
  · rw [e]
  · rw [e, e1]

set_option maxRecDepth 100000 in
set_option maxHeartbeats 1500000 in
theorem joins_walk (la : Option Addr) (ll lc : Nat) (n : Int) (xs : List ByteArray) (w : World) (ht : Tied w) (hx : StrsAt w la xs) (hll : xs.length = ll) (hcap : ll ≤ lc) (hnil : la = none → lc = 0) (hs : ∀ x ∈ xs, x.size ≤ 140737488355328) :
    Calls Tryz.prog 4 #[.slice la ll lc, .int .i64 n] w fun e w' => e = .returned (.bool true) ∧ Below w.heap.size w w' := by
  have HBg := deskBegun_any w ht
  by_cases h150 : 150 < ll
  · have j1 : (150 : Int) < (ll : Int) := by omega
    clear ht hx hs hnil hcap h150 hll
    go_enter Tryz.func4, Tryz.ntmps4
    go_wp2_with (go_at_call 5; refine Calls.mono HBg ?_; rintro e w1 ⟨rfl, hb1⟩)
    go_ret
    exact ⟨rfl, hb1⟩
  have j1 : ¬ (150 : Int) < (ll : Int) := by omega
  have HSl : Hid (∀ W : World, Below w.heap.size w W → Calls Tryz.prog 6 #[.slice la ll lc] W fun e w' => SlowIs (sumL xs) e ∧ w' = W) := fun W hW => by
    have := slow_any xs la lc W (hx.below hW) (by omega) hs
    rw [hll] at this
    exact this
  have HT := hid ht
  have HX := hid hx
  have H150 : Hid (xs.length ≤ 150) := hid (by omega)
  have HLl := hid hll
  have HCap := hid hcap
  have HNil := hid hnil
  clear ht hx hs h150 hll hcap hnil
  go_enter Tryz.func4, Tryz.ntmps4
  go_upto_region 3 with (go_at_call 5; refine Calls.mono HBg ?_; rintro e w1 ⟨rfl, hb1⟩; have HB1 := hid hb1; clear hb1)
  clear HBg
  go_upto_region 5 with (go_at_call 6; refine Calls.mono (HSl.out _ HB1.out) ?_; rintro e w2 ⟨⟨o, rfl, hfew⟩, h2⟩; rw [h2]; clear h2 w2; have HFew := hid hfew; clear hfew; cases o)
  rotate_left
  · go_ret
    exact ⟨rfl, HB1.out⟩
  have HNa := new_one w1
  have HSz : Hid (∀ x ∈ xs, x.size ≤ 9000) := fun x hx => by
    have e1 := HFew.out (by first | rfl | trivial)
    have e2 := sumL_mem hx
    unfold Few at e1
    omega
  clear HFew HSl
  go_upto_region 7 with (first | (go_at_call 7; refine Calls.mono HNa ?_; rintro e w3 ⟨K, rfl, h3, hp3, hb3⟩; have HNb := new_one w3; have HK3 := hid h3; clear h3 hb3 HNa) | (go_at_call 7; refine Calls.mono HNb ?_; rintro e w4 ⟨K', rfl, h4, hp4, hb4⟩; have HD4 := hid (d2_new HB1.out HK3.out h4); clear h4 hb4 HK3 HNb))
  obtain ⟨kk, hkk, hkl⟩ : ∃ kk : Nat, wrap64 ((IntKind.u64.wrap n).tmod ((ll : Int) + 1)) = (kk : Int) ∧ kk ≤ ll := by
    have e1 := H150.out
    have e2 := HLl.out
    refine ⟨rnd n (ll + 1), ?_, ?_⟩
    · have := rnd_wrap n (ll + 1) (by omega) (by omega)
      rw [← this]
      norm_cast
    · have := rnd_lt n (k := ll + 1) (by omega)
      omega
  rw [hkk]
  clear hkk j1
  have HTk : Hid (∀ W : World, Below w.heap.size w W → StrsAt W la (xs.take kk)) := fun W hW => (HX.out.below hW).take kk
  have hlt : (xs.take kk).length = kk := by rw [List.length_take, HLl.out]; omega
  have hld : (xs.drop kk).length = ll - kk := by rw [List.length_drop, HLl.out]
  have HSz1 : Hid (∀ x ∈ xs.take kk, x.size ≤ 4294967296) := fun x hx => Nat.le_trans (HSz.out x (List.mem_of_mem_take hx)) (by omega)
  have HSz2 : Hid (∀ x ∈ xs, x.size ≤ 4294967296) := fun x hx => Nat.le_trans (HSz.out x hx) (by omega)
  have HSz3 : Hid (∀ x ∈ xs.drop kk, x.size ≤ 4294967296) := fun x hx => Nat.le_trans (HSz.out x (List.mem_of_mem_drop hx)) (by omega)
  have HDo1 : Hid (∀ lc', Calls Tryz.prog 9 #[.pointer (some ⟨K.p, 0, none⟩), .slice la kk lc'] w4 fun e w' => e = .returned (.tuple #[.string (bs (deskR w50 (T00 w50) (xs.take kk)).1), .agg #[.int .i64 (deskR w50 (T00 w50) (xs.take kk)).2.1.1, .int .i64 (deskR w50 (T00 w50) (xs.take kk)).2.1.2]]) ∧ D2 w (fun k => k ∈ ([] : List Nat)) w' K K' (deskR w50 (T00 w50) (xs.take kk)).2.2 (T00 w50) ∧ Save (fun k => ¬ k ∈ ([] : List Nat)) w4 w') := fun lc' => by
    have := HD4.out.doL (xs.take kk) (lc := lc') HT.out (HTk.out _ HD4.out.lv.below) (fun hn a ha => HX.out.lt (fun e => hn (by rw [e]; simp)) a ha) HSz1.out (by have := H150.out; omega)
    rw [hlt] at this
    exact this
  have HDo2 : Hid (∀ (W : World) (l : List Nat) (T' : Twn), D2 w (fun k => k ∈ l) W K K' T' (T00 w50) → Calls Tryz.prog 9 #[.pointer (some ⟨K'.p, 0, none⟩), .slice la ll lc] W fun e w' => e = .returned (.tuple #[.string (bs (deskR w50 (T00 w50) xs).1), .agg #[.int .i64 (deskR w50 (T00 w50) xs).2.1.1, .int .i64 (deskR w50 (T00 w50) xs).2.1.2]]) ∧ D2 w (fun k => k ∈ l) w' K K' T' (deskR w50 (T00 w50) xs).2.2 ∧ Save (fun k => ¬ k ∈ l) W w') := fun W l T' hW => by
    have := hW.doR xs (lc := lc) HT.out (HX.out.below hW.lv.below) HX.out.lt HSz2.out (by have := H150.out; omega)
    rw [HLl.out] at this
    exact this
  have HDo3 : Hid (∀ (W : World) (l : List Nat) (la' : Option Addr) (lc' : Nat) (T' : Twn), (xs.drop kk = [] ∨ ∃ b o, la = some ⟨b, o, none⟩ ∧ la' = some ⟨b, o + kk, none⟩) → D2 w (fun k => k ∈ l) W K K' (deskR w50 (T00 w50) (xs.take kk)).2.2 T' → Calls Tryz.prog 9 #[.pointer (some ⟨K.p, 0, none⟩), .slice la' (ll - kk) lc'] W fun e w' => e = .returned (.tuple #[.string (bs (deskR w50 (deskR w50 (T00 w50) (xs.take kk)).2.2 (xs.drop kk)).1), .agg #[.int .i64 (deskR w50 (deskR w50 (T00 w50) (xs.take kk)).2.2 (xs.drop kk)).2.1.1, .int .i64 (deskR w50 (deskR w50 (T00 w50) (xs.take kk)).2.2 (xs.drop kk)).2.1.2]]) ∧ Save (fun k => ¬ k ∈ l) W w' ∧ Below w.heap.size w w') := fun W l la' lc' T' hla hW => by
    have := hW.doL (xs.drop kk) (la := la') (lc := lc') HT.out ?_ ?_ HSz3.out (by have := H150.out; rw [List.length_drop]; omega)
    · rw [hld] at this
      exact this.mono (fun e w' q => ⟨q.1, q.2.2, q.2.1.lv.below⟩)
    · rcases hla with e | ⟨b, o, e1, e2⟩
      · rw [e]; intro k x hk; simp at hk
      · subst e1; subst e2
        exact (HX.out.below hW.lv.below).drop kk
    · intro hn a ha
      rcases hla with e | ⟨b, o, e1, e2⟩
      · exact absurd e hn
      · subst e1; subst e2
        cases ha
        exact HX.out.lt (fun e => hn (by rw [e]; simp)) ⟨b, o, none⟩ rfl
  have HDo4 : Hid (∀ (W w5 : World) (K9 : Dc), Below w.heap.size w W → Lv (DkT K9 (T00 w50)) W (fun k => k ∈ ([] : List Nat)) w5 → Calls Tryz.prog 9 #[.pointer (some ⟨K9.p, 0, none⟩), .slice la ll lc] w5 fun e w' => e = .returned (.tuple #[.string (bs (deskR w50 (T00 w50) xs).1), .agg #[.int .i64 (deskR w50 (T00 w50) xs).2.1.1, .int .i64 (deskR w50 (T00 w50) xs).2.1.2]]) ∧ Below W.heap.size W w') := fun W w5 K9 hW h9 => by
    have hT : Tied W := HT.out.below hW
    obtain ⟨O, o1, o2⟩ := h9.inn
    have := do_to xs (lc := lc) hT o1 (fun k hk => (o2 k hk).1) h9.below dfull_new (HX.out.below (hW.trans (h9.below.mono hW.size))) (fun hn a ha => Nat.lt_of_lt_of_le (HX.out.lt hn a ha) hW.size) HSz2.out (by have := H150.out; omega)
    rw [HLl.out] at this
    refine this.mono ?_
    rintro e w' ⟨rfl, O', r1, r2, r3⟩
    exact ⟨rfl, h9.below.trans (r2.below (fun k hk q => by have := (o2 k q).1; omega) h9.below.size)⟩
  have Hz1 : Hid ((deskR w50 (T00 w50) (xs.take kk)).2.1.1 = (chkL (xs.take kk)).1) := desk_zero _ _
  have Hz2 : Hid ((deskR w50 (T00 w50) xs).2.1.1 = (chkL xs).1) := desk_zero _ _
  have Hz3 : Hid ((deskR w50 (deskR w50 (T00 w50) (xs.take kk)).2.2 (xs.drop kk)).2.1.1 = (chkL (xs.drop kk)).1) := desk_zero _ _
  have HJ := hid (chk_join H150.out kk)
  have HL : Hid ((chkL xs).1 = 0 → (deskR w50 (T00 w50) xs).1 = (deskR w50 (T00 w50) (xs.take kk)).1 ++ (deskR w50 (deskR w50 (T00 w50) (xs.take kk)).2.2 (xs.drop kk)).1) := fun e => desk_join H150.out kk e
  have HDr : Hid (kk = ll → xs.drop kk = []) := fun e => List.drop_eq_nil_of_le (by rw [HLl.out]; omega)
  clear HTk HSz1 HSz2 HSz3 HSz hlt hld
  have HCat : Hid ((chkL xs).1 = 0 → ((bs (deskR w50 (T00 w50) (xs.take kk)).1 ++ bs (deskR w50 (deskR w50 (T00 w50) (xs.take kk)).2.2 (xs.drop kk)).1).toList == (bs (deskR w50 (T00 w50) xs).1).toList) = true) := fun e => by
    rw [ByteArray.toList_eq, ByteArray.toList_eq, Joins.data_append, bs_data, bs_data, bs_data, HL.out e]
    simp
  have HCs : Hid (((deskR w50 (T00 w50) xs).2.1.1 ≠ 0 ∧ (deskR w50 (T00 w50) (xs.take kk)).2.1.1 ≠ 0) ∨ ((deskR w50 (T00 w50) xs).2.1.1 ≠ 0 ∧ (deskR w50 (T00 w50) (xs.take kk)).2.1.1 = 0 ∧ (deskR w50 (deskR w50 (T00 w50) (xs.take kk)).2.2 (xs.drop kk)).2.1.1 ≠ 0) ∨ ((deskR w50 (T00 w50) xs).2.1.1 = 0 ∧ (deskR w50 (T00 w50) (xs.take kk)).2.1.1 = 0 ∧ (deskR w50 (deskR w50 (T00 w50) (xs.take kk)).2.2 (xs.drop kk)).2.1.1 = 0 ∧ ((bs (deskR w50 (T00 w50) (xs.take kk)).1 ++ bs (deskR w50 (deskR w50 (T00 w50) (xs.take kk)).2.2 (xs.drop kk)).1).toList == (bs (deskR w50 (T00 w50) xs).1).toList) = true)) := by
    rw [Hz1.out, Hz2.out, Hz3.out]
    by_cases e2 : (chkL xs).1 = 0
    · obtain ⟨e1, e3⟩ := HJ.out.1 e2
      exact hid (.inr (.inr ⟨e2, e1, e3, HCat.out e2⟩))
    · by_cases e1 : (chkL (xs.take kk)).1 = 0
      · exact hid (.inr (.inl ⟨e2, e1, fun e3 => e2 (HJ.out.2 ⟨e1, e3⟩)⟩))
      · exact hid (.inl ⟨e2, e1⟩)
  have HSum : Hid ((bs (deskR w50 (T00 w50) (xs.take kk)).1).size + (bs (deskR w50 (deskR w50 (T00 w50) (xs.take kk)).2.2 (xs.drop kk)).1).size ≤ 600000) := by
    have e1 := desk_len dfull_new (xs := xs.take kk) (by rw [List.length_take]; have := H150.out; omega)
    have e2 := desk_len (deskR_full dfull_new (xs.take kk)) (xs := xs.drop kk) (by rw [List.length_drop]; have := H150.out; omega)
    rw [bs_size, bs_size]
    exact hid (by omega)
  have HLa : Hid (xs.drop kk ≠ [] → kk ≠ ll ∧ ∃ b o, la = some ⟨b, o, none⟩) := fun hn => by
    refine ⟨fun e => hn (HDr.out e), ?_⟩
    cases xs with
    | nil => simp at hn
    | cons x r =>
      obtain ⟨b', o', e, _⟩ := HX.out 0 x rfl
      exact ⟨b', o', e⟩
  clear Hz1 Hz2 Hz3 HJ HL HCat HX HT
  generalize (deskR w50 (deskR w50 (T00 w50) (xs.take kk)).2.2 (xs.drop kk)).2.1.1 = c3 at *
  generalize (deskR w50 (deskR w50 (T00 w50) (xs.take kk)).2.2 (xs.drop kk)).2.1.2 = d3 at *
  generalize bs (deskR w50 (deskR w50 (T00 w50) (xs.take kk)).2.2 (xs.drop kk)).1 = s3 at *
  generalize (deskR w50 (T00 w50) (xs.take kk)).2.1.1 = c1 at *
  generalize (deskR w50 (T00 w50) (xs.take kk)).2.1.2 = d1 at *
  generalize bs (deskR w50 (T00 w50) (xs.take kk)).1 = s1 at *
  generalize (deskR w50 (T00 w50) (xs.take kk)).2.2 = T1 at *
  generalize (deskR w50 (T00 w50) xs).2.1.1 = c2 at *
  generalize (deskR w50 (T00 w50) xs).2.1.2 = d2 at *
  generalize bs (deskR w50 (T00 w50) xs).1 = s2 at *
  generalize (deskR w50 (T00 w50) xs).2.2 = T2 at *
  have hkc : kk ≤ lc := Nat.le_trans hkl HCap.out
  obtain ⟨Dr, hDr⟩ : ∃ Dr : Prop, Dr = (xs.drop kk = []) := ⟨_, rfl⟩
  rw [← hDr] at HDo3 HDr
  by_cases hd : Dr
  · have hcs : ∀ {la' : Option Addr}, Dr ∨ ∃ b o, la = some ⟨b, o, none⟩ ∧ la' = some ⟨b, o + kk, none⟩ := .inl hd
    clear hDr HLa HDr
    rcases la with _ | ⟨b0, o0, sp⟩
    · obtain rfl : lc = 0 := HNil.out rfl
      obtain rfl : kk = 0 := by omega
      obtain rfl : ll = 0 := by have := HCap.out; omega
      clear HNil HCap hkc hkl hd
      rcases HCs.out with ⟨e2, e1⟩ | ⟨e2, e1, e3⟩ | ⟨e2, e1, e3, e4⟩
      · have e2' : (c2 != 0) = true := by simpa using e2
        have e1' : (c1 != 0) = true := by simpa using e1
        clear e1 e2 HCs
        go_upto_region 8 with (go_at_call 9; refine Calls.mono (HDo1.out _) ?_; rintro e w5 ⟨rfl, hD5, _⟩; have HD5 := hid (hD5.cons (x := w5.heap.size) (w1 := w5.alloc (.cells #[.int .i64 c1, .int .i64 d1] 31)) (by go_grown) (Nat.le_refl _) (by simp)); clear hD5)
        go_upto_region 9 with (go_at_call 9; refine Calls.mono (HDo2.out _ _ _ HD5.out) ?_; rintro e w6 ⟨rfl, hD6, hS6⟩; have k6 : w6.cell? ⟨w5.heap.size, 0, none⟩ = some (.int .i64 c1) := (hS6.cell (p := ⟨w5.heap.size, 0, none⟩) (by simp) (by simp)).trans (by simp [go_sem]); have hl6 : w5.heap.size < w6.heap.size := (by have := hS6.size; simp at this; omega); have HD6 := hid (hD6.cons (x := w6.heap.size) (w1 := w6.alloc (.cells #[.int .i64 c2, .int .i64 d2] 31)) (by go_grown) (Nat.le_refl _) (by simp)); clear hD6 hS6 HD5)
        go_upto_region 10 with (go_at_call 9; refine Calls.mono (HDo3.out _ _ _ _ _ hcs HD6.out) ?_; rintro e w7 ⟨rfl, hS7, hB7⟩; have k7 : w7.cell? ⟨w5.heap.size, 0, none⟩ = some (.int .i64 c1) := (hS7.cell (p := ⟨w5.heap.size, 0, none⟩) (by simp; omega) (by simp)).trans (by simp [go_sem, k6, hl6]); have l7 : w7.cell? ⟨w6.heap.size, 0, none⟩ = some (.int .i64 c2) := (hS7.cell (p := ⟨w6.heap.size, 0, none⟩) (by simp) (by simp)).trans (by simp [go_sem]); have hl7 : w6.heap.size < w7.heap.size := (by have := hS7.size; simp at this; omega); have hm7 : w5.heap.size < w7.heap.size := (by omega); have HB7 := hid hB7; have HN9 := new_one (w7.alloc (.cells #[.int .i64 c3, .int .i64 d3] 31)); clear hS7 hB7 HD6 k6)
        go_wp2_with fail
        go_ret
        exact ⟨rfl, HB7.out.alloc HB7.out.size _⟩
      · have e2' : (c2 != 0) = true := by simpa using e2
        have e3' : (c3 != 0) = true := by simpa using e3
        have HE1 := hid e1
        clear e1 e2 e3 HCs
        go_upto_region 8 with (go_at_call 9; refine Calls.mono (HDo1.out _) ?_; rintro e w5 ⟨rfl, hD5, _⟩; have HD5 := hid (hD5.cons (x := w5.heap.size) (w1 := w5.alloc (.cells #[.int .i64 c1, .int .i64 d1] 31)) (by go_grown) (Nat.le_refl _) (by simp)); clear hD5)
        go_upto_region 9 with (go_at_call 9; refine Calls.mono (HDo2.out _ _ _ HD5.out) ?_; rintro e w6 ⟨rfl, hD6, hS6⟩; have k6 : w6.cell? ⟨w5.heap.size, 0, none⟩ = some (.int .i64 c1) := (hS6.cell (p := ⟨w5.heap.size, 0, none⟩) (by simp) (by simp)).trans (by simp [go_sem]); have hl6 : w5.heap.size < w6.heap.size := (by have := hS6.size; simp at this; omega); have HD6 := hid (hD6.cons (x := w6.heap.size) (w1 := w6.alloc (.cells #[.int .i64 c2, .int .i64 d2] 31)) (by go_grown) (Nat.le_refl _) (by simp)); clear hD6 hS6 HD5)
        go_upto_region 10 with (go_at_call 9; refine Calls.mono (HDo3.out _ _ _ _ _ hcs HD6.out) ?_; rintro e w7 ⟨rfl, hS7, hB7⟩; have k7 : w7.cell? ⟨w5.heap.size, 0, none⟩ = some (.int .i64 c1) := (hS7.cell (p := ⟨w5.heap.size, 0, none⟩) (by simp; omega) (by simp)).trans (by simp [go_sem, k6, hl6]); have l7 : w7.cell? ⟨w6.heap.size, 0, none⟩ = some (.int .i64 c2) := (hS7.cell (p := ⟨w6.heap.size, 0, none⟩) (by simp) (by simp)).trans (by simp [go_sem]); have hl7 : w6.heap.size < w7.heap.size := (by have := hS7.size; simp at this; omega); have hm7 : w5.heap.size < w7.heap.size := (by omega); have HB7 := hid hB7; have HN9 := new_one (w7.alloc (.cells #[.int .i64 c3, .int .i64 d3] 31)); clear hS7 hB7 HD6 k6)
        have e1 := HE1.out
        subst e1
        go_wp2_with fail
        go_ret
        exact ⟨rfl, HB7.out.alloc HB7.out.size _⟩
      · have HE1 := hid e1
        have HE2 := hid e2
        have HE3 := hid e3
        have HE4 := hid e4
        clear e1 e2 e3 e4 HCs
        go_upto_region 8 with (go_at_call 9; refine Calls.mono (HDo1.out _) ?_; rintro e w5 ⟨rfl, hD5, _⟩; have HD5 := hid (hD5.cons (x := w5.heap.size) (w1 := w5.alloc (.cells #[.int .i64 c1, .int .i64 d1] 31)) (by go_grown) (Nat.le_refl _) (by simp)); clear hD5)
        go_upto_region 9 with (go_at_call 9; refine Calls.mono (HDo2.out _ _ _ HD5.out) ?_; rintro e w6 ⟨rfl, hD6, hS6⟩; have k6 : w6.cell? ⟨w5.heap.size, 0, none⟩ = some (.int .i64 c1) := (hS6.cell (p := ⟨w5.heap.size, 0, none⟩) (by simp) (by simp)).trans (by simp [go_sem]); have hl6 : w5.heap.size < w6.heap.size := (by have := hS6.size; simp at this; omega); have HD6 := hid (hD6.cons (x := w6.heap.size) (w1 := w6.alloc (.cells #[.int .i64 c2, .int .i64 d2] 31)) (by go_grown) (Nat.le_refl _) (by simp)); clear hD6 hS6 HD5)
        go_upto_region 10 with (go_at_call 9; refine Calls.mono (HDo3.out _ _ _ _ _ hcs HD6.out) ?_; rintro e w7 ⟨rfl, hS7, hB7⟩; have k7 : w7.cell? ⟨w5.heap.size, 0, none⟩ = some (.int .i64 c1) := (hS7.cell (p := ⟨w5.heap.size, 0, none⟩) (by simp; omega) (by simp)).trans (by simp [go_sem, k6, hl6]); have l7 : w7.cell? ⟨w6.heap.size, 0, none⟩ = some (.int .i64 c2) := (hS7.cell (p := ⟨w6.heap.size, 0, none⟩) (by simp) (by simp)).trans (by simp [go_sem]); have hl7 : w6.heap.size < w7.heap.size := (by have := hS7.size; simp at this; omega); have hm7 : w5.heap.size < w7.heap.size := (by omega); have HB7 := hid hB7; have HN9 := new_one (w7.alloc (.cells #[.int .i64 c3, .int .i64 d3] 31)); clear hS7 hB7 HD6 k6)
        have e2 := HE2.out
        subst e2
        go_upto_region 13 with (first | (go_at_call 7; refine Calls.mono HN9 ?_; rintro e w8 ⟨K9, rfl, h9, hp9, hb9⟩; have HC9 := HDo4.out _ w8 K9 (HB7.out.alloc HB7.out.size _) h9; clear HN9 h9 hb9) | (go_at_call 9; refine Calls.mono HC9 ?_; rintro e w9 ⟨rfl, hb9⟩; have k9 : w9.cell? ⟨w5.heap.size, 0, none⟩ = some (.int .i64 c1) := ((bcell hb9).1 _ _ (by simp; omega)).trans (by simp [go_sem, k7, hm7]); have l9 : w9.cell? ⟨w7.heap.size, 0, none⟩ = some (.int .i64 c3) := ((bcell hb9).1 _ _ (by simp)).trans (by simp [go_sem]); have hl9 : w7.heap.size < w9.heap.size := (by have := hb9.size; simp at this; omega); have hm9 : w5.heap.size < w9.heap.size := (by omega); have HB9 : Hid (Below w.heap.size w w9) := after (HB7.out.alloc HB7.out.size _) hb9 (by have := HB7.out.size; simp; omega); clear hb9 HC9))
        have e1 := HE1.out
        have e3 := HE3.out
        have e4 := HE4.out
        subst e1
        subst e3
        go_wp2_with fail
        · exfalso
          have := HSum.out
          omega
        go_ret
        exact ⟨rfl, HB9.out.alloc HB9.out.size _⟩
    · have j6 : (kk : Int) ≤ (ll : Int) := by omega
      have j7 : (kk : Int) ≤ (lc : Int) := by omega
      have j8 : (ll : Int) ≤ (lc : Int) := by have := HCap.out; omega
      clear HNil HCap hd
      by_cases hk : lc = kk
      · subst hk
        rcases HCs.out with ⟨e2, e1⟩ | ⟨e2, e1, e3⟩ | ⟨e2, e1, e3, e4⟩
        · have e2' : (c2 != 0) = true := by simpa using e2
          have e1' : (c1 != 0) = true := by simpa using e1
          clear e1 e2 HCs
          go_upto_region 8 with (go_at_call 9; refine Calls.mono (HDo1.out _) ?_; rintro e w5 ⟨rfl, hD5, _⟩; have HD5 := hid (hD5.cons (x := w5.heap.size) (w1 := w5.alloc (.cells #[.int .i64 c1, .int .i64 d1] 31)) (by go_grown) (Nat.le_refl _) (by simp)); clear hD5)
          go_upto_region 9 with (go_at_call 9; refine Calls.mono (HDo2.out _ _ _ HD5.out) ?_; rintro e w6 ⟨rfl, hD6, hS6⟩; have k6 : w6.cell? ⟨w5.heap.size, 0, none⟩ = some (.int .i64 c1) := (hS6.cell (p := ⟨w5.heap.size, 0, none⟩) (by simp) (by simp)).trans (by simp [go_sem]); have hl6 : w5.heap.size < w6.heap.size := (by have := hS6.size; simp at this; omega); have HD6 := hid (hD6.cons (x := w6.heap.size) (w1 := w6.alloc (.cells #[.int .i64 c2, .int .i64 d2] 31)) (by go_grown) (Nat.le_refl _) (by simp)); clear hD6 hS6 HD5)
          go_upto_region 10 with (go_at_call 9; refine Calls.mono (HDo3.out _ _ _ _ _ hcs HD6.out) ?_; rintro e w7 ⟨rfl, hS7, hB7⟩; have k7 : w7.cell? ⟨w5.heap.size, 0, none⟩ = some (.int .i64 c1) := (hS7.cell (p := ⟨w5.heap.size, 0, none⟩) (by simp; omega) (by simp)).trans (by simp [go_sem, k6, hl6]); have l7 : w7.cell? ⟨w6.heap.size, 0, none⟩ = some (.int .i64 c2) := (hS7.cell (p := ⟨w6.heap.size, 0, none⟩) (by simp) (by simp)).trans (by simp [go_sem]); have hl7 : w6.heap.size < w7.heap.size := (by have := hS7.size; simp at this; omega); have hm7 : w5.heap.size < w7.heap.size := (by omega); have HB7 := hid hB7; have HN9 := new_one (w7.alloc (.cells #[.int .i64 c3, .int .i64 d3] 31)); clear hS7 hB7 HD6 k6)
          go_wp2_with fail
          go_ret
          exact ⟨rfl, HB7.out.alloc HB7.out.size _⟩
        · have e2' : (c2 != 0) = true := by simpa using e2
          have e3' : (c3 != 0) = true := by simpa using e3
          have HE1 := hid e1
          clear e1 e2 e3 HCs
          go_upto_region 8 with (go_at_call 9; refine Calls.mono (HDo1.out _) ?_; rintro e w5 ⟨rfl, hD5, _⟩; have HD5 := hid (hD5.cons (x := w5.heap.size) (w1 := w5.alloc (.cells #[.int .i64 c1, .int .i64 d1] 31)) (by go_grown) (Nat.le_refl _) (by simp)); clear hD5)
          go_upto_region 9 with (go_at_call 9; refine Calls.mono (HDo2.out _ _ _ HD5.out) ?_; rintro e w6 ⟨rfl, hD6, hS6⟩; have k6 : w6.cell? ⟨w5.heap.size, 0, none⟩ = some (.int .i64 c1) := (hS6.cell (p := ⟨w5.heap.size, 0, none⟩) (by simp) (by simp)).trans (by simp [go_sem]); have hl6 : w5.heap.size < w6.heap.size := (by have := hS6.size; simp at this; omega); have HD6 := hid (hD6.cons (x := w6.heap.size) (w1 := w6.alloc (.cells #[.int .i64 c2, .int .i64 d2] 31)) (by go_grown) (Nat.le_refl _) (by simp)); clear hD6 hS6 HD5)
          go_upto_region 10 with (go_at_call 9; refine Calls.mono (HDo3.out _ _ _ _ _ hcs HD6.out) ?_; rintro e w7 ⟨rfl, hS7, hB7⟩; have k7 : w7.cell? ⟨w5.heap.size, 0, none⟩ = some (.int .i64 c1) := (hS7.cell (p := ⟨w5.heap.size, 0, none⟩) (by simp; omega) (by simp)).trans (by simp [go_sem, k6, hl6]); have l7 : w7.cell? ⟨w6.heap.size, 0, none⟩ = some (.int .i64 c2) := (hS7.cell (p := ⟨w6.heap.size, 0, none⟩) (by simp) (by simp)).trans (by simp [go_sem]); have hl7 : w6.heap.size < w7.heap.size := (by have := hS7.size; simp at this; omega); have hm7 : w5.heap.size < w7.heap.size := (by omega); have HB7 := hid hB7; have HN9 := new_one (w7.alloc (.cells #[.int .i64 c3, .int .i64 d3] 31)); clear hS7 hB7 HD6 k6)
          have e1 := HE1.out
          subst e1
          go_wp2_with fail
          go_ret
          exact ⟨rfl, HB7.out.alloc HB7.out.size _⟩
        · have HE1 := hid e1
          have HE2 := hid e2
          have HE3 := hid e3
          have HE4 := hid e4
          clear e1 e2 e3 e4 HCs
          go_upto_region 8 with (go_at_call 9; refine Calls.mono (HDo1.out _) ?_; rintro e w5 ⟨rfl, hD5, _⟩; have HD5 := hid (hD5.cons (x := w5.heap.size) (w1 := w5.alloc (.cells #[.int .i64 c1, .int .i64 d1] 31)) (by go_grown) (Nat.le_refl _) (by simp)); clear hD5)
          go_upto_region 9 with (go_at_call 9; refine Calls.mono (HDo2.out _ _ _ HD5.out) ?_; rintro e w6 ⟨rfl, hD6, hS6⟩; have k6 : w6.cell? ⟨w5.heap.size, 0, none⟩ = some (.int .i64 c1) := (hS6.cell (p := ⟨w5.heap.size, 0, none⟩) (by simp) (by simp)).trans (by simp [go_sem]); have hl6 : w5.heap.size < w6.heap.size := (by have := hS6.size; simp at this; omega); have HD6 := hid (hD6.cons (x := w6.heap.size) (w1 := w6.alloc (.cells #[.int .i64 c2, .int .i64 d2] 31)) (by go_grown) (Nat.le_refl _) (by simp)); clear hD6 hS6 HD5)
          go_upto_region 10 with (go_at_call 9; refine Calls.mono (HDo3.out _ _ _ _ _ hcs HD6.out) ?_; rintro e w7 ⟨rfl, hS7, hB7⟩; have k7 : w7.cell? ⟨w5.heap.size, 0, none⟩ = some (.int .i64 c1) := (hS7.cell (p := ⟨w5.heap.size, 0, none⟩) (by simp; omega) (by simp)).trans (by simp [go_sem, k6, hl6]); have l7 : w7.cell? ⟨w6.heap.size, 0, none⟩ = some (.int .i64 c2) := (hS7.cell (p := ⟨w6.heap.size, 0, none⟩) (by simp) (by simp)).trans (by simp [go_sem]); have hl7 : w6.heap.size < w7.heap.size := (by have := hS7.size; simp at this; omega); have hm7 : w5.heap.size < w7.heap.size := (by omega); have HB7 := hid hB7; have HN9 := new_one (w7.alloc (.cells #[.int .i64 c3, .int .i64 d3] 31)); clear hS7 hB7 HD6 k6)
          have e2 := HE2.out
          subst e2
          go_upto_region 13 with (first | (go_at_call 7; refine Calls.mono HN9 ?_; rintro e w8 ⟨K9, rfl, h9, hp9, hb9⟩; have HC9 := HDo4.out _ w8 K9 (HB7.out.alloc HB7.out.size _) h9; clear HN9 h9 hb9) | (go_at_call 9; refine Calls.mono HC9 ?_; rintro e w9 ⟨rfl, hb9⟩; have k9 : w9.cell? ⟨w5.heap.size, 0, none⟩ = some (.int .i64 c1) := ((bcell hb9).1 _ _ (by simp; omega)).trans (by simp [go_sem, k7, hm7]); have l9 : w9.cell? ⟨w7.heap.size, 0, none⟩ = some (.int .i64 c3) := ((bcell hb9).1 _ _ (by simp)).trans (by simp [go_sem]); have hl9 : w7.heap.size < w9.heap.size := (by have := hb9.size; simp at this; omega); have hm9 : w5.heap.size < w9.heap.size := (by omega); have HB9 : Hid (Below w.heap.size w w9) := after (HB7.out.alloc HB7.out.size _) hb9 (by have := HB7.out.size; simp; omega); clear hb9 HC9))
          have e1 := HE1.out
          have e3 := HE3.out
          have e4 := HE4.out
          subst e1
          subst e3
          go_wp2_with fail
          · exfalso
            have := HSum.out
            omega
          go_ret
          exact ⟨rfl, HB9.out.alloc HB9.out.size _⟩
      · have j5 : ¬ lc = kk := hk
        rcases HCs.out with ⟨e2, e1⟩ | ⟨e2, e1, e3⟩ | ⟨e2, e1, e3, e4⟩
        · have e2' : (c2 != 0) = true := by simpa using e2
          have e1' : (c1 != 0) = true := by simpa using e1
          clear e1 e2 HCs
          go_upto_region 8 with (go_at_call 9; refine Calls.mono (HDo1.out _) ?_; rintro e w5 ⟨rfl, hD5, _⟩; have HD5 := hid (hD5.cons (x := w5.heap.size) (w1 := w5.alloc (.cells #[.int .i64 c1, .int .i64 d1] 31)) (by go_grown) (Nat.le_refl _) (by simp)); clear hD5)
          go_upto_region 9 with (go_at_call 9; refine Calls.mono (HDo2.out _ _ _ HD5.out) ?_; rintro e w6 ⟨rfl, hD6, hS6⟩; have k6 : w6.cell? ⟨w5.heap.size, 0, none⟩ = some (.int .i64 c1) := (hS6.cell (p := ⟨w5.heap.size, 0, none⟩) (by simp) (by simp)).trans (by simp [go_sem]); have hl6 : w5.heap.size < w6.heap.size := (by have := hS6.size; simp at this; omega); have HD6 := hid (hD6.cons (x := w6.heap.size) (w1 := w6.alloc (.cells #[.int .i64 c2, .int .i64 d2] 31)) (by go_grown) (Nat.le_refl _) (by simp)); clear hD6 hS6 HD5)
          go_upto_region 10 with (go_at_call 9; refine Calls.mono (HDo3.out _ _ _ _ _ hcs HD6.out) ?_; rintro e w7 ⟨rfl, hS7, hB7⟩; have k7 : w7.cell? ⟨w5.heap.size, 0, none⟩ = some (.int .i64 c1) := (hS7.cell (p := ⟨w5.heap.size, 0, none⟩) (by simp; omega) (by simp)).trans (by simp [go_sem, k6, hl6]); have l7 : w7.cell? ⟨w6.heap.size, 0, none⟩ = some (.int .i64 c2) := (hS7.cell (p := ⟨w6.heap.size, 0, none⟩) (by simp) (by simp)).trans (by simp [go_sem]); have hl7 : w6.heap.size < w7.heap.size := (by have := hS7.size; simp at this; omega); have hm7 : w5.heap.size < w7.heap.size := (by omega); have HB7 := hid hB7; have HN9 := new_one (w7.alloc (.cells #[.int .i64 c3, .int .i64 d3] 31)); clear hS7 hB7 HD6 k6)
          go_wp2_with fail
          go_ret
          exact ⟨rfl, HB7.out.alloc HB7.out.size _⟩
        · have e2' : (c2 != 0) = true := by simpa using e2
          have e3' : (c3 != 0) = true := by simpa using e3
          have HE1 := hid e1
          clear e1 e2 e3 HCs
          go_upto_region 8 with (go_at_call 9; refine Calls.mono (HDo1.out _) ?_; rintro e w5 ⟨rfl, hD5, _⟩; have HD5 := hid (hD5.cons (x := w5.heap.size) (w1 := w5.alloc (.cells #[.int .i64 c1, .int .i64 d1] 31)) (by go_grown) (Nat.le_refl _) (by simp)); clear hD5)
          go_upto_region 9 with (go_at_call 9; refine Calls.mono (HDo2.out _ _ _ HD5.out) ?_; rintro e w6 ⟨rfl, hD6, hS6⟩; have k6 : w6.cell? ⟨w5.heap.size, 0, none⟩ = some (.int .i64 c1) := (hS6.cell (p := ⟨w5.heap.size, 0, none⟩) (by simp) (by simp)).trans (by simp [go_sem]); have hl6 : w5.heap.size < w6.heap.size := (by have := hS6.size; simp at this; omega); have HD6 := hid (hD6.cons (x := w6.heap.size) (w1 := w6.alloc (.cells #[.int .i64 c2, .int .i64 d2] 31)) (by go_grown) (Nat.le_refl _) (by simp)); clear hD6 hS6 HD5)
          go_upto_region 10 with (go_at_call 9; refine Calls.mono (HDo3.out _ _ _ _ _ hcs HD6.out) ?_; rintro e w7 ⟨rfl, hS7, hB7⟩; have k7 : w7.cell? ⟨w5.heap.size, 0, none⟩ = some (.int .i64 c1) := (hS7.cell (p := ⟨w5.heap.size, 0, none⟩) (by simp; omega) (by simp)).trans (by simp [go_sem, k6, hl6]); have l7 : w7.cell? ⟨w6.heap.size, 0, none⟩ = some (.int .i64 c2) := (hS7.cell (p := ⟨w6.heap.size, 0, none⟩) (by simp) (by simp)).trans (by simp [go_sem]); have hl7 : w6.heap.size < w7.heap.size := (by have := hS7.size; simp at this; omega); have hm7 : w5.heap.size < w7.heap.size := (by omega); have HB7 := hid hB7; have HN9 := new_one (w7.alloc (.cells #[.int .i64 c3, .int .i64 d3] 31)); clear hS7 hB7 HD6 k6)
          have e1 := HE1.out
          subst e1
          go_wp2_with fail
          go_ret
          exact ⟨rfl, HB7.out.alloc HB7.out.size _⟩
        · have HE1 := hid e1
          have HE2 := hid e2
          have HE3 := hid e3
          have HE4 := hid e4
          clear e1 e2 e3 e4 HCs
          go_upto_region 8 with (go_at_call 9; refine Calls.mono (HDo1.out _) ?_; rintro e w5 ⟨rfl, hD5, _⟩; have HD5 := hid (hD5.cons (x := w5.heap.size) (w1 := w5.alloc (.cells #[.int .i64 c1, .int .i64 d1] 31)) (by go_grown) (Nat.le_refl _) (by simp)); clear hD5)
          go_upto_region 9 with (go_at_call 9; refine Calls.mono (HDo2.out _ _ _ HD5.out) ?_; rintro e w6 ⟨rfl, hD6, hS6⟩; have k6 : w6.cell? ⟨w5.heap.size, 0, none⟩ = some (.int .i64 c1) := (hS6.cell (p := ⟨w5.heap.size, 0, none⟩) (by simp) (by simp)).trans (by simp [go_sem]); have hl6 : w5.heap.size < w6.heap.size := (by have := hS6.size; simp at this; omega); have HD6 := hid (hD6.cons (x := w6.heap.size) (w1 := w6.alloc (.cells #[.int .i64 c2, .int .i64 d2] 31)) (by go_grown) (Nat.le_refl _) (by simp)); clear hD6 hS6 HD5)
          go_upto_region 10 with (go_at_call 9; refine Calls.mono (HDo3.out _ _ _ _ _ hcs HD6.out) ?_; rintro e w7 ⟨rfl, hS7, hB7⟩; have k7 : w7.cell? ⟨w5.heap.size, 0, none⟩ = some (.int .i64 c1) := (hS7.cell (p := ⟨w5.heap.size, 0, none⟩) (by simp; omega) (by simp)).trans (by simp [go_sem, k6, hl6]); have l7 : w7.cell? ⟨w6.heap.size, 0, none⟩ = some (.int .i64 c2) := (hS7.cell (p := ⟨w6.heap.size, 0, none⟩) (by simp) (by simp)).trans (by simp [go_sem]); have hl7 : w6.heap.size < w7.heap.size := (by have := hS7.size; simp at this; omega); have hm7 : w5.heap.size < w7.heap.size := (by omega); have HB7 := hid hB7; have HN9 := new_one (w7.alloc (.cells #[.int .i64 c3, .int .i64 d3] 31)); clear hS7 hB7 HD6 k6)
          have e2 := HE2.out
          subst e2
          go_upto_region 13 with (first | (go_at_call 7; refine Calls.mono HN9 ?_; rintro e w8 ⟨K9, rfl, h9, hp9, hb9⟩; have HC9 := HDo4.out _ w8 K9 (HB7.out.alloc HB7.out.size _) h9; clear HN9 h9 hb9) | (go_at_call 9; refine Calls.mono HC9 ?_; rintro e w9 ⟨rfl, hb9⟩; have k9 : w9.cell? ⟨w5.heap.size, 0, none⟩ = some (.int .i64 c1) := ((bcell hb9).1 _ _ (by simp; omega)).trans (by simp [go_sem, k7, hm7]); have l9 : w9.cell? ⟨w7.heap.size, 0, none⟩ = some (.int .i64 c3) := ((bcell hb9).1 _ _ (by simp)).trans (by simp [go_sem]); have hl9 : w7.heap.size < w9.heap.size := (by have := hb9.size; simp at this; omega); have hm9 : w5.heap.size < w9.heap.size := (by omega); have HB9 : Hid (Below w.heap.size w w9) := after (HB7.out.alloc HB7.out.size _) hb9 (by have := HB7.out.size; simp; omega); clear hb9 HC9))
          have e1 := HE1.out
          have e3 := HE3.out
          have e4 := HE4.out
          subst e1
          subst e3
          go_wp2_with fail
          · exfalso
            have := HSum.out
            omega
          go_ret
          exact ⟨rfl, HB9.out.alloc HB9.out.size _⟩
  · obtain ⟨hne, b0, o0, rfl⟩ := HLa.out (by rw [hDr] at hd; exact hd)
    have hcs : Dr ∨ ∃ b o, (some ⟨b0, o0, none⟩ : Option Addr) = some ⟨b, o, none⟩ ∧ (some ⟨b0, o0 + kk, none⟩ : Option Addr) = some ⟨b, o + kk, none⟩ := .inr ⟨b0, o0, rfl, rfl⟩
    have j5 : ¬ lc = kk := by have := HCap.out; omega
    have j6 : (kk : Int) ≤ (ll : Int) := by omega
    have j7 : (kk : Int) ≤ (lc : Int) := by omega
    have j8 : (ll : Int) ≤ (lc : Int) := by have := HCap.out; omega
    clear hd hDr HDr HLa HNil HCap hne
    rcases HCs.out with ⟨e2, e1⟩ | ⟨e2, e1, e3⟩ | ⟨e2, e1, e3, e4⟩
    · have e2' : (c2 != 0) = true := by simpa using e2
      have e1' : (c1 != 0) = true := by simpa using e1
      clear e1 e2 HCs
      go_upto_region 8 with (go_at_call 9; refine Calls.mono (HDo1.out _) ?_; rintro e w5 ⟨rfl, hD5, _⟩; have HD5 := hid (hD5.cons (x := w5.heap.size) (w1 := w5.alloc (.cells #[.int .i64 c1, .int .i64 d1] 31)) (by go_grown) (Nat.le_refl _) (by simp)); clear hD5)
      go_upto_region 9 with (go_at_call 9; refine Calls.mono (HDo2.out _ _ _ HD5.out) ?_; rintro e w6 ⟨rfl, hD6, hS6⟩; have k6 : w6.cell? ⟨w5.heap.size, 0, none⟩ = some (.int .i64 c1) := (hS6.cell (p := ⟨w5.heap.size, 0, none⟩) (by simp) (by simp)).trans (by simp [go_sem]); have hl6 : w5.heap.size < w6.heap.size := (by have := hS6.size; simp at this; omega); have HD6 := hid (hD6.cons (x := w6.heap.size) (w1 := w6.alloc (.cells #[.int .i64 c2, .int .i64 d2] 31)) (by go_grown) (Nat.le_refl _) (by simp)); clear hD6 hS6 HD5)
      go_upto_region 10 with (go_at_call 9; refine Calls.mono (HDo3.out _ _ _ _ _ hcs HD6.out) ?_; rintro e w7 ⟨rfl, hS7, hB7⟩; have k7 : w7.cell? ⟨w5.heap.size, 0, none⟩ = some (.int .i64 c1) := (hS7.cell (p := ⟨w5.heap.size, 0, none⟩) (by simp; omega) (by simp)).trans (by simp [go_sem, k6, hl6]); have l7 : w7.cell? ⟨w6.heap.size, 0, none⟩ = some (.int .i64 c2) := (hS7.cell (p := ⟨w6.heap.size, 0, none⟩) (by simp) (by simp)).trans (by simp [go_sem]); have hl7 : w6.heap.size < w7.heap.size := (by have := hS7.size; simp at this; omega); have hm7 : w5.heap.size < w7.heap.size := (by omega); have HB7 := hid hB7; have HN9 := new_one (w7.alloc (.cells #[.int .i64 c3, .int .i64 d3] 31)); clear hS7 hB7 HD6 k6)
      go_wp2_with fail
      go_ret
      exact ⟨rfl, HB7.out.alloc HB7.out.size _⟩
    · have e2' : (c2 != 0) = true := by simpa using e2
      have e3' : (c3 != 0) = true := by simpa using e3
      have HE1 := hid e1
      clear e1 e2 e3 HCs
      go_upto_region 8 with (go_at_call 9; refine Calls.mono (HDo1.out _) ?_; rintro e w5 ⟨rfl, hD5, _⟩; have HD5 := hid (hD5.cons (x := w5.heap.size) (w1 := w5.alloc (.cells #[.int .i64 c1, .int .i64 d1] 31)) (by go_grown) (Nat.le_refl _) (by simp)); clear hD5)
      go_upto_region 9 with (go_at_call 9; refine Calls.mono (HDo2.out _ _ _ HD5.out) ?_; rintro e w6 ⟨rfl, hD6, hS6⟩; have k6 : w6.cell? ⟨w5.heap.size, 0, none⟩ = some (.int .i64 c1) := (hS6.cell (p := ⟨w5.heap.size, 0, none⟩) (by simp) (by simp)).trans (by simp [go_sem]); have hl6 : w5.heap.size < w6.heap.size := (by have := hS6.size; simp at this; omega); have HD6 := hid (hD6.cons (x := w6.heap.size) (w1 := w6.alloc (.cells #[.int .i64 c2, .int .i64 d2] 31)) (by go_grown) (Nat.le_refl _) (by simp)); clear hD6 hS6 HD5)
      go_upto_region 10 with (go_at_call 9; refine Calls.mono (HDo3.out _ _ _ _ _ hcs HD6.out) ?_; rintro e w7 ⟨rfl, hS7, hB7⟩; have k7 : w7.cell? ⟨w5.heap.size, 0, none⟩ = some (.int .i64 c1) := (hS7.cell (p := ⟨w5.heap.size, 0, none⟩) (by simp; omega) (by simp)).trans (by simp [go_sem, k6, hl6]); have l7 : w7.cell? ⟨w6.heap.size, 0, none⟩ = some (.int .i64 c2) := (hS7.cell (p := ⟨w6.heap.size, 0, none⟩) (by simp) (by simp)).trans (by simp [go_sem]); have hl7 : w6.heap.size < w7.heap.size := (by have := hS7.size; simp at this; omega); have hm7 : w5.heap.size < w7.heap.size := (by omega); have HB7 := hid hB7; have HN9 := new_one (w7.alloc (.cells #[.int .i64 c3, .int .i64 d3] 31)); clear hS7 hB7 HD6 k6)
      have e1 := HE1.out
      subst e1
      go_wp2_with fail
      go_ret
      exact ⟨rfl, HB7.out.alloc HB7.out.size _⟩
    · have HE1 := hid e1
      have HE2 := hid e2
      have HE3 := hid e3
      have HE4 := hid e4
      clear e1 e2 e3 e4 HCs
      go_upto_region 8 with (go_at_call 9; refine Calls.mono (HDo1.out _) ?_; rintro e w5 ⟨rfl, hD5, _⟩; have HD5 := hid (hD5.cons (x := w5.heap.size) (w1 := w5.alloc (.cells #[.int .i64 c1, .int .i64 d1] 31)) (by go_grown) (Nat.le_refl _) (by simp)); clear hD5)
      go_upto_region 9 with (go_at_call 9; refine Calls.mono (HDo2.out _ _ _ HD5.out) ?_; rintro e w6 ⟨rfl, hD6, hS6⟩; have k6 : w6.cell? ⟨w5.heap.size, 0, none⟩ = some (.int .i64 c1) := (hS6.cell (p := ⟨w5.heap.size, 0, none⟩) (by simp) (by simp)).trans (by simp [go_sem]); have hl6 : w5.heap.size < w6.heap.size := (by have := hS6.size; simp at this; omega); have HD6 := hid (hD6.cons (x := w6.heap.size) (w1 := w6.alloc (.cells #[.int .i64 c2, .int .i64 d2] 31)) (by go_grown) (Nat.le_refl _) (by simp)); clear hD6 hS6 HD5)
      go_upto_region 10 with (go_at_call 9; refine Calls.mono (HDo3.out _ _ _ _ _ hcs HD6.out) ?_; rintro e w7 ⟨rfl, hS7, hB7⟩; have k7 : w7.cell? ⟨w5.heap.size, 0, none⟩ = some (.int .i64 c1) := (hS7.cell (p := ⟨w5.heap.size, 0, none⟩) (by simp; omega) (by simp)).trans (by simp [go_sem, k6, hl6]); have l7 : w7.cell? ⟨w6.heap.size, 0, none⟩ = some (.int .i64 c2) := (hS7.cell (p := ⟨w6.heap.size, 0, none⟩) (by simp) (by simp)).trans (by simp [go_sem]); have hl7 : w6.heap.size < w7.heap.size := (by have := hS7.size; simp at this; omega); have hm7 : w5.heap.size < w7.heap.size := (by omega); have HB7 := hid hB7; have HN9 := new_one (w7.alloc (.cells #[.int .i64 c3, .int .i64 d3] 31)); clear hS7 hB7 HD6 k6)
      have e2 := HE2.out
      subst e2
      go_upto_region 13 with (first | (go_at_call 7; refine Calls.mono HN9 ?_; rintro e w8 ⟨K9, rfl, h9, hp9, hb9⟩; have HC9 := HDo4.out _ w8 K9 (HB7.out.alloc HB7.out.size _) h9; clear HN9 h9 hb9) | (go_at_call 9; refine Calls.mono HC9 ?_; rintro e w9 ⟨rfl, hb9⟩; have k9 : w9.cell? ⟨w5.heap.size, 0, none⟩ = some (.int .i64 c1) := ((bcell hb9).1 _ _ (by simp; omega)).trans (by simp [go_sem, k7, hm7]); have l9 : w9.cell? ⟨w7.heap.size, 0, none⟩ = some (.int .i64 c3) := ((bcell hb9).1 _ _ (by simp)).trans (by simp [go_sem]); have hl9 : w7.heap.size < w9.heap.size := (by have := hb9.size; simp at this; omega); have hm9 : w5.heap.size < w9.heap.size := (by omega); have HB9 : Hid (Below w.heap.size w w9) := after (HB7.out.alloc HB7.out.size _) hb9 (by have := HB7.out.size; simp; omega); clear hb9 HC9))
      have e1 := HE1.out
      have e3 := HE3.out
      have e4 := HE4.out
      subst e1
      subst e3
      go_wp2_with fail
      · exfalso
        have := HSum.out
        omega
      go_ret
      exact ⟨rfl, HB9.out.alloc HB9.out.size _⟩

end Go.Proofs.YtbgnajcmhmpjlacGreatDoor

namespace Go.Proofs.YtbgnajcmhmpjlacGreatDoor
open Go.ChangeShapes Go.WideShapes Go.ChangeAt Go.RowKit Go.Deep

theorem Tryz.cellsStr : Tryz.prog.cellsOf 9 = 1 := by kernel_rfl
theorem open_lines {H : Type} {enc : TypeId × Value → H} {W : World} {held : Bool} {a : Option Addr} {l c : Nat} {d : DataW H} {ps : List MemPlace} (hd : DataW.Trod enc Tryz.prog W 0 (fun _ => true) held 22 (.slice a l c) d ps) :
    ∃ xs : List ByteArray, StrsAt W a xs ∧ xs.length = l ∧ l ≤ c ∧ (a = none → c = 0) ∧ (xs = [] ∨ ∃ sp, d = .slice (xs.map fun x => .lit (.string x.data.toList)) sp) := by
  obtain ⟨fuel, hf⟩ := hd
  rcases open_strs Tryz.underlying22 Tryz.underlying9 Tryz.cellsStr hf with ⟨hcs, _⟩ | ⟨x, l', c', m, Sx, hcs, _, hl, hm, hmm, hx, hc⟩
  · simp [Value.cells] at hcs
    obtain ⟨rfl, rfl, rfl⟩ := hcs
    exact ⟨[], fun k x h => by simp at h, rfl, Nat.le_refl _, fun _ => rfl, .inl rfl⟩
  · simp [Value.cells] at hcs
    obtain ⟨rfl, rfl, rfl⟩ := hcs
    simp only [if_true] at hmm
    subst hmm
    have e1 := congrArg Prod.fst hx
    simp only at e1
    refine ⟨(List.range l).map Sx, ?_, by simp, hl, fun e => by (cases e), .inr ⟨_, e1.trans (by rw [List.map_map]; rfl)⟩⟩
    · intro k y hk
      have hk' : k < l := by have := (List.getElem?_eq_some_iff.1 hk).1; simpa using this
      have ey : Sx k = y := by
        rw [List.getElem?_map, List.getElem?_range hk'] at hk
        simpa using hk
      have h1 := (hc k (by omega)).1
      obtain ⟨bb, off, spot⟩ := x
      have hspot : spot = none := by simpa [Addr.add] using World.cell?_spot (hc 0 (by omega)).1
      subst hspot
      rw [add_plain] at h1
      exact ⟨bb, off, rfl, World.block_lt_of_cell? W _ h1, by rw [h1, ey]⟩
theorem lines_size {H : Type} {P : Program} {e : TypeId} (sp : List (DataW H)) : ∀ (xs : List ByteArray) {x : ByteArray}, x ∈ xs → x.size ∈ DataW.weightsAll P e ((xs.map fun x => (DataW.lit (.string x.data.toList) : DataW H)))
  | [], _, h => by simp at h
  | y :: r, x, h => by
    simp only [List.map_cons, DataW.weightsAll, List.mem_append, DataW.weights]
    rcases List.mem_cons.1 h with e | e
    · left
      rw [e]
      exact List.mem_singleton.2 rfl
    · exact .inr (lines_size sp r e)
theorem sized_lines {H : Type} {ts : List TypeId} {ds : List (DataW H)} (h : (DataW.weightsEach Tryz.prog ts ds).all (· ≤ reachBytes) = true) {j : Nat} {xs : List ByteArray} {d : DataW H} (ht : ts[j]? = some 22) (hd : ds[j]? = some d) (hx : xs = [] ∨ ∃ sp, d = .slice (xs.map fun x => .lit (.string x.data.toList)) sp) : ∀ x ∈ xs, x.size ≤ 140737488355328 := by
  intro x hm
  rcases hx with e | ⟨sp, e⟩
  · subst e
    simp at hm
  · subst e
    have h1 := List.all_eq_true.1 h x.size (DataW.weights_mem_each ht hd x.size (by
      simp only [DataW.weights, Tryz.underlying22]
      exact List.mem_cons_of_mem _ (List.mem_append.2 (.inl (lines_size sp xs hm)))))
    have h2 : x.size ≤ reachBytes := by simpa using h1
    have := reachBytes_lt
    omega

theorem Tryz.star : "*errors.errorString" = "*" ++ "errors.errorString" := by decide
theorem Tryz.rowErr (u : TypeId) (h : Tryz.prog.typeName? 3 u = some "*errors.errorString") : u = 219 :=
  typeName_ptr_named (nm := "errors.errorString") (by rw [← Tryz.star]; kernel_rfl) (by kernel_rfl) (by decide) u (by rw [← Tryz.star]; exact h)
theorem Tryz.cellsErr : Tryz.prog.cellsOf 221 = 1 := by kernel_rfl
theorem tied_of_laid {W : World} (h : laidMetH Tryz.prog Rows.deskJoinsRow.laid W) : Tied W := by
  rw [MakeChecks.laidMetH_plain _ _ _ (by kernel_rfl)] at h
  have h1 := h.tail.tail
  have h2 := h1.tail
  have h3 := h2.tail
  obtain ⟨g1, e1⟩ := gTab
  obtain ⟨g2, e2⟩ := gSyn
  obtain ⟨g3, e3⟩ := gRng
  obtain ⟨a, s, hv, _⟩ := laid_sentinel h2 e3 (by
    have : (Tryz.prog.globalNamed "strconv.ErrRange").bind (fun g => (Tryz.prog.globals[g]?).map (·.type)) = some 88 := by kernel_rfl
    rw [e3] at this
    exact this) Tryz.underlying88 Tryz.rowErr Tryz.underlying219 Tryz.underlying221 rfl rfl Tryz.underlying9 Tryz.cellsErr Tryz.cellsStr
  obtain ⟨a', s', hv', _⟩ := laid_sentinel h3 e2 (by
    have : (Tryz.prog.globalNamed "strconv.ErrSyntax").bind (fun g => (Tryz.prog.globals[g]?).map (·.type)) = some 88 := by kernel_rfl
    rw [e2] at this
    exact this) Tryz.underlying88 Tryz.rowErr Tryz.underlying219 Tryz.underlying221 rfl rfl Tryz.underlying9 Tryz.cellsErr Tryz.cellsStr
  have hT : Lib.TabIs Tryz.prog W "internal/strconv.uint64pow10" .u64 Lib.pow10Tab := Lib.tabIs_of_head (rest := [("strconv.ErrRange", Rows.laid_strconv_ErrRange), ("strconv.ErrSyntax", Rows.laid_strconv_ErrSyntax)]) e1 (by
    have : (Tryz.prog.globalNamed "internal/strconv.uint64pow10").bind (fun g => (Tryz.prog.globals[g]?).map (·.type)) = some 227 := by kernel_rfl
    rw [e1] at this
    exact this) Tryz.underlying227 Tryz.underlying197 (by kernel_rfl) (by kernel_rfl) h1
  exact ⟨hT, ⟨_, _, hv'⟩, ⟨_, _, hv⟩⟩

end Go.Proofs.YtbgnajcmhmpjlacGreatDoor

namespace Go.Proofs.YtbgnajcmhmpjlacGreatDoor
open Go.ChangeShapes Go.WideShapes Go.ChangeAt Go.RowKit Go.Deep

theorem Tryz.ownDeskJoins : ownKnob Tryz.prog.godebug = none := by kernel_rfl
theorem Tryz.laidOutDeskJoins : laidOutB Tryz.prog = true := by kernel_rfl
theorem door_met (os : Os) (args : Array Value) : laidMetH Tryz.prog Rows.deskJoinsRow.laid ((World.doorLaid Tryz.prog 62 os).forCall (fun _ _ => 0) ⟨#[], args, []⟩).memory :=
  laidMetH_of_parts3 (fuel := 8) (laidMet_of_run' 8 (by kernel_rfl) (by kernel_rfl)) (by kernel_rfl) (by kernel_rfl)

set_option maxRecDepth 100000 in
theorem deskJoins_lifted (os : Os) (started : os.Started) (H : Type) (enc : TypeId × Value → H) :
    ReturnsInHanded {} Tryz.checked os 4 .any (fun w args => (Rows.deskJoinsSpec.pre enc Tryz.prog Tryz.f4 [] false w args ∧ laidMetH Tryz.prog Rows.deskJoinsRow.laid w) ∧ sizedMet enc Tryz.prog Tryz.f4 (OpenSpec.ofChange Rows.deskJoinsSpec) false w args)
      (Rows.deskJoinsSpec.post enc Tryz.prog Tryz.f4 false true false false) := by
  refine returnsInHanded_of_change_and (C := Tryz.checked) (X := fun w _ => laidMetH Tryz.prog Rows.deskJoinsRow.laid w) (fun _ _ _ hh h => h.of_heap hh) Tryz.ownDeskJoins started (by kernel_rfl) Tryz.func4
    (ChangeSpec.witness_shaped (enc := enc) (C := Tryz.checked) (os := os) (X := fun w _ => laidMetH Tryz.prog Rows.deskJoinsRow.laid w) false (World.doorLaid Tryz.prog 62 os) #[.slice none 0 0, .int .i64 0] 8 rfl (World.shaped_of_RefB (by kernel_rfl) (by kernel_rfl)) (by kernel_rfl) (by kernel_rfl) (by kernel_rfl) (door_met os _)) ?_
  intro W base args ds gs before hval0 hW _ hwt hL _
  have hval : ∀ (j : Nat) t v, Tryz.f4.params[j]? = some t → args[j]? = some v → Value.okWide Tryz.prog W .any base t v := hval0
  have hW' := hW
  obtain ⟨p, q, hA0, hV, rfl, hfz, hnd⟩ := hW
  have hA : DataW.TrodAll enc Tryz.prog W 0 (fun _ => true) true Tryz.f4.params.toList args.toList ds p := hA0
  rw [Tryz.params4] at hA hval hwt
  obtain ⟨v0, v1, d0, d1, p0, p1, rfl, rfl, rfl, h0, h1⟩ := trodAll_two hA
  obtain ⟨rfl, rfl⟩ := trodVars_none hV
  have k0 := h0
  have lt0 : ∀ x ∈ p0, x.block < W.heap.size := by obtain ⟨m, hm⟩ := k0; exact DataW.trod_lt m _ _ _ hm
  have k1 := h1
  have lt1 : ∀ x ∈ p1, x.block < W.heap.size := by obtain ⟨m, hm⟩ := k1; exact DataW.trod_lt m _ _ _ hm
  obtain ⟨a0, l0, c0, rfl⟩ := okWide_slice Tryz.underlying22 (hval 0 22 v0 rfl rfl)
  obtain ⟨xs, hx, hxl, hxc, hxn, hxd⟩ := open_lines h0
  have hsz := sized_lines hwt (j := 0) (xs := xs) (d := d0) rfl rfl hxd
  obtain ⟨n, rfl, _, _, wn⟩ := open_int Tryz.underlying3 (hval 1 3 v1 rfl rfl) h1
  have hT := tied_of_laid hL
  clear hA0 hval0
  refine (joins_walk a0 l0 c0 n xs W hT hx hxl hxc hxn hsz).mono fun e W' ⟨hret, hb⟩ => ?_
  subst hret
  exact ⟨_, rfl, _, _, _, [], _, [], hW', trodAll_mk1 (shut_bool Tryz.underlying4 true), trodAll_mk2 (Below.trod Tryz.laidOutDeskJoins (by kernel_rfl) (of_decide_eq_true (by kernel_rfl)) k0 hb lt0) (Below.trod Tryz.laidOutDeskJoins (by kernel_rfl) (of_decide_eq_true (by kernel_rfl)) k1 hb lt1), rfl, hb.frame _, fun h => by cases h⟩

theorem deskJoins_row : Rows.DeskJoinsSaid :=
  OpenClaim.holds_of_wide 4 Tryz.f4 rfl rfl rfl rfl rfl rfl rfl ⟨rfl, rfl, rfl, rfl, rfl⟩ rfl rfl rfl rfl rfl (by kernel_rfl) Tryz.func4 (by kernel_rfl)
    (of_decide_eq_true (by kernel_rfl)) (by unfold Func.isWrapper; first | (rw [if_pos (by decide +kernel)]; kernel_rfl) | (rw [if_neg (by decide +kernel)]; exact ⟨rfl, rfl⟩))
    (fun os started H enc _ => deskJoins_lifted os started H enc)
theorem deskJoins_holds : Rows.DeskJoinsCardSaid :=
  Claim7.holds_tied_plain_at .later [] [.data, .data, .data, .sentinel, .sentinel] true (true, "ec50a7657c8e2f3c41fae44cabbbe056cbbcf370acbafd49ce4bd35962b8d36d") true
    deskJoins_row (fun _ h => by cases h) (by kernel_rfl) (fun _ h => by cases h) deskJoins_row_tie rfl ⟨rfl, rfl⟩ (by kernel_rfl) rfl
    (fun f fn hf hfn => by
      obtain rfl : f = 4 := Option.some.inj ((show Tryz.prog.funcNamed "handsel/handsellaw.DeskJoins" = some 4 by kernel_rfl).symm.trans hf) |>.symm
      obtain rfl : fn = Tryz.f4 := (Option.some.inj (Tryz.func4.symm.trans hfn)).symm
      exact ⟨by kernel_rfl, fun j t ht => by
        rw [Tryz.params4] at ht
        rcases j with _ | _ | j
        · have h3 : t = 22 := by simpa using ht.symm
          subst h3
          exact (show Tryz.prog.wantsStandIn 22 = false by kernel_rfl)
        · have h3 : t = 3 := by simpa using ht.symm
          subst h3
          exact (show Tryz.prog.wantsStandIn 3 = false by kernel_rfl)
        · simp at ht⟩)
    (by kernel_rfl)

#print axioms deskJoins_holds
end Go.Proofs.YtbgnajcmhmpjlacGreatDoor
