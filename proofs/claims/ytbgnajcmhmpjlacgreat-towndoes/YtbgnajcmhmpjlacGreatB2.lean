/- A town and the document's market beside each other: their steps. -/
import Derived.Test.YtbgnajcmhmpjlacGreatB1

namespace Go.Proofs.YtbgnajcmhmpjlacGreat
open Go.RowKit

structure TM (w0 : World) (Z : Nat → Prop) (w : World) (p b m : Nat) (c : Nat → Nat) (pm : Nat) (ws : Nat → Int) (T T' : Twn) : Prop where
  lv : Lv (Pr (TnIn p b m c ws T) (MkIn pm ws T')) w0 Z w
  full : Full ws T
  full' : Full ws T'
  ok : ∀ s : Nat, s < 3 → newOk (s : Int) ws = true
theorem TM.next {w0 w w1 : World} {Z : Nat → Prop} {p b m : Nat} {c : Nat → Nat} {pm : Nat} {ws : Nat → Int} {T T' : Twn} (h : TM w0 Z w p b m c pm ws T T') (hb : Below w.heap.size w w1) : TM w0 Z w1 p b m c pm ws T T' := ⟨h.lv.next (pr_stands (tn_stands ..) (mk_stands ..)) hb, h.full, h.full', h.ok⟩
theorem TM.more {w0 w w1 : World} {Z Z' : Nat → Prop} {p b m : Nat} {c : Nat → Nat} {pm : Nat} {ws : Nat → Int} {T T' : Twn} (h : TM w0 Z w p b m c pm ws T T') (hb : Below w.heap.size w w1) (hZ : ∀ k, Z' k → Z k ∨ (w.heap.size ≤ k ∧ k < w1.heap.size)) : TM w0 Z' w1 p b m c pm ws T T' := ⟨h.lv.more (pr_stands (tn_stands ..) (mk_stands ..)) hb hZ, h.full, h.full', h.ok⟩
theorem TM.left {w0 w : World} {Z : Nat → Prop} {p b m : Nat} {c : Nat → Nat} {pm : Nat} {ws : Nat → Int} {T T' : Twn} (h : TM w0 Z w p b m c pm ws T T') : TLv w0 Z w p b m c ws T := by
  obtain ⟨O, h1, h2⟩ := h.lv.inn
  obtain ⟨OA, a1, a2, _⟩ := Pr.left (tn_stands ..) (mk_stands ..) h1
  exact ⟨⟨⟨OA, a1, fun k hk => h2 k (a2 k hk)⟩, h.lv.below, h.lv.kept⟩, h.full, h.ok⟩
theorem TM.right {w0 w : World} {Z : Nat → Prop} {p b m : Nat} {c : Nat → Nat} {pm : Nat} {ws : Nat → Int} {T T' : Twn} (h : TM w0 Z w p b m c pm ws T T') : ∃ O, MkIn pm ws T' O w := by
  obtain ⟨O, h1, _⟩ := h.lv.inn
  obtain ⟨OA, a1, _⟩ := Pr.right (tn_stands ..) (mk_stands ..) h1
  exact ⟨OA, a1⟩
theorem step_tm {w0 w : World} {Z : Nat → Prop} {p b m : Nat} {c : Nat → Nat} {pm : Nat} {ws : Nat → Int} {T T' : Twn} (x : TSp) {sa : Option Addr} {sc : Nat} (h : TM w0 Z w p b m c pm ws T T') (hx : WantsAt w sa x.w) : Calls Tryz.prog 8 #[.pointer (some ⟨p, 0, none⟩), .agg #[.int .i64 x.kind, .int .i64 x.n, .slice sa x.w.length sc]] w fun e w' => e = .returned (.int .i64 (townR T x).1) ∧ TM w0 Z w' p b m c pm ws (townR T x).2 T' := by
  obtain ⟨O, h1, h2⟩ := h.lv.inn
  obtain ⟨OA, a1, a2, a3⟩ := Pr.left (tn_stands ..) (mk_stands ..) h1
  refine (tstep_any x a1 (h.full.rdy h.ok) hx).mono ?_
  rintro e w' ⟨he, hT⟩
  exact ⟨he, (h.lv.step h2 (a3 w' _ (tn_stands ..) hT)).1, h.full.step x, h.full', h.ok⟩
theorem step_mt {w0 w : World} {Z : Nat → Prop} {p b m : Nat} {c : Nat → Nat} {pm : Nat} {ws : Nat → Int} {T T' : Twn} (x : TSp) {sa : Option Addr} {sc : Nat} (h : TM w0 Z w p b m c pm ws T T') (hx : WantsAt w sa x.w) : Calls Tryz.prog 9 #[.pointer (some ⟨pm, 0, none⟩), .agg #[.int .i64 x.kind, .int .i64 x.n, .slice sa x.w.length sc]] w fun e w' => e = .returned (.int .i64 (townR T' x).1) ∧ TM w0 Z w' p b m c pm ws T (townR T' x).2 := by
  obtain ⟨O, h1, h2⟩ := h.lv.inn
  obtain ⟨OA, a1, a2, a3⟩ := Pr.right (tn_stands ..) (mk_stands ..) h1
  refine (mstep_any x a1 (h.full'.rdy h.ok) hx).mono ?_
  rintro e w' ⟨he, hT⟩
  exact ⟨he, (h.lv.step h2 (a3 w' _ (mk_stands ..) hT)).1, h.full, h.full'.step x, h.ok⟩
theorem calm_tm {w0 w : World} {Z : Nat → Prop} {p b m : Nat} {c : Nat → Nat} {pm : Nat} {ws : Nat → Int} {T T' : Twn} (h : TM w0 Z w p b m c pm ws T T') : Calls Tryz.prog 13 #[.pointer (some ⟨p, 0, none⟩)] w fun e w' => e = .returned (.int .i64 ((calmR 20 0 T).1 : Int)) ∧ TM w0 Z w' p b m c pm ws (calmR 20 0 T).2 T' := by
  obtain ⟨O, h1, h2⟩ := h.lv.inn
  obtain ⟨OA, a1, a2, a3⟩ := Pr.left (tn_stands ..) (mk_stands ..) h1
  refine (tcalm_any a1 h.full h.ok).mono ?_
  rintro e w' ⟨he, hT⟩
  exact ⟨he, (h.lv.step h2 (a3 w' _ (tn_stands ..) hT)).1, h.full.calm.1, h.full', h.ok⟩
theorem calm_mt {w0 w : World} {Z : Nat → Prop} {p b m : Nat} {c : Nat → Nat} {pm : Nat} {ws : Nat → Int} {T T' : Twn} (h : TM w0 Z w p b m c pm ws T T') : Calls Tryz.prog 14 #[.pointer (some ⟨pm, 0, none⟩)] w fun e w' => e = .returned (.int .i64 ((calmR 20 0 T').1 : Int)) ∧ TM w0 Z w' p b m c pm ws T (calmR 20 0 T').2 := by
  obtain ⟨O, h1, h2⟩ := h.lv.inn
  obtain ⟨OA, a1, a2, a3⟩ := Pr.right (tn_stands ..) (mk_stands ..) h1
  refine (mcalm_any a1 h.full' h.ok).mono ?_
  rintro e w' ⟨he, hT⟩
  exact ⟨he, (h.lv.step h2 (a3 w' _ (mk_stands ..) hT)).1, h.full, h.full'.calm.1, h.ok⟩
theorem same_tm {w0 w : World} {Z : Nat → Prop} {p b m : Nat} {c : Nat → Nat} {pm : Nat} {ws : Nat → Int} {T : Twn} (h : TM w0 Z w p b m c pm ws T T) : Calls Tryz.prog 10 #[.pointer (some ⟨p, 0, none⟩), .pointer (some ⟨pm, 0, none⟩)] w fun e w' => e = .returned (.bool true) ∧ Below w.heap.size w w' := by
  obtain ⟨O, h1⟩ := h.right
  exact sametown_any h.left h1
theorem mnew_lv {ws : Nat → Int} (hok : OkT ws) (w : World) : Calls Tryz.prog 7 #[wldV ws] w fun e w' => ∃ pm, e = .returned (.pointer (some ⟨pm, 0, none⟩)) ∧ Lv (MkIn pm ws (T00 ws)) w (fun k => k ∈ ([] : List Nat)) w' ∧ Below w.heap.size w w' := by
  refine (mnew_any ws w).mono ?_
  rintro e w' ⟨h, hb⟩
  obtain ⟨pm, O, he, hI, hO⟩ := h.1 hok
  exact ⟨pm, he, Lv.new hI hO hb, hb⟩
theorem mnew_nil {ws : Nat → Int} (hok : ¬ OkT ws) (w : World) : Calls Tryz.prog 7 #[wldV ws] w fun e w' => e = .returned (.pointer none) ∧ Below w.heap.size w w' := (mnew_any ws w).mono (fun _ _ h => ⟨h.1.2 hok, h.2⟩)
theorem TM.new {w0 w w1 : World} {p b m : Nat} {c : Nat → Nat} {pm : Nat} {ws : Nat → Int} (h : TLv w0 (fun k => k ∈ ([] : List Nat)) w p b m c ws (T00 ws)) (h1 : Lv (MkIn pm ws (T00 ws)) w (fun k => k ∈ ([] : List Nat)) w1) : TM w0 (fun k => k ∈ ([] : List Nat)) w1 p b m c pm ws (T00 ws) (T00 ws) :=
  ⟨Pr.new (tn_stands ..) (mk_stands ..) h.lv h1.below h1, h.full, h.full, h.ok⟩

end Go.Proofs.YtbgnajcmhmpjlacGreat
