/- The contracts of keep's check, slices.Index and slices.Contains at records, and of SameRecords. -/
import Derived.Test.YtbgnajcmhmpjlabKBox
import Derived.BigQuiet
namespace Go.Proofs.Ytbgnajcmhmpjlab
open Go.RowKit

def recV (r : Stp) : Value := .agg #[.int .i64 r.what, .int .i64 r.deal, .int .i64 r.c, .int .i64 r.d, .bool r.done]

set_option maxHeartbeats 1000000 in
theorem kchk_any (r : Stp) (w : World) : Calls Try.prog 90 #[recV r] w fun e w' => e = .returned (.int .i64 (rchk r)) ∧ Below w.heap.size w w' := by
  obtain ⟨what, deal, c, d, done⟩ := r
  unfold recV rchk
  dsimp only
  by_cases h1 : what = 1
  · subst h1
    rw [if_pos rfl]
    cases done
    · go_enter Try.func90, Try.ntmps90
      go_wp2_with fail
      go_ret
      exact ⟨rfl, by go_grown⟩
    · go_enter Try.func90, Try.ntmps90
      go_wp2_with fail
      go_ret
      exact ⟨rfl, by go_grown⟩
  · rw [if_neg h1]
    have h1' : (what == 1) = false := by simpa using h1
    by_cases h2 : what = 2
    · subst h2
      clear h1 h1'
      rw [if_pos rfl]
      by_cases hc : c = 0
      · by_cases hd : d = 0
        · rw [if_pos ⟨hc, hd⟩]
          subst hc
          subst hd
          go_enter Try.func90, Try.ntmps90
          go_wp2_with fail
          go_ret
          exact ⟨rfl, by go_grown⟩
        · rw [if_neg (fun q => hd q.2)]
          subst hc
          have hd' : (d != 0) = true := by simpa using hd
          clear hd
          go_enter Try.func90, Try.ntmps90
          go_wp2_with fail
          go_ret
          exact ⟨rfl, by go_grown⟩
      · rw [if_neg (fun q => hc q.1)]
        have hc' : (c != 0) = true := by simpa using hc
        clear hc
        go_enter Try.func90, Try.ntmps90
        go_wp2_with fail
        go_ret
        exact ⟨rfl, by go_grown⟩
    · rw [if_neg h2]
      have h2' : (what == 2) = false := by simpa using h2
      clear h1 h2
      go_enter Try.func90, Try.ntmps90
      go_wp2_with fail
      go_ret
      exact ⟨rfl, by go_grown⟩

theorem eqR (a b : Stp) (W : World) : (Op.equalIn 10000 51 (.agg #[.int .i64 a.what, .int .i64 a.deal, .int .i64 a.c, .int .i64 a.d, .bool a.done]) (.agg #[.int .i64 b.what, .int .i64 b.deal, .int .i64 b.c, .int .i64 b.d, .bool b.done])).run Try.prog W = .ok (eqS a b) W := by
  unfold eqS
  rw [show (10000 : Nat) = 9999 + 1 from rfl]
  simp [Op.eqFields, go_sem]
  repeat' split
  all_goals simp_all

theorem has_out {rs : List Stp} {r : Stp} (h : ∀ x ∈ rs, eqS r x = false) : hasS rs r = false := by
  rw [← Bool.not_eq_true, hasS_iff]
  intro hm
  have := h r hm
  rw [eqS_iff.2 rfl] at this
  cases this
theorem has_in {rs : List Stp} {r x : Stp} {k : Nat} (h : rs[k]? = some x) (he : eqS r x = true) : hasS rs r = true := by
  rw [hasS_iff, eqS_iff.1 he]
  exact List.mem_of_getElem? h
theorem none_snoc {rs : List Stp} {r x : Stp} {k : Nat} (h : rs[k]? = some x) (hn : ∀ y ∈ rs.take k, eqS r y = false) (he : eqS r x = false) : ∀ y ∈ rs.take (k + 1), eqS r y = false := by
  rw [take_snoc h]
  intro y hy
  rcases List.mem_append.1 hy with hy | hy
  · exact hn y hy
  · rw [List.mem_singleton.1 hy]; exact he

/-- What slices.Index answers: a place, if it is there. -/
def IdxIs (rs : List Stp) (r : Stp) (i : Int) : Prop := (0 ≤ i ∧ hasS rs r = true) ∨ (i = -1 ∧ hasS rs r = false)

set_option maxHeartbeats 1000000 in
theorem kidx_any (la : Option Addr) (n ca : Nat) (rs : List Stp) (r : Stp) (w : World) (hl : StepsAt w la rs) (hn : rs.length = n) (hs : n < 2 ^ 62) :
    Calls Try.prog 93 #[.slice la n ca, recV r] w fun e w' => (∃ i, e = .returned (.int .i64 i) ∧ IdxIs rs r i) ∧ Below w.heap.size w w' := by
  unfold recV
  go_enter Try.func93, Try.ntmps93
  go_upto_region 1 with fail
  have hX := BoxAt.new w [.int .i64 r.what, .int .i64 r.deal, .int .i64 r.c, .int .i64 r.d, .bool r.done] 51
  have hb : Below w.heap.size w (w.alloc (.cells #[.int .i64 r.what, .int .i64 r.deal, .int .i64 r.c, .int .i64 r.d, .bool r.done] 51)) := (Below.refl _ _).alloc (Nat.le_refl _) _
  change BoxAt (w.alloc (.cells #[.int .i64 r.what, .int .i64 r.deal, .int .i64 r.c, .int .i64 r.d, .bool r.done] 51)) _ _ at hX
  generalize (w.alloc (.cells #[.int .i64 r.what, .int .i64 r.deal, .int .i64 r.c, .int .i64 r.d, .bool r.done] 51)) = W at hX hb ⊢
  generalize w.heap.size = bx at hX ⊢
  have hl' := hl.below hb (Nat.le_refl _)
  clear hl
  go_wp2_with fail
  go_loopg [5, 8] n (fun g _ s8 wr => ∃ k : Nat, k ≤ n ∧ g = n - k ∧ s8 = .int .i64 k ∧ Hid (∀ y ∈ rs.take k, eqS r y = false) ∧ Below W.heap.size W wr)
  case atStart => exact ⟨0, Nat.zero_le _, rfl, rfl, by intro y hy; simp at hy, Below.refl _ _⟩
  case round =>
    obtain ⟨k, hk, rfl, rfl, HE, hS⟩ := hrel
    by_cases hlt : k < n
    · obtain ⟨x, hkx⟩ : ∃ x, rs[k]? = some x := ⟨_, List.getElem?_eq_getElem (by omega)⟩
      obtain ⟨bl, ol, rfl, hbl, hcell⟩ := hl' k x hkx
      have hcell' : ∀ j v, x.cells[j]? = some v → wr.cell? ⟨bl, ol + k * 5 + j, none⟩ = some v := fun j v hj => (hS.cell (p := ⟨bl, _, none⟩) hbl).trans (hcell j v hj)
      have p0 : wr.cell? ⟨bl, ol + k * 5, none⟩ = some (.int .i64 x.what) := hcell' 0 _ rfl
      have p1 : wr.cell? ⟨bl, ol + k * 5 + 1, none⟩ = some (.int .i64 x.deal) := hcell' 1 _ rfl
      have p2 : wr.cell? ⟨bl, ol + k * 5 + 2, none⟩ = some (.int .i64 x.c) := hcell' 2 _ rfl
      have p3 : wr.cell? ⟨bl, ol + k * 5 + 3, none⟩ = some (.int .i64 x.d) := hcell' 3 _ rfl
      have p4 : wr.cell? ⟨bl, ol + k * 5 + 4, none⟩ = some (.bool x.done) := hcell' 4 _ rfl
      have hX' := hX.next hS
      have y0 := hX'.2 0 _ rfl
      have y1 := hX'.2 1 _ rfl
      have y2 := hX'.2 2 _ rfl
      have y3 := hX'.2 3 _ rfl
      have y4 := hX'.2 4 _ rfl
      have j0 : (0 : Int) ≤ (k : Int) := by omega
      have j1 : (k : Int) < (n : Int) := by omega
      have j2 : (n : Int) < 2 ^ 62 := by omega
      clear hcell hcell' hl' hX'
      cases hq : eqS r x with
      | true =>
        have hq1 : ∀ W : World, (Op.equalIn 10000 51 (.agg #[.int .i64 r.what, .int .i64 r.deal, .int .i64 r.c, .int .i64 r.d, .bool r.done]) (.agg #[.int .i64 x.what, .int .i64 x.deal, .int .i64 x.c, .int .i64 x.d, .bool x.done])).run Try.prog W = .ok true W := fun W => by rw [eqR, hq]
        have HQ : Hid (hasS rs r = true) := has_in hkx hq
        clear hq hkx
        go_wp2_with fail
        go_quiet (fail)
        go_wp2_with fail
        go_ret
        exact ⟨⟨_, rfl, .inl ⟨by omega, HQ.out⟩⟩, after hb (bdrewN hS _) hb.size⟩
      | false =>
        have hq1 : ∀ W : World, (Op.equalIn 10000 51 (.agg #[.int .i64 r.what, .int .i64 r.deal, .int .i64 r.c, .int .i64 r.d, .bool r.done]) (.agg #[.int .i64 x.what, .int .i64 x.deal, .int .i64 x.c, .int .i64 x.d, .bool x.done])).run Try.prog W = .ok false W := fun W => by rw [eqR, hq]
        have HQ : Hid _ := none_snoc hkx HE.out hq
        clear hq hkx
        go_wp2_with fail
        go_quiet (fail)
        go_wp2_with fail
        go_roundg (n - (k + 1))
        case measure => omega
        case rel => exact ⟨k + 1, by omega, rfl, by simp, HQ, bdrewN hS _⟩
    · have hkk : k = n := by omega
      subst hkk
      have HQ : Hid (hasS rs r = false) := has_out (by have := HE.out; rwa [List.take_of_length_le (by omega)] at this)
      go_wp2_with fail
      go_ret
      exact ⟨⟨_, rfl, .inr ⟨rfl, HQ.out⟩⟩, after hb hS hb.size⟩

set_option maxHeartbeats 1000000 in
theorem khas_any (la : Option Addr) (n ca : Nat) (rs : List Stp) (r : Stp) (w : World) (hl : StepsAt w la rs) (hn : rs.length = n) (hs : n < 2 ^ 62) :
    Calls Try.prog 67 #[.slice la n ca, recV r] w fun e w' => e = .returned (.bool (hasS rs r)) ∧ Below w.heap.size w w' := by
  have HI : Hid (∀ W : World, Below w.heap.size w W → Calls Try.prog 93 #[.slice la n ca, .agg #[.int .i64 r.what, .int .i64 r.deal, .int .i64 r.c, .int .i64 r.d, .bool r.done]] W fun e w' => (∃ i, e = .returned (.int .i64 i) ∧ IdxIs rs r i) ∧ Below W.heap.size W w') := fun W hW => kidx_any la n ca rs r W (hl.below hW (Nat.le_refl _)) hn hs
  unfold recV
  clear hl
  go_enter Try.func67, Try.ntmps67
  go_wp2_with fail
  refine Calls.mono (HI.out _ (by go_grown)) ?_
  rintro e w1 ⟨⟨i, rfl, hi⟩, hb1⟩
  have hb2 : Below w.heap.size w w1 := after (by go_grown) hb1 (by simp)
  rcases hi with ⟨h0, h1⟩ | ⟨rfl, h1⟩
  · have H1 : Hid _ := h1
    clear h1
    go_wp2_with fail
    go_ret
    exact ⟨by rw [H1.out]; simp, hb2⟩
  · have H1 : Hid _ := h1
    clear h1
    go_wp2_with fail
    go_ret
    exact ⟨by rw [H1.out]; rfl, hb2⟩

theorem same5_of {l m : List Stp} (k : Nat) (h : l.take k = m.take k) {c c' : Stp} (h1 : l[k]? = some c) (h2 : m[k]? = some c') (he : eqS c c' = true) : l.take (k + 1) = m.take (k + 1) := by
  rw [take_snoc h1, take_snoc h2, h, eqS_iff.1 he]
theorem other5_of {l m : List Stp} (k : Nat) {c c' : Stp} (h1 : l[k]? = some c) (h2 : m[k]? = some c') (he : eqS c c' = false) : ¬ l = m := by
  intro e
  rw [e, h2] at h1
  rw [eqS_iff.2 (Option.some.inj h1).symm] at he
  cases he

/-- A Bool that tells whether two lists are the same. -/
def Tells (b : Bool) (l m : List Stp) : Prop := b = true ↔ l = m
theorem tells_no {l m : List Stp} (h : ¬ l = m) : Tells false l m := ⟨fun q => (nomatch q), fun q => absurd q h⟩

set_option maxHeartbeats 1000000 in
theorem sameRecs_any (la lb : Option Addr) (na nb ca cb : Nat) (l m : List Stp) (w : World) (hl : StepsAt w la l) (hm : StepsAt w lb m) (h1 : l.length = na) (h2 : m.length = nb) (hs : na < 2 ^ 62) :
    Calls Try.prog 27 #[.slice la na ca, .slice lb nb cb] w fun e w' => (∃ b, e = .returned (.bool b) ∧ Tells b l m) ∧ Below w.heap.size w w' := by
  by_cases hn : na = nb
  · subst hn
    have hnn : ((na : Int) != (na : Int)) = false := by simp
    go_enter Try.func27, Try.ntmps27
    go_wp2_with fail
    go_loopg [5] na (fun g i wr => ∃ k : Nat, k ≤ na ∧ g = na - k ∧ i = .int .i64 k ∧ Hid (l.take k = m.take k) ∧ Below w.heap.size w wr)
    case atStart => exact ⟨0, Nat.zero_le _, rfl, rfl, rfl, Below.refl _ _⟩
    case round =>
      obtain ⟨k, hk, rfl, rfl, HE, hS⟩ := hrel
      by_cases hlt : k < na
      · obtain ⟨x, hc⟩ : ∃ x, l[k]? = some x := ⟨_, List.getElem?_eq_getElem (by omega)⟩
        obtain ⟨y, hc'⟩ : ∃ x, m[k]? = some x := ⟨_, List.getElem?_eq_getElem (by omega)⟩
        obtain ⟨b1, o1, rfl, hb1, r⟩ := hl k x hc
        obtain ⟨b2, o2, rfl, hb2, s⟩ := hm k y hc'
        have p0 : wr.cell? ⟨b1, o1 + k * 5, none⟩ = some (.int .i64 x.what) := (hS.cell (p := ⟨b1, _, none⟩) hb1).trans (r 0 _ rfl)
        have p1 : wr.cell? ⟨b1, o1 + k * 5 + 1, none⟩ = some (.int .i64 x.deal) := (hS.cell (p := ⟨b1, _, none⟩) hb1).trans (r 1 _ rfl)
        have p2 : wr.cell? ⟨b1, o1 + k * 5 + 2, none⟩ = some (.int .i64 x.c) := (hS.cell (p := ⟨b1, _, none⟩) hb1).trans (r 2 _ rfl)
        have p3 : wr.cell? ⟨b1, o1 + k * 5 + 3, none⟩ = some (.int .i64 x.d) := (hS.cell (p := ⟨b1, _, none⟩) hb1).trans (r 3 _ rfl)
        have p4 : wr.cell? ⟨b1, o1 + k * 5 + 4, none⟩ = some (.bool x.done) := (hS.cell (p := ⟨b1, _, none⟩) hb1).trans (r 4 _ rfl)
        have q0 : wr.cell? ⟨b2, o2 + k * 5, none⟩ = some (.int .i64 y.what) := (hS.cell (p := ⟨b2, _, none⟩) hb2).trans (s 0 _ rfl)
        have q1 : wr.cell? ⟨b2, o2 + k * 5 + 1, none⟩ = some (.int .i64 y.deal) := (hS.cell (p := ⟨b2, _, none⟩) hb2).trans (s 1 _ rfl)
        have q2 : wr.cell? ⟨b2, o2 + k * 5 + 2, none⟩ = some (.int .i64 y.c) := (hS.cell (p := ⟨b2, _, none⟩) hb2).trans (s 2 _ rfl)
        have q3 : wr.cell? ⟨b2, o2 + k * 5 + 3, none⟩ = some (.int .i64 y.d) := (hS.cell (p := ⟨b2, _, none⟩) hb2).trans (s 3 _ rfl)
        have q4 : wr.cell? ⟨b2, o2 + k * 5 + 4, none⟩ = some (.bool y.done) := (hS.cell (p := ⟨b2, _, none⟩) hb2).trans (s 4 _ rfl)
        have j0 : (0 : Int) ≤ (k : Int) := by omega
        have j1 : (k : Int) < (na : Int) := by omega
        have j2 : (na : Int) < 2 ^ 62 := by omega
        clear r s hl hm
        cases hq : eqS x y with
        | true =>
          have hq1 : ∀ W : World, (Op.equalIn 10000 51 (.agg #[.int .i64 x.what, .int .i64 x.deal, .int .i64 x.c, .int .i64 x.d, .bool x.done]) (.agg #[.int .i64 y.what, .int .i64 y.deal, .int .i64 y.c, .int .i64 y.d, .bool y.done])).run Try.prog W = .ok true W := fun W => by rw [eqR, hq]
          have HE2 : Hid _ := same5_of k HE.out hc hc' hq
          clear hq hc hc'
          go_wp2_with fail
          go_quiet (fail)
          go_wp2_with fail
          go_roundg (na - (k + 1))
          case measure => omega
          case rel => exact ⟨k + 1, by omega, rfl, by simp, HE2, bdrewN hS _⟩
        | false =>
          have hq1 : ∀ W : World, (Op.equalIn 10000 51 (.agg #[.int .i64 x.what, .int .i64 x.deal, .int .i64 x.c, .int .i64 x.d, .bool x.done]) (.agg #[.int .i64 y.what, .int .i64 y.deal, .int .i64 y.c, .int .i64 y.d, .bool y.done])).run Try.prog W = .ok false W := fun W => by rw [eqR, hq]
          have HE2 : Hid (¬ l = m) := other5_of k hc hc' hq
          clear hq hc hc'
          go_wp2_with fail
          go_quiet (fail)
          go_wp2_with fail
          go_ret
          exact ⟨⟨false, rfl, tells_no HE2.out⟩, bdrewN hS _⟩
      · have hkk : k = na := by omega
        subst hkk
        go_wp2_with fail
        go_ret
        refine ⟨⟨true, rfl, fun _ => ?_, fun _ => rfl⟩, hS⟩
        have q := HE.out
        rw [List.take_of_length_le (by omega), List.take_of_length_le (by omega)] at q
        exact q
  · have hnn : ((na : Int) != (nb : Int)) = true := by simp; omega
    have hne : Hid (¬ l = m) := by intro e; rw [e] at h1; omega
    clear hl hm hn
    go_enter Try.func27, Try.ntmps27
    go_wp2_with fail
    go_ret
    exact ⟨⟨false, rfl, tells_no hne.out⟩, Below.refl _ _⟩

end Go.Proofs.Ytbgnajcmhmpjlab
