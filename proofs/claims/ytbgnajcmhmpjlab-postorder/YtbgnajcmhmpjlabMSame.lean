/- The contract of SameMail. -/
import Derived.Test.YtbgnajcmhmpjlabMIn
import Derived.BigQuiet
namespace Go.Proofs.Ytbgnajcmhmpjlab
open Go.RowKit

theorem same6_of {l m : List Ml} (k : Nat) (h : l.take k = m.take k) {c c' : Ml} (h1 : l[k]? = some c) (h2 : m[k]? = some c') (he : eqM c c' = true) : l.take (k + 1) = m.take (k + 1) := by
  rw [take_snoc h1, take_snoc h2, h, eqM_iff.1 he]
theorem other6_of {l m : List Ml} (k : Nat) {c c' : Ml} (h1 : l[k]? = some c) (h2 : m[k]? = some c') (he : eqM c c' = false) : ¬ l = m := by
  intro e
  rw [e, h2] at h1
  rw [eqM_iff.2 (Option.some.inj h1).symm] at he
  cases he

/-- A Bool that tells whether two lists are the same. -/
def TellsM (b : Bool) (l m : List Ml) : Prop := b = true ↔ l = m
theorem tellsM_no {l m : List Ml} (h : ¬ l = m) : TellsM false l m := ⟨fun q => (nomatch q), fun q => absurd q h⟩

set_option maxHeartbeats 1000000 in
theorem sameMail_any (la lb : Option Addr) (na nb ca cb : Nat) (l m : List Ml) (w : World) (hl : MailsAt w la l) (hm : MailsAt w lb m) (h1 : l.length = na) (h2 : m.length = nb) (hs : na < 2 ^ 62) :
    Calls Try.prog 39 #[.slice la na ca, .slice lb nb cb] w fun e w' => (∃ b, e = .returned (.bool b) ∧ TellsM b l m) ∧ Below w.heap.size w w' := by
  by_cases hn : na = nb
  · subst hn
    have hnn : ((na : Int) != (na : Int)) = false := by simp
    go_enter Try.func39, Try.ntmps39
    go_wp2_with fail
    go_loopg [5] na (fun g i wr => ∃ k : Nat, k ≤ na ∧ g = na - k ∧ i = .int .i64 k ∧ Hid (l.take k = m.take k) ∧ Below w.heap.size w wr)
    case atStart => exact ⟨0, Nat.zero_le _, rfl, rfl, rfl, Below.refl _ _⟩
    case round =>
      obtain ⟨k, hk, rfl, rfl, HE, hS⟩ := hrel
      by_cases hlt : k < na
      · obtain ⟨x, hc⟩ : ∃ x, l[k]? = some x := ⟨_, List.getElem?_eq_getElem (by omega)⟩
        obtain ⟨y, hc'⟩ : ∃ x, m[k]? = some x := ⟨_, List.getElem?_eq_getElem (by omega)⟩
        obtain ⟨b1, o1, rfl, hb1, r⟩ := hl k x hc
        obtain ⟨b2, o2, rfl, hb2, s⟩ := hm k y hc'
        have p0 : wr.cell? ⟨b1, o1 + k * 6, none⟩ = some (.int .i64 x.kind) := (hS.cell (p := ⟨b1, _, none⟩) hb1).trans (r 0 _ rfl)
        have p1 : wr.cell? ⟨b1, o1 + k * 6 + 1, none⟩ = some (.int .i64 x.deal) := (hS.cell (p := ⟨b1, _, none⟩) hb1).trans (r 1 _ rfl)
        have p2 : wr.cell? ⟨b1, o1 + k * 6 + 2, none⟩ = some (.int .i64 x.shop) := (hS.cell (p := ⟨b1, _, none⟩) hb1).trans (r 2 _ rfl)
        have p3 : wr.cell? ⟨b1, o1 + k * 6 + 3, none⟩ = some (.int .i64 x.c) := (hS.cell (p := ⟨b1, _, none⟩) hb1).trans (r 3 _ rfl)
        have p4 : wr.cell? ⟨b1, o1 + k * 6 + 4, none⟩ = some (.int .i64 x.d) := (hS.cell (p := ⟨b1, _, none⟩) hb1).trans (r 4 _ rfl)
        have p5 : wr.cell? ⟨b1, o1 + k * 6 + 5, none⟩ = some (.bool x.yes) := (hS.cell (p := ⟨b1, _, none⟩) hb1).trans (r 5 _ rfl)
        have q0 : wr.cell? ⟨b2, o2 + k * 6, none⟩ = some (.int .i64 y.kind) := (hS.cell (p := ⟨b2, _, none⟩) hb2).trans (s 0 _ rfl)
        have q1 : wr.cell? ⟨b2, o2 + k * 6 + 1, none⟩ = some (.int .i64 y.deal) := (hS.cell (p := ⟨b2, _, none⟩) hb2).trans (s 1 _ rfl)
        have q2 : wr.cell? ⟨b2, o2 + k * 6 + 2, none⟩ = some (.int .i64 y.shop) := (hS.cell (p := ⟨b2, _, none⟩) hb2).trans (s 2 _ rfl)
        have q3 : wr.cell? ⟨b2, o2 + k * 6 + 3, none⟩ = some (.int .i64 y.c) := (hS.cell (p := ⟨b2, _, none⟩) hb2).trans (s 3 _ rfl)
        have q4 : wr.cell? ⟨b2, o2 + k * 6 + 4, none⟩ = some (.int .i64 y.d) := (hS.cell (p := ⟨b2, _, none⟩) hb2).trans (s 4 _ rfl)
        have q5 : wr.cell? ⟨b2, o2 + k * 6 + 5, none⟩ = some (.bool y.yes) := (hS.cell (p := ⟨b2, _, none⟩) hb2).trans (s 5 _ rfl)
        have j0 : (0 : Int) ≤ (k : Int) := by omega
        have j1 : (k : Int) < (na : Int) := by omega
        have j2 : (na : Int) < 2 ^ 62 := by omega
        clear r s hl hm
        cases hq : eqM x y with
        | true =>
          have hq1 : ∀ W : World, (Op.equalIn 10000 71 (.agg #[.int .i64 x.kind, .int .i64 x.deal, .int .i64 x.shop, .int .i64 x.c, .int .i64 x.d, .bool x.yes]) (.agg #[.int .i64 y.kind, .int .i64 y.deal, .int .i64 y.shop, .int .i64 y.c, .int .i64 y.d, .bool y.yes])).run Try.prog W = .ok true W := fun W => by rw [eqMl, hq]
          have HE2 : Hid _ := same6_of k HE.out hc hc' hq
          clear hq hc hc'
          go_wp2_with fail
          go_quiet (fail)
          go_wp2_with fail
          go_roundg (na - (k + 1))
          case measure => omega
          case rel => exact ⟨k + 1, by omega, rfl, by simp, HE2, bdrewN hS _⟩
        | false =>
          have hq1 : ∀ W : World, (Op.equalIn 10000 71 (.agg #[.int .i64 x.kind, .int .i64 x.deal, .int .i64 x.shop, .int .i64 x.c, .int .i64 x.d, .bool x.yes]) (.agg #[.int .i64 y.kind, .int .i64 y.deal, .int .i64 y.shop, .int .i64 y.c, .int .i64 y.d, .bool y.yes])).run Try.prog W = .ok false W := fun W => by rw [eqMl, hq]
          have HE2 : Hid (¬ l = m) := other6_of k hc hc' hq
          clear hq hc hc'
          go_wp2_with fail
          go_quiet (fail)
          go_wp2_with fail
          go_ret
          exact ⟨⟨false, rfl, tellsM_no HE2.out⟩, bdrewN hS _⟩
      · have hkk : k = na := by omega
        subst hkk
        go_wp2_with fail
        go_ret
        refine ⟨⟨true, rfl, fun _ => ?_, fun _ => rfl⟩, hS⟩
        have q := HE.out
        rw [List.take_of_length_le (by omega), List.take_of_length_le (by omega)] at q
        exact q
  · have hnn : ((na : Int) != (nb : Int)) = true := by simp; omega
    have hne : Hid (¬ l = m) := by intro e; rw [e] at h1; omega
    clear hl hm hn
    go_enter Try.func39, Try.ntmps39
    go_wp2_with fail
    go_ret
    exact ⟨⟨false, rfl, tellsM_no hne.out⟩, Below.refl _ _⟩

end Go.Proofs.Ytbgnajcmhmpjlab
