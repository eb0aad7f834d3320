/- A town in memory: a broker's place, what the counters had first, the clerks' places, the post's; what a step of it leaves; a town that is being made. -/
import Derived.Test.YtbgnajcmhmpjlacGreatA5

/- The deals that were done could have been done one behind the other, as they were decided. No program is named here. -/
namespace Go.Proofs.YtbgnajcmhmpjlacGreat
open Go.RowKit

def serR (B : Bok) (ws : Nat → Int) : List Int → (Nat → Int) × Int
  | [] => (ws, 0)
  | n :: r => if (appW ws (wantsR B n)).2.1 = 0 then serR B (appW ws (wantsR B n)).1 r else (noW, (appW ws (wantsR B n)).2.1)
theorem serR_snoc (B : Bok) (n : Int) : ∀ (a : List Int) (ws : Nat → Int), (serR B ws a).2 = 0 → serR B ws (a ++ [n]) = serR B (serR B ws a).1 [n] := by
  intro a
  induction a with
  | nil => intro ws _; rfl
  | cons x r ih =>
    intro ws h
    by_cases hz : (appW ws (wantsR B x)).2.1 = 0
    · have e : ∀ t, serR B ws (x :: t) = serR B (appW ws (wantsR B x)).1 t := fun t => by
        show (if (appW ws (wantsR B x)).2.1 = 0 then _ else _) = _
        rw [if_pos hz]
      rw [e] at h ⊢
      show serR B ws (x :: (r ++ [n])) = _
      rw [e]
      exact ih _ h
    · have e : serR B ws (x :: r) = (noW, (appW ws (wantsR B x)).2.1) := by
        show (if (appW ws (wantsR B x)).2.1 = 0 then _ else _) = _
        rw [if_neg hz]
      rw [e] at h
      exact absurd h hz
theorem serR_congr {B B' : Bok} {l : List Int} (h : ∀ n ∈ l, wantsR B' n = wantsR B n) : ∀ ws, serR B' ws l = serR B ws l := by
  induction l with
  | nil => intro ws; rfl
  | cons x r ih =>
    intro ws
    simp only [serR]
    rw [h x (by simp), ih (fun n hn => h n (by simp [hn]))]
def curR (w0 : Nat → Int) (T : Twn) : Nat → Int := fun k => w0 k + sumD (fun n => dOf (wantsR T.B n) k) T.B.ord
def SerOk (w0 : Nat → Int) (T : Twn) : Prop := serR T.B w0 T.B.ord = (curR w0 T, 0)
theorem Inv.cur {w0 : Nat → Int} {T : Twn} (h : Inv w0 T) {k : Nat} (hk : k < 6) : curR w0 T k = valT T k + sumD (fun n => gain n true (T.P (k / 2)).A.hs (k : Int)) T.B.ord := by
  unfold curR
  rw [h.vals k hk, Int.add_assoc, ← sumD_add]
  congr 1
  refine sumD_congr (fun n hn => ?_)
  obtain ⟨D, hD, h1⟩ := (h.ord n).1 hn
  have hs : k / 2 < 3 := by omega
  have hfit := h.fit D (dealAt_mem hD)
  have hgood := (h.pens _ hs).good
  unfold doneAt
  rw [wantsR_some hD]
  by_cases ho : over (T.P (k / 2)).A.es n = some true
  · rw [if_pos ho, gain_none]
    · omega
    · rintro ⟨a, b, d⟩ hx ⟨e1, _⟩
      have := (hgood.each _ hx).2.2.2.2
      simp only at e1 this
      rw [e1, ho] at this
      cases this
  · rw [if_neg ho, gain_wants (h.apart _ hs) hfit.apart (fun d hd => ?_) (fun d hd => ?_)]
    · omega
    · have hsh : (shp (k : Int)).toNat = k / 2 := by
        obtain ⟨_, _, _, _, q⟩ := hfit.shop hd
        rw [q]; omega
      rcases h.done n D hD h1 _ d hd with q | q
      · rw [hsh] at q; exact q
      · rw [hsh] at q; exact absurd q ho
    · obtain ⟨D', hD', q⟩ := h.hold _ hs _ _ _ hd
      rw [hD] at hD'
      obtain rfl := Option.some.inj hD'
      exact q
theorem Inv.count {w0 : Nat → Int} {T : Twn} (h : Inv w0 T) {k : Nat} (hk : k < 6) : 0 ≤ outs (T.P (k / 2)).A.hs (k : Int) ∧ outs (T.P (k / 2)).A.hs (k : Int) ≤ valT T k ∧ 0 ≤ inns (T.P (k / 2)).A.hs (k : Int) ∧ valT T k + inns (T.P (k / 2)).A.hs (k : Int) ≤ 100 := by
  have hs : k / 2 < 3 := by omega
  have hg := h.pens _ hs
  have hno : (T.P (k / 2)).A.no = ((k / 2 : Nat) : Int) := hg.no
  have hc := hg.good.cnt (k % 2) (by omega)
  unfold Bk.out Bk.inn at hc
  have e : (T.P (k / 2)).A.no * 2 + ((k % 2 : Nat) : Int) = (k : Int) := by rw [hno]; omega
  rw [e] at hc
  obtain ⟨_, _, a, b, c, d⟩ := chk_ok hc
  exact ⟨a, b, c, d⟩
theorem Inv.can {w0 : Nat → Int} {T : Twn} (h : Inv w0 T) {n : Int} {D : Dl} (hd : dealAt T.B n = some D) (h0 : D.st = 0) (hall : ∀ c d, (c, d) ∈ D.w → (n, c, d) ∈ (T.P (shp c).toNat).A.hs) : Can (curR w0 T) D.w := by
  have hfit := h.fit D (dealAt_mem hd)
  have hnin : n ∉ T.B.ord := fun q => by
    obtain ⟨D', hD', q1⟩ := (h.ord n).1 q
    rw [hd] at hD'
    obtain rfl := Option.some.inj hD'
    omega
  refine ⟨hfit, ?_⟩
  rintro ⟨c, d⟩ hx
  obtain ⟨c0, c6, s0, s3, sh⟩ := hfit.shop hx
  obtain ⟨k, rfl⟩ : ∃ k : Nat, c = (k : Int) := ⟨c.toNat, by omega⟩
  have hk : k < 6 := by omega
  have hsh : (shp (k : Int)).toNat = k / 2 := by rw [sh]; omega
  have hheld := hall _ d hx
  rw [hsh] at hheld
  have hg := gain_one (h.apart (k / 2) (by omega)) hheld
  have hcur := h.cur hk
  obtain ⟨b1, b2⟩ := gain_bounds (T.P (k / 2)).A.hs (k : Int) h.nd
  obtain ⟨b3, b4⟩ := gain_bounds (T.P (k / 2)).A.hs (k : Int) (List.nodup_cons.2 ⟨hnin, h.nd⟩)
  simp only [sumD] at b3 b4
  rw [hg] at b3 b4
  obtain ⟨a1, a2, a3, a4⟩ := h.count hk
  simp only [Int.toNat_natCast]
  refine mor_of ?_ ?_ ?_ ?_
  · omega
  · omega
  · omega
  · omega
theorem Inv.ser_book {w0 : Nat → Int} {T : Twn} {B' : Bok} (h : Inv w0 T) (hL : Later T.B B') (ho : B'.ord = T.B.ord) (hs : SerOk w0 T) : SerOk w0 { T with B := B' } := by
  have hw : ∀ n ∈ T.B.ord, wantsR B' n = wantsR T.B n := fun n hn => by
    obtain ⟨D, hD, _⟩ := (h.ord n).1 hn
    exact wants_later hL hD
  unfold SerOk curR at hs ⊢
  show serR B' w0 B'.ord = _
  rw [ho, serR_congr hw, hs]
  congr 1
  funext k
  show w0 k + sumD _ T.B.ord = w0 k + sumD (fun n => dOf (wantsR B' n) k) T.B.ord
  rw [sumD_congr (f := fun n => dOf (wantsR B' n) k) (fun n hn => by rw [hw n hn])]
theorem SerOk.same {w0 : Nat → Int} {T T' : Twn} (hs : SerOk w0 T) (e : T'.B = T.B) : SerOk w0 T' := by
  unfold SerOk curR at hs ⊢
  rw [e]; exact hs
theorem Inv.ser_hear {w0 : Nat → Int} {T : Twn} (h : Inv w0 T) {m : Ml} (hm : MailOk T.B T.P m) (hser : SerOk w0 T) : SerOk w0 { T with B := hearR T.B m } := by
  rcases hearR_cases T.B m with e | ⟨D, i, hd, h0, hk, hs, hw, hc⟩ | ⟨D, hd, h0, hk, hs, ho, e⟩
  · rw [e]; exact hser
  · rcases hc with ⟨_, e⟩ | ⟨hy, _, e⟩ | ⟨hy, hl, e⟩
    · rw [e]; exact h.ser_book (later_put hd rfl (fun q => absurd h0 q)) rfl hser
    · rw [e]; exact h.ser_book (later_put hd rfl (fun q => absurd h0 q)) rfl hser
    · have hmem : (m.c, m.d) ∈ D.w := List.mem_of_getElem? hw
      obtain ⟨_, _, s0, s3, _⟩ := (h.fit D (dealAt_mem hd)).shop hmem
      have hheld : (m.deal, m.c, m.d) ∈ (T.P (shp m.c).toNat).A.hs := by
        obtain ⟨q0, q3, D', hD', hcs⟩ := hm
        rcases hcs with ⟨a, _⟩ | ⟨_, _, q, hq⟩ | ⟨a, _⟩ | ⟨a, _⟩
        · omega
        · rcases hq hy with r | r
          · rw [hs]; exact r
          · rw [h.open_none hd h0 (by omega)] at r; cases r
        · omega
        · omega
      have hall := (h.decide hd h0 (addI_nodup (h.ynd D (dealAt_mem hd)) _) hl (fun j hj => by
        rcases addI_mem.1 hj with q | q
        · obtain ⟨k, c, d, e1, e2, e3⟩ := h.yes _ D hd j q
          exact ⟨k, c, d, e1, e2, e3 h0⟩
        · exact ⟨i, m.c, m.d, q, hw, hheld⟩)).2
      have hcan := h.can hd h0 hall
      have hL : Later T.B { putD T.B m.deal { D with yes := addI D.yes i, st := 1 } with ord := T.B.ord ++ [m.deal] } := later_put hd rfl (fun q => absurd h0 q)
      rw [e]
      have hw2 : ∀ n ∈ T.B.ord, wantsR { putD T.B m.deal { D with yes := addI D.yes i, st := 1 } with ord := T.B.ord ++ [m.deal] } n = wantsR T.B n := fun n hn => by
        obtain ⟨E, hE, _⟩ := (h.ord n).1 hn
        exact wants_later hL hE
      have hwn : wantsR { putD T.B m.deal { D with yes := addI D.yes i, st := 1 } with ord := T.B.ord ++ [m.deal] } m.deal = D.w := by rw [wants_later hL hd, wantsR_some hd]
      have hser' := hser
      unfold SerOk at hser'
      have hz : (serR { putD T.B m.deal { D with yes := addI D.yes i, st := 1 } with ord := T.B.ord ++ [m.deal] } w0 T.B.ord) = (curR w0 T, 0) := by rw [serR_congr hw2, hser']
      unfold SerOk
      show serR _ w0 (T.B.ord ++ [m.deal]) = _
      rw [serR_snoc _ _ _ _ (by rw [hz]), hz]
      simp only [serR]
      rw [hwn, app_can hcan, if_pos rfl]
      congr 1
      funext k
      show curR w0 T k + dOf D.w k = w0 k + sumD (fun n => dOf (wantsR _ n) k) (T.B.ord ++ [m.deal])
      rw [sumD_append, sumD_congr (g := fun n => dOf (wantsR T.B n) k) (fun n hn => by rw [hw2 n hn])]
      simp only [sumD]
      rw [hwn]
      unfold curR
      omega
  · rw [e]; exact h.ser_book (later_put hd rfl (fun _ => rfl)) rfl hser
theorem Inv.ser_come {w0 : Nat → Int} {T : Twn} (h : Inv w0 T) {x : Ml} (hx : MailOk T.B T.P x) (hser : SerOk w0 T) : SerOk w0 (comeR T x) := by
  unfold comeR
  split
  · exact h.ser_hear hx hser
  · split
    · exact hser.same rfl
    · exact hser
theorem Inv.ser_deliv {w0 : Nat → Int} {T : Twn} (h : Inv w0 T) (hser : SerOk w0 T) (n : Int) : SerOk w0 (delivR T n).2 := by
  unfold delivR
  obtain ⟨h1, h2⟩ := take_ok h.mail n
  by_cases ht : (takeR T.M n).2.1 = true
  · rw [if_pos ht]
    exact (h.less h1 (takeR_len T.M n h.mlen)).ser_come (h2 ht) (hser.same rfl)
  · rw [if_neg ht]; exact hser
theorem later_crash (B : Bok) : Later B (crashR B) := by
  intro n D hD
  refine ⟨crashD D, by rw [dealAt_crashT, hD]; rfl, rfl, fun q => ?_⟩
  unfold crashD
  simp only
  rw [if_neg q]
theorem later_quit (B : Bok) (n : Int) : Later B (quitR B n).2 ∧ (quitR B n).2.ord = B.ord := by
  unfold quitR
  cases hd : dealAt B n with
  | none => exact ⟨Later.refl _, rfl⟩
  | some D =>
    simp only
    by_cases h0 : D.st = 0
    · rw [if_pos h0]; exact ⟨later_put hd rfl (fun q => absurd h0 q), rfl⟩
    · rw [if_neg h0]; exact ⟨Later.refl _, rfl⟩
theorem later_begin (B : Bok) (l : List (Int × Int)) : Later B (beginR B l).2.2 ∧ (beginR B l).2.2.ord = B.ord := by
  unfold beginR
  split
  · split
    · exact ⟨Later.refl _, rfl⟩
    · refine ⟨fun n D hD => ⟨D, ?_, rfl, fun _ => rfl⟩, rfl⟩
      show dealAt { B with L := B.L ++ [⟨l, 0, [], []⟩] } n = some D
      rw [dealAt_begin, if_neg (fun e => ?_)]
      · exact hD
      · rw [e, dealAt_nat, List.getElem?_eq_none (Nat.le_refl _)] at hD
        cases hD
  · exact ⟨Later.refl _, rfl⟩
theorem Inv.ser_step {w0 : Nat → Int} {T : Twn} (h : Inv w0 T) (hser : SerOk w0 T) (x : TSp) : SerOk w0 (townR T x).2 := by
  unfold townR
  split
  · exact h.ser_book (later_begin T.B x.w).1 (later_begin T.B x.w).2 hser
  · split
    · exact hser.same rfl
    · split
      · exact h.ser_deliv hser x.n
      · split
        · exact hser.same rfl
        · split
          · exact hser.same rfl
          · split
            · exact h.ser_book (later_quit T.B x.n).1 (later_quit T.B x.n).2 hser
            · split
              · exact hser
              · split
                · exact h.ser_book (later_crash T.B) rfl hser
                · exact hser
theorem ser_new (w0 : Nat → Int) (P : Nat → Kb) : SerOk w0 ⟨⟨[], []⟩, P, []⟩ := by
  unfold SerOk curR
  show (w0, (0 : Int)) = _
  congr 1
  funext k
  simp [sumD]

end Go.Proofs.YtbgnajcmhmpjlacGreat

namespace Go.Proofs.YtbgnajcmhmpjlacGreat
open Go.RowKit

def drainR : Nat → Twn → Twn
  | 0, T => T
  | f + 1, T => if T.M.length = 0 then T else drainR f (delivR T 0).2
def wtM (m : Ml) : Nat := if m.kind = 2 ∨ m.kind = 4 then 1 else 2
def wtL : List Ml → Nat
  | [] => 0
  | m :: r => wtM m + wtL r
theorem wtL_append (a b : List Ml) : wtL (a ++ b) = wtL a + wtL b := by
  induction a with
  | nil => simp [wtL]
  | cons x r ih => simp only [List.cons_append, wtL, ih]; omega
theorem wtL_le (l : List Ml) : wtL l ≤ 2 * l.length := by
  induction l with
  | nil => simp [wtL]
  | cons x r ih =>
    have : wtM x ≤ 2 := by unfold wtM; split <;> omega
    simp only [wtL, List.length_cons]
    omega
theorem take_first (m : Ml) (r : List Ml) : takeR (m :: r) 0 = (m, true, r) := by
  have e : rnd 0 (m :: r).length = 0 := by unfold rnd; simp
  have h : (m :: r)[rnd 0 (m :: r).length]? = some m := by rw [e]; rfl
  rw [takeR_some h, e]
  rfl
theorem deliv_first {T : Twn} {m : Ml} {r : List Ml} (h : T.M = m :: r) : (delivR T 0).2 = comeR { T with M := r } m := by
  unfold delivR
  rw [h, take_first]
  rfl
theorem sendR_room6 {l : List Ml} {m : Ml} (h : ¬ 40 ≤ l.length) : (sendR l m).2 = l ++ [m] := by unfold sendR; rw [if_neg h]
theorem come_mail (T : Twn) (m : Ml) (hl : T.M.length < 40) : (comeR T m).M = T.M ∨ ∃ y, (comeR T m).M = T.M ++ [y] ∧ (y.kind = 2 ∨ y.kind = 4) ∧ ¬ (m.kind = 2 ∨ m.kind = 4) := by
  unfold comeR
  split
  · exact .inl rfl
  · rename_i hk
    split
    · by_cases ho : (ansR m.shop (T.P m.shop.toNat) m).2.1 = true
      · right
        refine ⟨(ansR m.shop (T.P m.shop.toNat) m).1, ?_, ?_, hk⟩
        · show (if (ansR m.shop (T.P m.shop.toNat) m).2.1 = true then _ else _) = _
          rw [if_pos ho, sendR_room6 (by omega)]
        · by_cases h1 : m.kind = 1
          · rw [ans_ask rfl h1]; exact .inl rfl
          · by_cases h3 : m.kind = 3
            · by_cases hz : (doR (T.P m.shop.toNat) (endS m)).1 = 0
              · rw [ans_end rfl h3 hz]; exact .inr rfl
              · rw [ans_noend rfl h3 hz] at ho; cases ho
            · rw [ans_kind rfl h1 h3] at ho; cases ho
      · left
        show (if (ansR m.shop (T.P m.shop.toNat) m).2.1 = true then _ else _) = _
        rw [if_neg ho]
    · exact .inl rfl
theorem drain_ends {w0 : Nat → Int} {R : Twn → Prop} (hstep : ∀ (T : Twn) (m : Ml) (r : List Ml), Inv w0 T → T.M = m :: r → R T → R (comeR { T with M := r } m)) : ∀ (f : Nat) (T : Twn), Inv w0 T → R T → wtL T.M ≤ f → (drainR f T).M = [] ∧ Inv w0 (drainR f T) ∧ R (drainR f T) := by
  intro f
  induction f with
  | zero =>
    intro T h hR hf
    refine ⟨?_, h, hR⟩
    show T.M = []
    cases hM : T.M with
    | nil => rfl
    | cons m r =>
      rw [hM] at hf
      have : 1 ≤ wtM m := by unfold wtM; split <;> omega
      simp only [wtL] at hf
      omega
  | succ f ih =>
    intro T h hR hf
    cases hM : T.M with
    | nil =>
      have e : drainR (f + 1) T = T := by
        show (if T.M.length = 0 then _ else _) = _
        rw [if_pos (by rw [hM]; rfl)]
      rw [e]
      exact ⟨hM, h, hR⟩
    | cons m r =>
      have e : drainR (f + 1) T = drainR f (comeR { T with M := r } m) := by
        show (if T.M.length = 0 then _ else _) = _
        rw [if_neg (by rw [hM]; simp), deliv_first hM]
      rw [e]
      have hd := h.deliv 0
      rw [deliv_first hM] at hd
      refine ih _ hd (hstep T m r h hM hR) ?_
      have hl : ({ T with M := r } : Twn).M.length < 40 := by
        have := h.mlen
        rw [hM] at this
        simp only [List.length_cons] at this
        show r.length < 40
        omega
      rw [hM] at hf
      simp only [wtL] at hf
      rcases come_mail { T with M := r } m hl with q | ⟨y, q, hy, hn⟩
      · rw [q]
        have : 1 ≤ wtM m := by unfold wtM; split <;> omega
        show wtL r ≤ f
        omega
      · rw [q, wtL_append]
        have e1 : wtM m = 2 := by unfold wtM; rw [if_neg hn]
        have e2 : wtL [y] = 1 := by simp only [wtL]; unfold wtM; rw [if_pos hy]
        show wtL r + wtL [y] ≤ f
        omega

def Part (B : Bok) : Prop := ∀ D ∈ B.L, D.st = 0 → D.yes.length ≠ D.w.length
theorem part_put {B : Bok} {n : Int} {D' : Dl} (h : Part B) (hd : D'.st = 0 → D'.yes.length ≠ D'.w.length) : Part (putD B n D') := by
  intro E hE h0
  rcases put_mem hE with q | q
  · exact h E q h0
  · rw [q] at h0 ⊢; exact hd h0
theorem part_hear {B : Bok} (h : Part B) (m : Ml) : Part (hearR B m) := by
  rcases hearR_cases B m with e | ⟨D, i, hd, h0, _, _, _, hc⟩ | ⟨D, hd, h0, _, _, _, e⟩
  · rw [e]; exact h
  · rcases hc with ⟨_, e⟩ | ⟨_, hl, e⟩ | ⟨_, _, e⟩
    · rw [e]; exact part_put h (fun q => absurd (show (2 : Int) = 0 from q) (by decide))
    · rw [e]; exact part_put h (fun _ => hl)
    · rw [e]
      intro E hE
      exact part_put (n := m.deal) (D' := { D with yes := addI D.yes i, st := 1 }) h (fun q => absurd (show (1 : Int) = 0 from q) (by decide)) E hE
  · rw [e]; exact part_put h (fun q => absurd q h0)
theorem part_come {T : Twn} (h : Part T.B) (m : Ml) : Part (comeR T m).B := by
  unfold comeR
  split
  · exact part_hear h m
  · split
    · exact h
    · exact h
theorem part_step {w0 : Nat → Int} {T : Twn} (hI : Inv w0 T) (h : Part T.B) (x : TSp) : Part (townR T x).2.B := by
  unfold townR
  split
  · show Part (beginR T.B x.w).2.2
    unfold beginR
    split
    · rename_i hf
      split
      · exact h
      · intro E hE h0
        rcases List.mem_append.1 hE with q | q
        · exact h E q h0
        · rw [List.mem_singleton.1 q]
          have := (fit_iff.1 hf).pos
          show (0 : Nat) ≠ x.w.length
          omega
    · exact h
  · split
    · exact h
    · split
      · unfold delivR
        split
        · exact part_come (T := { T with M := (takeR T.M x.n).2.2 }) h _
        · exact h
      · split
        · exact h
        · split
          · exact h
          · split
            · show Part (quitR T.B x.n).2
              unfold quitR
              cases hd : dealAt T.B x.n with
              | none => exact h
              | some D =>
                simp only
                split
                · exact part_put h (fun q => absurd (show (2 : Int) = 0 from q) (by decide))
                · exact h
            · split
              · exact h
              · split
                · intro E hE h0
                  obtain ⟨D, hD, rfl⟩ := List.mem_map.1 hE
                  have := hI.st D hD
                  unfold crashD at h0
                  simp only at h0
                  split at h0 <;> omega
                · exact h

end Go.Proofs.YtbgnajcmhmpjlacGreat

namespace Go.Proofs.YtbgnajcmhmpjlacGreat
open Go.RowKit

def AskedAll (T : Twn) : Prop := ∀ n D, dealAt T.B n = some D → D.st = 0 → ∀ (k : Nat) (c d : Int), D.w[k]? = some (c, d) → (k : Int) ∉ D.yes → ∃ m ∈ T.M, m.deal = n ∧ m.c = c ∧ m.d = d ∧ (m.kind = 1 ∨ m.kind = 2)
def AllDec (B : Bok) : Prop := ∀ D ∈ B.L, D.st ≠ 0
def ToldAll (T : Twn) : Prop := ∀ n D, dealAt T.B n = some D → ∀ s ∈ shopsL D.w, s ∉ D.ov → ∃ m ∈ T.M, m.deal = n ∧ m.shop = s ∧ (m.kind = 3 ∨ m.kind = 4)

theorem sendAll_room : ∀ {r l : List Ml}, l.length + r.length ≤ 40 → sendAll l r = l ++ r := by
  intro r
  induction r with
  | nil => intro l _; simp [sendAll]
  | cons m r ih =>
    intro l h
    simp only [List.length_cons] at h
    show sendAll (sendR l m).2 r = _
    rw [sendR_room6 (by omega), ih (by simp; omega)]
    simp
theorem Inv.tick_all {w0 : Nat → Int} {T : Twn} (h : Inv w0 T) (hM : T.M = []) : (tickR T).M = dueR T.B := by
  show sendAll T.M (dueR T.B) = _
  rw [hM, sendAll_room]
  · rfl
  · have h1 : (dueR T.B).length ≤ 4 * T.B.L.length := dues_len h.fit
    have := h.len
    simp only [List.length_nil]
    omega
theorem Inv.tick_asked {w0 : Nat → Int} {T : Twn} (h : Inv w0 T) (hM : T.M = []) : AskedAll (tickR T) := by
  intro n D hD h0 k c d hw hn
  refine ⟨⟨1, n, shp c, c, d, false⟩, ?_, rfl, rfl, rfl, .inl rfl⟩
  rw [h.tick_all hM]
  refine mem_due hD ?_
  unfold dueD
  rw [if_pos h0]
  exact asks_in hw (by simpa using hn)
theorem Inv.tick_told {w0 : Nat → Int} {T : Twn} (h : Inv w0 T) (hM : T.M = []) (hA : AllDec T.B) : ToldAll (tickR T) := by
  intro n D hD s hs ho
  refine ⟨⟨3, n, s, 0, 0, D.st == 1⟩, ?_, rfl, rfl, .inl rfl⟩
  rw [h.tick_all hM]
  refine mem_due hD ?_
  unfold dueD
  rw [if_neg (hA D (dealAt_mem hD))]
  unfold endsR
  exact List.mem_map.2 ⟨s, List.mem_filter.2 ⟨hs, by simpa using ho⟩, rfl⟩
theorem fit_idx {w : List (Int × Int)} (h : Fit w) {i k : Nat} {c d d' : Int} (h1 : w[i]? = some (c, d)) (h2 : w[k]? = some (c, d')) : i = k := by
  obtain ⟨hi, e1⟩ := List.getElem?_eq_some_iff.1 h1
  obtain ⟨hk, e2⟩ := List.getElem?_eq_some_iff.1 h2
  have hp := List.pairwise_iff_getElem.1 h.apart
  apply Classical.byContradiction
  intro hne
  rcases Nat.lt_or_gt_of_ne hne with q | q
  · exact hp i k hi hk q (by rw [e1, e2])
  · exact hp k i hk hi q (by rw [e1, e2])
theorem hear_deal {B : Bok} {m : Ml} {n : Int} {D' : Dl} (h : dealAt (hearR B m) n = some D') : ∃ D, dealAt B n = some D ∧ D'.w = D.w ∧ (D'.st = 0 → D.st = 0) ∧ (∀ i ∈ D.yes, i ∈ D'.yes) ∧ (∀ s ∈ D.ov, s ∈ D'.ov) := by
  have hput : ∀ {D E : Dl}, dealAt B m.deal = some D → E.w = D.w → (E.st = 0 → D.st = 0) → (∀ i ∈ D.yes, i ∈ E.yes) → (∀ s ∈ D.ov, s ∈ E.ov) → dealAt (putD B m.deal E) n = some D' → ∃ D, dealAt B n = some D ∧ D'.w = D.w ∧ (D'.st = 0 → D.st = 0) ∧ (∀ i ∈ D.yes, i ∈ D'.yes) ∧ (∀ s ∈ D.ov, s ∈ D'.ov) := by
    intro D E hd h1 h2 h3 h4 hq
    rw [dealAt_put hd] at hq
    by_cases e : n = m.deal
    · rw [if_pos e] at hq
      obtain rfl := Option.some.inj hq
      exact ⟨D, by rw [e]; exact hd, h1, h2, h3, h4⟩
    · rw [if_neg e] at hq
      exact ⟨D', hq, rfl, id, fun _ q => q, fun _ q => q⟩
  rcases hearR_cases B m with e | ⟨D, i, hd, h0, _, _, _, hc⟩ | ⟨D, hd, h0, _, _, _, e⟩
  · rw [e] at h
    exact ⟨D', h, rfl, id, fun _ q => q, fun _ q => q⟩
  · rcases hc with ⟨_, e⟩ | ⟨_, _, e⟩ | ⟨_, _, e⟩
    · rw [e] at h
      exact hput (E := { D with st := 2 }) hd rfl (fun _ => h0) (fun _ q => q) (fun _ q => q) h
    · rw [e] at h
      exact hput (E := { D with yes := addI D.yes i }) hd rfl (fun _ => h0) (fun _ q => addI_mem.2 (.inl q)) (fun _ q => q) h
    · rw [e] at h
      exact hput (E := { D with yes := addI D.yes i, st := 1 }) hd rfl (fun _ => h0) (fun _ q => addI_mem.2 (.inl q)) (fun _ q => q) h
  · rw [e] at h
    exact hput (E := { D with ov := D.ov ++ [m.shop] }) hd rfl (fun q => q) (fun _ q => q) (fun _ q => List.mem_append_left _ q) h
theorem hear_say {B : Bok} {m : Ml} {D : Dl} {k : Nat} (hd : dealAt B m.deal = some D) (hf : Fit D.w) (hk : m.kind = 2) (hs : m.shop = shp m.c) (hw : D.w[k]? = some (m.c, m.d)) {D' : Dl} (hD' : dealAt (hearR B m) m.deal = some D') (h0' : D'.st = 0) : (k : Int) ∈ D'.yes := by
  obtain ⟨E, hE, _, hst, _⟩ := hear_deal hD'
  rw [hd] at hE
  obtain rfl := Option.some.inj hE
  have h0 := hst h0'
  obtain ⟨i, hq⟩ : ∃ i, wantAt D.w m.c m.d = some i := by
    cases hq : wantAt D.w m.c m.d with
    | none => exact absurd (List.mem_of_getElem? hw) (wantAt_none hq)
    | some i => exact ⟨i, rfl⟩
  have hik : i = k := fit_idx hf (wantAt_some hq) hw
  subst hik
  have hh : hearR B m = if m.yes = true then (if (addI D.yes i).length = D.w.length then { putD B m.deal { D with yes := addI D.yes i, st := 1 } with ord := B.ord ++ [m.deal] } else putD B m.deal { D with yes := addI D.yes i }) else putD B m.deal { D with st := 2 } := by
    unfold hearR
    rw [hd]
    simp only
    rw [if_pos h0, if_pos ⟨hk, hs.symm⟩, hq]
  rw [hh] at hD'
  by_cases hy : m.yes = true
  · rw [if_pos hy] at hD'
    by_cases hl : (addI D.yes i).length = D.w.length
    · rw [if_pos hl] at hD'
      have h5 : dealAt (putD B m.deal { D with yes := addI D.yes i, st := 1 }) m.deal = some D' := hD'
      rw [dealAt_put hd, if_pos rfl] at h5
      obtain rfl := Option.some.inj h5
      exact absurd (show (1 : Int) = 0 from h0') (by decide)
    · rw [if_neg hl, dealAt_put hd, if_pos rfl] at hD'
      obtain rfl := Option.some.inj hD'
      exact addI_mem.2 (.inr rfl)
  · rw [if_neg hy, dealAt_put hd, if_pos rfl] at hD'
    obtain rfl := Option.some.inj hD'
    exact absurd (show (2 : Int) = 0 from h0') (by decide)
theorem hear_overT {B : Bok} {m : Ml} {D D' : Dl} (hd : dealAt B m.deal = some D) (h0 : D.st ≠ 0) (hk : m.kind = 4) (hs : m.shop ∈ shopsL D.w) (hD' : dealAt (hearR B m) m.deal = some D') : m.shop ∈ D'.ov := by
  have hh : hearR B m = if m.kind = 4 ∧ m.shop ∈ shopsL D.w ∧ m.shop ∉ D.ov then putD B m.deal { D with ov := D.ov ++ [m.shop] } else B := by
    unfold hearR
    rw [hd]
    simp only
    rw [if_neg h0]
  rw [hh] at hD'
  by_cases ho : m.shop ∈ D.ov
  · rw [if_neg (fun q => q.2.2 ho), hd] at hD'
    obtain rfl := Option.some.inj hD'
    exact ho
  · rw [if_pos ⟨hk, hs, ho⟩, dealAt_put hd, if_pos rfl] at hD'
    obtain rfl := Option.some.inj hD'
    exact List.mem_append_right _ (by simp)
theorem come_deals (T : Twn) (m : Ml) : (comeR T m).B = if m.kind = 2 ∨ m.kind = 4 then hearR T.B m else T.B := by
  unfold comeR
  split
  · rfl
  · split <;> rfl
theorem asked_step {w0 : Nat → Int} (T : Twn) (m : Ml) (r : List Ml) (h : Inv w0 T) (hM : T.M = m :: r) (hA : AskedAll T) : AskedAll (comeR { T with M := r } m) := by
  have hl : ({ T with M := r } : Twn).M.length < 40 := by
    have := h.mlen
    rw [hM] at this
    simp only [List.length_cons] at this
    show r.length < 40
    omega
  have hm := h.mail m (by rw [hM]; simp)
  have hsub : ∀ x ∈ r, x ∈ (comeR { T with M := r } m).M := fun x hx => by
    rcases come_mail { T with M := r } m hl with q | ⟨y, q, _⟩
    · rw [q]; exact hx
    · rw [q]; exact List.mem_append_left _ hx
  intro n D' hD' h0' k c d hw hn
  have hB := come_deals { T with M := r } m
  rw [hB] at hD'
  by_cases hk : m.kind = 2 ∨ m.kind = 4
  · rw [if_pos hk] at hD'
    obtain ⟨D, hD, ew, est, ey, _⟩ := hear_deal hD'
    rw [ew] at hw
    obtain ⟨x, hx, x1, x2, x3, x4⟩ := hA n D hD (est h0') k c d hw (fun q => hn (ey _ q))
    rw [hM] at hx
    rcases List.mem_cons.1 hx with e | hx
    · subst e
      have hk2 : x.kind = 2 := by omega
      exfalso
      refine hn ?_
      obtain ⟨_, _, E, hE, hc⟩ := hm
      have hsh : x.shop = shp x.c := by
        rcases hc with ⟨a, _⟩ | ⟨_, _, a, _⟩ | ⟨a, _⟩ | ⟨a, _⟩
        · omega
        · exact a
        · omega
        · omega
      subst x1
      exact hear_say hD (h.fit D (dealAt_mem hD)) hk2 hsh (by rw [x2, x3]; exact hw) hD' h0'
    · exact ⟨x, hsub x hx, x1, x2, x3, x4⟩
  · rw [if_neg hk] at hD'
    obtain ⟨x, hx, x1, x2, x3, x4⟩ := hA n D' hD' h0' k c d hw hn
    rw [hM] at hx
    rcases List.mem_cons.1 hx with e | hx
    · subst e
      have hk1 : x.kind = 1 := by omega
      obtain ⟨s0, s3, _⟩ := hm
      refine ⟨⟨2, x.deal, x.shop, x.c, x.d, (doR (T.P x.shop.toNat) (askS x)).1 == 0⟩, ?_, x1, x2, x3, .inr rfl⟩
      unfold comeR
      rw [if_neg hk, if_pos ⟨s0, s3⟩, ans_ask rfl hk1]
      simp only [if_true]
      rw [sendR_room6 (by have hl' : r.length < 40 := hl; omega)]
      simp
    · exact ⟨x, hsub x hx, x1, x2, x3, x4⟩
theorem dec_step {T : Twn} {m : Ml} (h : AllDec T.B) : AllDec (comeR T m).B := by
  rw [come_deals]
  split
  · intro E hE h0
    obtain ⟨k, _, hk⟩ := mem_dealAt hE
    obtain ⟨D, hD, _, hst, _⟩ := hear_deal hk
    exact h D (dealAt_mem hD) (hst h0)
  · exact h
theorem told_step {w0 : Nat → Int} (T : Twn) (m : Ml) (r : List Ml) (h : Inv w0 T) (hM : T.M = m :: r) (hA : ToldAll T ∧ AllDec T.B) : ToldAll (comeR { T with M := r } m) ∧ AllDec (comeR { T with M := r } m).B := by
  refine ⟨?_, dec_step (T := { T with M := r }) hA.2⟩
  have hl : ({ T with M := r } : Twn).M.length < 40 := by
    have := h.mlen
    rw [hM] at this
    simp only [List.length_cons] at this
    show r.length < 40
    omega
  have hm := h.mail m (by rw [hM]; simp)
  have hsub : ∀ x ∈ r, x ∈ (comeR { T with M := r } m).M := fun x hx => by
    rcases come_mail { T with M := r } m hl with q | ⟨y, q, _⟩
    · rw [q]; exact hx
    · rw [q]; exact List.mem_append_left _ hx
  intro n D' hD' s hs hn
  have hB := come_deals { T with M := r } m
  rw [hB] at hD'
  by_cases hk : m.kind = 2 ∨ m.kind = 4
  · rw [if_pos hk] at hD'
    obtain ⟨D, hD, ew, est, _, eo⟩ := hear_deal hD'
    rw [ew] at hs
    obtain ⟨x, hx, x1, x2, x3⟩ := hA.1 n D hD s hs (fun q => hn (eo _ q))
    rw [hM] at hx
    rcases List.mem_cons.1 hx with e | hx
    · subst e
      have hk4 : x.kind = 4 := by omega
      exfalso
      refine hn ?_
      subst x1
      subst x2
      exact hear_overT hD (hA.2 D (dealAt_mem hD)) hk4 hs hD'
    · exact ⟨x, hsub x hx, x1, x2, x3⟩
  · rw [if_neg hk] at hD'
    obtain ⟨x, hx, x1, x2, x3⟩ := hA.1 n D' hD' s hs hn
    rw [hM] at hx
    rcases List.mem_cons.1 hx with e | hx
    · subst e
      have hk3 : x.kind = 3 := by omega
      have hz := h.fin_code hm hk3
      obtain ⟨s0, s3, _⟩ := hm
      refine ⟨⟨4, x.deal, x.shop, x.c, x.d, x.yes⟩, ?_, x1, x2, .inr rfl⟩
      unfold comeR
      rw [if_neg hk, if_pos ⟨s0, s3⟩, ans_end rfl hk3 hz]
      simp only [if_true]
      rw [sendR_room6 (by have hl' : r.length < 40 := hl; omega)]
      simp
    · exact ⟨x, hsub x hx, x1, x2, x3⟩

end Go.Proofs.YtbgnajcmhmpjlacGreat

namespace Go.Proofs.YtbgnajcmhmpjlacGreat
open Go.RowKit

def calmR : Nat → Nat → Twn → Nat × Twn
  | 0, n, T => (n, T)
  | f + 1, n, T => if (dueR (drainR 80 T).B).length = 0 then (n, drainR 80 T) else calmR f (n + 1) (tickR (drainR 80 T))
structure Town (w0 : Nat → Int) (T : Twn) : Prop where
  inv : Inv w0 T
  ser : SerOk w0 T
  part : Part T.B
theorem Town.step {w0 : Nat → Int} {T : Twn} (h : Town w0 T) (x : TSp) : Town w0 (townR T x).2 := ⟨h.inv.step x, h.inv.ser_step h.ser x, part_step h.inv h.part x⟩
theorem Town.tick {w0 : Nat → Int} {T : Twn} (h : Town w0 T) : Town w0 (tickR T) := ⟨h.inv.tick, h.ser.same rfl, h.part⟩
theorem town_new {w0 : Nat → Int} (h : ∀ s : Nat, s < 3 → newOk (s : Int) w0 = true) : Town w0 ⟨⟨[], []⟩, fun s => ⟨book0 (s : Int) w0, []⟩, []⟩ := ⟨inv_new h, ser_new w0 _, fun D hD => by simp at hD⟩
theorem come_town {w0 : Nat → Int} {T : Twn} {m : Ml} {r : List Ml} (h : Inv w0 T) (hM : T.M = m :: r) (hR : SerOk w0 T ∧ Part T.B) : SerOk w0 (comeR { T with M := r } m) ∧ Part (comeR { T with M := r } m).B := by
  have hl : r.length ≤ 40 := by
    have := h.mlen
    rw [hM] at this
    simp only [List.length_cons] at this
    omega
  have h1 : Inv w0 { T with M := r } := h.less (fun x hx => h.mail x (by rw [hM]; simp [hx])) hl
  exact ⟨h1.ser_come (h.mail m (by rw [hM]; simp)) (hR.1.same rfl), part_come (T := { T with M := r }) hR.2 m⟩
theorem Town.drain {w0 : Nat → Int} {T : Twn} (h : Town w0 T) {R : Twn → Prop} (hstep : ∀ (T : Twn) (m : Ml) (r : List Ml), Inv w0 T → T.M = m :: r → R T → R (comeR { T with M := r } m)) (hR : R T) : (drainR 80 T).M = [] ∧ Town w0 (drainR 80 T) ∧ R (drainR 80 T) := by
  obtain ⟨a, b, ⟨c1, c2⟩, d⟩ := drain_ends (w0 := w0) (R := fun T => (SerOk w0 T ∧ Part T.B) ∧ R T) (fun T m r q1 q2 q3 => ⟨come_town q1 q2 q3.1, hstep T m r q1 q2 q3.2⟩) 80 T h.inv ⟨⟨h.ser, h.part⟩, hR⟩ (by
    have := wtL_le T.M
    have := h.inv.mlen
    omega)
  exact ⟨a, ⟨b, c1, c2⟩, d⟩
theorem length_ge_of_all : ∀ {n : Nat} {l : List Int}, (∀ k : Nat, k < n → (k : Int) ∈ l) → n ≤ l.length := by
  intro n
  induction n with
  | zero => intro l _; exact Nat.zero_le _
  | succ n ih =>
    intro l h
    have h1 := ih (l := l.erase (n : Int)) (fun k hk => (List.mem_erase_of_ne (by omega)).2 (h k (by omega)))
    have h2 := List.length_erase_of_mem (h n (Nat.lt_succ_self n))
    have h3 := List.length_pos_of_mem (h n (Nat.lt_succ_self n))
    omega
theorem Town.dec_asked {w0 : Nat → Int} {T : Twn} (h : Town w0 T) (hM : T.M = []) (hA : AskedAll T) : AllDec T.B := by
  intro D hD h0
  obtain ⟨n, _, hn⟩ := mem_dealAt hD
  refine h.part D hD h0 ?_
  have hyn := h.inv.ynd D hD
  have hle : D.yes.length ≤ D.w.length := length_le_of_below hyn (fun i hi => by
    obtain ⟨k, c, d, e1, e2, _⟩ := h.inv.yes _ D hn i hi
    have := (List.getElem?_eq_some_iff.1 e2).1
    omega)
  have hin : ∀ k : Nat, k < D.w.length → (k : Int) ∈ D.yes := fun k hk => by
    apply Classical.byContradiction
    intro hno
    obtain ⟨m, hm, _⟩ := hA _ D hn h0 k (D.w[k]).1 (D.w[k]).2 (List.getElem?_eq_getElem hk) hno
    rw [hM] at hm
    simp at hm
  have hge : D.w.length ≤ D.yes.length := length_ge_of_all hin
  omega
theorem dues_nil : ∀ {L : List Dl} {k : Nat}, (∀ (i : Nat) (D : Dl), L[i]? = some D → dueD ((k + i : Nat) : Int) D = []) → duesR k L = [] := by
  intro L
  induction L with
  | nil => intro k _; rfl
  | cons D r ih =>
    intro k h
    simp only [duesR]
    rw [show dueD (k : Int) D = [] by simpa using h 0 D rfl, ih (fun i E hE => by
      have := h (i + 1) E (by simpa using hE)
      rw [show k + 1 + i = k + (i + 1) by omega]
      exact this)]
    rfl
theorem due_nil {B : Bok} (h : ∀ n D, dealAt B n = some D → dueD n D = []) : dueR B = [] :=
  dues_nil (fun i D hD => by
    rw [Nat.zero_add]
    exact h (i : Int) D (by rw [dealAt_nat]; exact hD))
theorem nil_due {B : Bok} (h : dueR B = []) {n : Int} {D : Dl} (hD : dealAt B n = some D) : dueD n D = [] := by
  rw [List.eq_nil_iff_forall_not_mem]
  intro m hm
  have := mem_due hD hm
  rw [h] at this
  simp at this
theorem due_told {T : Twn} (hM : T.M = []) (hA : ToldAll T) (hd : AllDec T.B) : dueR T.B = [] := by
  refine due_nil (fun n D hD => ?_)
  unfold dueD
  rw [if_neg (hd D (dealAt_mem hD))]
  unfold endsR
  rw [List.map_eq_nil_iff, List.filter_eq_nil_iff]
  intro s hs
  have : s ∈ D.ov := by
    apply Classical.byContradiction
    intro hno
    obtain ⟨m, hm, _⟩ := hA n D hD s hs hno
    rw [hM] at hm
    simp at hm
  simpa using this
structure Still (w0 : Nat → Int) (T : Twn) : Prop where
  town : Town w0 T
  mail : T.M = []
  due : dueR T.B = []
  dec : AllDec T.B
  ovs : ∀ n D, dealAt T.B n = some D → ∀ s ∈ shopsL D.w, s ∈ D.ov
theorem still_of {w0 : Nat → Int} {T : Twn} (h : Town w0 T) (hM : T.M = []) (hd : dueR T.B = []) : Still w0 T := by
  have hdec : AllDec T.B := h.dec_asked hM (fun n D hD h0 k c d hw hn => by
    have h1 := nil_due hd hD
    unfold dueD at h1
    rw [if_pos h0] at h1
    have := asks_in (n := n) (yes := D.yes) (j := 0) hw (by simpa using hn)
    rw [h1] at this
    simp at this)
  refine ⟨h, hM, hd, hdec, fun n D hD s hs => ?_⟩
  have h1 := nil_due hd hD
  unfold dueD at h1
  rw [if_neg (hdec D (dealAt_mem hD))] at h1
  unfold endsR at h1
  rw [List.map_eq_nil_iff, List.filter_eq_nil_iff] at h1
  simpa using h1 s hs
theorem calm_all {w0 : Nat → Int} {T : Twn} (h : Town w0 T) : (calmR 20 0 T).1 ≤ 2 ∧ Still w0 (calmR 20 0 T).2 := by
  have hc : ∀ (f n : Nat) (T : Twn), calmR (f + 1) n T = if (dueR (drainR 80 T).B).length = 0 then (n, drainR 80 T) else calmR f (n + 1) (tickR (drainR 80 T)) := fun _ _ _ => rfl
  obtain ⟨m1, t1, _⟩ := h.drain (R := fun _ => True) (fun _ _ _ _ _ _ => trivial) trivial
  rw [hc 19]
  by_cases d1 : (dueR (drainR 80 T).B).length = 0
  · rw [if_pos d1]
    exact ⟨Nat.zero_le _, still_of t1 m1 (List.length_eq_zero_iff.1 d1)⟩
  · rw [if_neg d1]
    obtain ⟨m2, t2, a2⟩ := t1.tick.drain (R := AskedAll) asked_step (t1.inv.tick_asked m1)
    have dec2 := t2.dec_asked m2 a2
    rw [hc 18]
    by_cases d2 : (dueR (drainR 80 (tickR (drainR 80 T))).B).length = 0
    · rw [if_pos d2]
      exact ⟨by show (1 : Nat) ≤ 2; omega, still_of t2 m2 (List.length_eq_zero_iff.1 d2)⟩
    · rw [if_neg d2]
      obtain ⟨m3, t3, a3⟩ := t2.tick.drain (R := fun T => ToldAll T ∧ AllDec T.B) told_step ⟨t2.inv.tick_told m2 dec2, dec2⟩
      have d3 := due_told m3 a3.1 a3.2
      rw [hc 17, if_pos (by rw [d3]; rfl)]
      exact ⟨Nat.le_refl _, still_of t3 m3 d3⟩
theorem Still.none {w0 : Nat → Int} {T : Twn} (h : Still w0 T) : ∀ s : Nat, s < 3 → (T.P s).A.hs = [] := by
  intro s hs
  rw [List.eq_nil_iff_forall_not_mem]
  rintro ⟨n, c, d⟩ hm
  have hi := h.town.inv
  obtain ⟨D, hD, hw⟩ := hi.hold s hs n c d hm
  have hfit := hi.fit D (dealAt_mem hD)
  obtain ⟨c0, c6, s0, s3, sh⟩ := hfit.shop hw
  obtain ⟨_, _, q1, _, q2⟩ := (hi.pens s hs).good.each _ hm
  have hno := (hi.pens s hs).no
  have hsn : shp c = (s : Int) := by
    simp only at q1
    rw [q1, hno]
    rfl
  have h1 := h.ovs n D hD (shp c) (shop_in hw c0 c6)
  obtain ⟨_, _, q3⟩ := hi.ovs n D hD _ h1
  rw [hsn] at q3
  simp only [Int.toNat_natCast] at q3
  simp only at q2
  rw [q2] at q3
  cases q3
theorem Still.world {w0 : Nat → Int} {T : Twn} (h : Still w0 T) {k : Nat} (hk : k < 6) : valT T k = curR w0 T k := by
  rw [h.town.inv.cur hk, h.none (k / 2) (by omega), sumD_zero (f := fun n => gain n true [] (k : Int)) (fun n _ => rfl)]
  omega

end Go.Proofs.YtbgnajcmhmpjlacGreat

namespace Go.Proofs.YtbgnajcmhmpjlacGreat
open Go.RowKit

theorem drain_nil {T : Twn} (h : T.M = []) : ∀ f, drainR f T = T
  | 0 => rfl
  | f + 1 => by
    show (if T.M.length = 0 then _ else _) = _
    rw [if_pos (by rw [h]; rfl)]
theorem Still.again {w0 : Nat → Int} {T : Twn} (h : Still w0 T) : calmR 20 0 T = (0, T) := by
  show (if (dueR (drainR 80 T).B).length = 0 then ((0 : Nat), drainR 80 T) else _) = _
  rw [drain_nil h.mail 80, if_pos (by rw [h.due]; rfl)]
theorem Still.tick {w0 : Nat → Int} {T : Twn} (h : Still w0 T) : tickR T = T := by
  unfold tickR
  rw [h.due, h.mail]
  show (⟨T.B, T.P, []⟩ : Twn) = T
  rw [← h.mail]
theorem Later.trans {A B C : Bok} (h : Later A B) (k : Later B C) : Later A C := by
  intro n D hD
  obtain ⟨D1, h1, h2, h3⟩ := h n D hD
  obtain ⟨D2, k1, k2, k3⟩ := k n D1 h1
  exact ⟨D2, k1, k2.trans h2, fun q => (k3 (by rw [h3 q]; exact q)).trans (h3 q)⟩
def six (f : Nat → Int) : Int := f 0 + f 1 + f 2 + f 3 + f 4 + f 5
end Go.Proofs.YtbgnajcmhmpjlacGreat

namespace Go.Proofs.YtbgnajcmhmpjlacGreat
open Go.RowKit

def recKey (no : Int) (r : Stp) : Int := if r.what = 1 then r.deal * 2 + (r.c - no * 2) else 16 + r.deal
structure RecOk (K : Kb) : Prop where
  held : ∀ n c d, (n, c, d) ∈ K.A.hs → (⟨1, n, c, d, false⟩ : Stp) ∈ K.rs
  hold : ∀ r ∈ K.rs, r.what = 1 → 0 ≤ r.deal ∧ r.deal < 8 ∧ K.A.no * 2 ≤ r.c ∧ r.c ≤ K.A.no * 2 + 1
  fin : ∀ r ∈ K.rs, r.what ≠ 1 → 0 ≤ r.deal ∧ r.deal < 8
  keys : (K.rs.map (recKey K.A.no)).Nodup
theorem recOk_new {A0 : Bk} (hh : A0.hs = []) : RecOk ⟨A0, []⟩ := ⟨fun n c d h => (by have h' : (n, c, d) ∈ A0.hs := h; rw [hh] at h'; simp at h'), by simp, by simp, by simp⟩
theorem wrote_hold {A : Bk} {r : Stp} (h : Wrote A r) (h1 : r.what = 1) (ho : over A.es r.deal = none) : (r.deal, r.c, r.d) ∈ A.hs := by
  obtain ⟨_, h2, _⟩ := h
  rcases h2 h1 with ⟨x, hx, hd⟩ | q
  · have hm := List.mem_of_find?_eq_some hx
    have hs := List.find?_some hx
    unfold same at hs
    simp only [Bool.and_eq_true, beq_iff_eq] at hs
    obtain ⟨x0, x1, x2⟩ := x
    simp only at hs hd
    rw [← hs.1, ← hs.2, ← hd]
    exact hm
  · rw [ho] at q; cases q
theorem RecOk.note {A0 : Bk} {K : Kb} (hG : GoodK A0 K) (h : RecOk K) {r : Stp} (hz : (tellR K.A r).1 = 0) : RecOk ⟨(tellR K.A r).2, noteR K.rs r⟩ := by
  by_cases h0 : rchk r = 0
  · by_cases h1 : r.what = 1
    · have hdone : r.done = false := by
        unfold rchk at h0
        rw [if_pos h1] at h0
        cases hd : r.done with
        | false => rfl
        | true => rw [hd] at h0; simp at h0
      have hr : r = ⟨1, r.deal, r.c, r.d, false⟩ := by
        obtain ⟨a, b, c, d, e⟩ := r
        simp only at h1 hdone
        rw [h1, hdone]
      rw [tellR_hold h0 h1] at hz ⊢
      rcases holdR_cases K.A r.deal r.c r.d with ⟨hc, e⟩ | ⟨hc, m, hm, hcm, ⟨y, hy, e⟩ | ⟨_, hz', e⟩ | ⟨hf, _, e⟩⟩
      · rw [e] at hz; exact absurd hz hc
      · rw [e] at hz
        have hz1 : (if y.2.2 = r.d then (0 : Int) else 9) = 0 := hz
        have hq : y.2.2 = r.d := by
          by_cases q : y.2.2 = r.d
          · exact q
          · rw [if_neg q] at hz1; omega
        have hin : (r.deal, r.c, r.d) ∈ K.A.hs := by
          have h2 := List.mem_of_find?_eq_some hy
          have hs := List.find?_some hy
          unfold same at hs
          simp only [Bool.and_eq_true, beq_iff_eq] at hs
          obtain ⟨x0, x1, x2⟩ := y
          simp only at hs hq
          rw [← hs.1, ← hs.2, ← hq]
          exact h2
        have hrs : r ∈ K.rs := by rw [hr]; exact h.held _ _ _ hin
        rw [e, noteR_in hrs]
        exact h
      · rw [e] at hz; exact absurd hz hz'
      · rw [e]
        obtain ⟨d0, d8, _, _, hov⟩ := chkS_zero hc
        have hno : ∀ s ∈ K.rs, recKey K.A.no s ≠ recKey K.A.no r := by
          intro s hs hk
          unfold recKey at hk
          rw [if_pos h1] at hk
          by_cases hs1 : s.what = 1
          · rw [if_pos hs1] at hk
            obtain ⟨a, b, c, d⟩ := h.hold s hs hs1
            have e1 : s.deal = r.deal := by omega
            have e2 : s.c = r.c := by omega
            have hin := wrote_hold (hG.wrote s hs) hs1 (by rw [e1]; exact hov)
            rw [e1, e2] at hin
            have := List.find?_eq_none.1 hf _ hin
            simp [same] at this
          · rw [if_neg hs1] at hk
            obtain ⟨a, b⟩ := h.fin s hs hs1
            omega
        have hnew : ¬ r ∈ K.rs := fun q => hno r q rfl
        rw [noteR_out hnew]
        refine ⟨fun n c d hm => ?_, fun s hs hs1 => ?_, fun s hs hs1 => ?_, ?_⟩
        · have hm' : (n, c, d) ∈ K.A.hs ++ [(r.deal, r.c, r.d)] := hm
          rcases List.mem_append.1 hm' with q | q
          · exact List.mem_append_left _ (h.held _ _ _ q)
          · refine List.mem_append_right _ ?_
            have q' := List.mem_singleton.1 q
            have e1 : n = r.deal := congrArg (fun t => t.1) q'
            have e2 : c = r.c := congrArg (fun t => t.2.1) q'
            have e3 : d = r.d := congrArg (fun t => t.2.2) q'
            rw [e1, e2, e3]
            rw [← hr]
            exact List.mem_singleton.2 rfl
        · show 0 ≤ s.deal ∧ s.deal < 8 ∧ K.A.no * 2 ≤ s.c ∧ s.c ≤ K.A.no * 2 + 1
          rcases List.mem_append.1 hs with q | q
          · exact h.hold s q hs1
          · rw [List.mem_singleton.1 q]
            exact ⟨d0, d8, by omega, by omega⟩
        · rcases List.mem_append.1 hs with q | q
          · exact h.fin s q hs1
          · rw [List.mem_singleton.1 q] at hs1
            exact absurd h1 hs1
        · show ((K.rs ++ [r]).map (recKey K.A.no)).Nodup
          rw [List.map_append]
          refine List.nodup_append.2 ⟨h.keys, by simp, ?_⟩
          intro a ha b hb e2
          obtain ⟨s, hs, rfl⟩ := List.mem_map.1 ha
          have hb' : b = recKey K.A.no r := by simpa using hb
          rw [hb'] at e2
          exact hno s hs e2
    · have h2 : r.what = 2 ∧ r.c = 0 ∧ r.d = 0 := by
        unfold rchk at h0
        rw [if_neg h1] at h0
        by_cases q : r.what = 2
        · rw [if_pos q] at h0
          by_cases q2 : r.c = 0 ∧ r.d = 0
          · exact ⟨q, q2⟩
          · rw [if_neg q2] at h0; omega
        · rw [if_neg q] at h0; omega
      have old : ∀ s ∈ K.rs, s.what ≠ 1 → over K.A.es s.deal = some s.done ∧ s.what = 2 ∧ s.c = 0 ∧ s.d = 0 := by
        intro s hs hs1
        obtain ⟨q0, _, q2⟩ := hG.wrote s hs
        refine ⟨q2 hs1, ?_⟩
        unfold rchk at q0
        rw [if_neg hs1] at q0
        by_cases q : s.what = 2
        · rw [if_pos q] at q0
          by_cases q3 : s.c = 0 ∧ s.d = 0
          · exact ⟨q, q3⟩
          · rw [if_neg q3] at q0; omega
        · rw [if_neg q] at q0; omega
      rw [tellR_end h0 h1] at hz ⊢
      have add : ∀ A' : Bk, A'.no = K.A.no → (∀ x ∈ A'.hs, x ∈ K.A.hs) → 0 ≤ r.deal → r.deal < 8 → (¬ r ∈ K.rs → ∀ s ∈ K.rs, s.what ≠ 1 → s.deal ≠ r.deal) → RecOk ⟨A', noteR K.rs r⟩ := by
        intro A' hno hsub d0 d8 hne
        by_cases hin : r ∈ K.rs
        · rw [noteR_in hin]
          exact ⟨fun n c d hm => h.held _ _ _ (hsub _ hm), fun s hs hs1 => by show 0 ≤ s.deal ∧ s.deal < 8 ∧ A'.no * 2 ≤ s.c ∧ s.c ≤ A'.no * 2 + 1; rw [hno]; exact h.hold s hs hs1, h.fin, by show (K.rs.map (recKey A'.no)).Nodup; rw [hno]; exact h.keys⟩
        · rw [noteR_out hin]
          refine ⟨fun n c d hm => List.mem_append_left _ (h.held _ _ _ (hsub _ hm)), fun s hs hs1 => ?_, fun s hs hs1 => ?_, ?_⟩
          · show 0 ≤ s.deal ∧ s.deal < 8 ∧ A'.no * 2 ≤ s.c ∧ s.c ≤ A'.no * 2 + 1
            rw [hno]
            rcases List.mem_append.1 hs with q | q
            · exact h.hold s q hs1
            · rw [List.mem_singleton.1 q] at hs1
              exact absurd hs1 h1
          · rcases List.mem_append.1 hs with q | q
            · exact h.fin s q hs1
            · rw [List.mem_singleton.1 q]; exact ⟨d0, d8⟩
          · show ((K.rs ++ [r]).map (recKey A'.no)).Nodup
            rw [hno, List.map_append]
            refine List.nodup_append.2 ⟨h.keys, by simp, ?_⟩
            intro a ha b hb e2
            obtain ⟨s, hs, rfl⟩ := List.mem_map.1 ha
            have hb' : b = recKey K.A.no r := by simpa using hb
            rw [hb'] at e2
            unfold recKey at e2
            rw [if_neg h1] at e2
            by_cases hs1 : s.what = 1
            · rw [if_pos hs1] at e2
              obtain ⟨a1, a2, a3, a4⟩ := h.hold s hs hs1
              omega
            · rw [if_neg hs1] at e2
              exact hne hin s hs hs1 (by omega)
      have hov : over K.A.es r.deal = none ∨ over K.A.es r.deal = some r.done := by
        rcases endR_cases K.A r.deal r.done with ⟨_, e⟩ | ⟨_, _, ⟨b, hb, e⟩ | ⟨hn, e⟩⟩
        · rw [e] at hz; exact absurd (show (1 : Int) = 0 from hz) (by decide)
        · rw [e] at hz
          right
          have hz1 : (if b = r.done then (0 : Int) else 9) = 0 := hz
          by_cases q : b = r.done
          · rw [hb, q]
          · rw [if_neg q] at hz1; omega
        · exact .inl hn
      have hne : ¬ r ∈ K.rs → ∀ s ∈ K.rs, s.what ≠ 1 → s.deal ≠ r.deal := by
        intro hin s hs hs1 hd
        obtain ⟨o1, o2, o3, o4⟩ := old s hs hs1
        rw [hd] at o1
        rcases hov with q | q
        · rw [q] at o1; cases o1
        · rw [q] at o1
          have e4 : r.done = s.done := Option.some.inj o1
          apply hin
          have : s = r := by
            obtain ⟨a, b, c, d, e⟩ := s
            obtain ⟨a', b', c', d', e'⟩ := r
            simp only at o2 o3 o4 hd e4 h2
            obtain ⟨p1, p2, p3⟩ := h2
            rw [o2, o3, o4, hd, p1, p2, p3, e4]
          rw [← this]; exact hs
      rcases endR_cases K.A r.deal r.done with ⟨_, e⟩ | ⟨d0, d8, ⟨b, hb, e⟩ | ⟨hn, e⟩⟩
      · rw [e] at hz; exact absurd (show (1 : Int) = 0 from hz) (by decide)
      · rw [e]; exact add K.A rfl (fun _ hx => hx) d0 d8 hne
      · rw [e]
        refine add _ rfl (fun x hx => ?_) d0 d8 hne
        exact (List.mem_filter.1 hx).1
  · rw [tellR_bad h0] at hz
    exact absurd hz h0
theorem RecOk.do {A0 : Bk} {K : Kb} (hG : GoodK A0 K) (h : RecOk K) (r : Stp) : RecOk (doR K r).2 := by
  by_cases hz : (tellR K.A r).1 = 0
  · rw [doR_done hz]
    exact h.note hG hz
  · rw [doR_code hz]
    exact h
theorem RecOk.ans {A0 : Bk} {K : Kb} (hG : GoodK A0 K) (h : RecOk K) (no : Int) (m : Ml) : RecOk (ansR no K m).2.2 := by
  unfold ansR
  split
  · split
    · exact h.do hG _
    · split
      · split
        · exact h.do hG _
        · exact h
      · exact h
  · exact h
theorem RecOk.few {K : Kb} (h : RecOk K) : K.rs.length ≤ 24 := by
  have := length_le_of_below (k := 24) h.keys (fun x hx => by
    obtain ⟨r, hr, rfl⟩ := List.mem_map.1 hx
    unfold recKey
    split
    · rename_i h1
      obtain ⟨a, b, c, d⟩ := h.hold r hr h1
      omega
    · rename_i h1
      obtain ⟨a, b⟩ := h.fin r hr h1
      omega)
  simpa using this

end Go.Proofs.YtbgnajcmhmpjlacGreat

namespace Go.Proofs.YtbgnajcmhmpjlacGreat
open Go.RowKit

structure Full (w0 : Nat → Int) (T : Twn) : Prop where
  town : Town w0 T
  recs : ∀ s : Nat, s < 3 → RecOk (T.P s)
  brk : BInv T.B
theorem full_new {w0 : Nat → Int} (h : ∀ s : Nat, s < 3 → newOk (s : Int) w0 = true) : Full w0 ⟨⟨[], []⟩, fun s => ⟨book0 (s : Int) w0, []⟩, []⟩ := ⟨town_new h, fun _ _ => recOk_new rfl, binv_new⟩
theorem Full.shop {w0 : Nat → Int} {T : Twn} (h : Full w0 T) {s : Nat} (hs : s < 3) : GoodK (book0 (s : Int) w0) (T.P s) ∧ Good (T.P s).A ∧ (T.P s).A.no = (s : Int) ∧ (T.P s).A.hs.length ≤ 24 ∧ (T.P s).A.es.length ≤ 24 ∧ (T.P s).rs.length ≤ 24 := by
  have g := h.town.inv.pens s hs
  have f := (h.recs s hs).few
  exact ⟨g, g.good, g.no, Nat.le_trans g.hl f, Nat.le_trans g.el f, f⟩
theorem rec_come {w0 : Nat → Int} {T : Twn} (hI : ∀ s : Nat, s < 3 → GoodK (book0 (s : Int) w0) (T.P s)) (h : ∀ s : Nat, s < 3 → RecOk (T.P s)) (m : Ml) : ∀ s : Nat, s < 3 → RecOk ((comeR T m).P s) := by
  intro s hs
  unfold comeR
  split
  · exact h s hs
  · split
    · show RecOk (updP T.P m.shop.toNat (ansR m.shop (T.P m.shop.toNat) m).2.2 s)
      by_cases e : s = m.shop.toNat
      · subst e
        rw [updP_same]
        exact (h _ hs).ans (hI _ hs) _ m
      · rw [updP_other _ _ _ e]
        exact h s hs
    · exact h s hs
theorem brk_come {T : Twn} (h : BInv T.B) (m : Ml) : BInv (comeR T m).B := by
  rw [come_deals]
  split
  · exact h.hear m
  · exact h
theorem Full.deliv {w0 : Nat → Int} {T : Twn} (h : Full w0 T) (n : Int) : (∀ s : Nat, s < 3 → RecOk ((delivR T n).2.P s)) ∧ BInv (delivR T n).2.B := by
  unfold delivR
  split
  · exact ⟨rec_come (T := { T with M := (takeR T.M n).2.2 }) h.town.inv.pens h.recs _, brk_come (T := { T with M := (takeR T.M n).2.2 }) h.brk _⟩
  · exact ⟨h.recs, h.brk⟩
theorem Full.step {w0 : Nat → Int} {T : Twn} (h : Full w0 T) (x : TSp) : Full w0 (townR T x).2 := by
  have ht := h.town.step x
  refine ⟨ht, ?_, ?_⟩
  · unfold townR
    split
    · exact h.recs
    · split
      · exact h.recs
      · split
        · exact (h.deliv x.n).1
        · split
          · exact h.recs
          · split
            · exact h.recs
            · split
              · exact h.recs
              · split
                · exact h.recs
                · split
                  · exact h.recs
                  · exact h.recs
  · unfold townR
    split
    · exact h.brk.begin x.w
    · split
      · exact h.brk
      · split
        · exact (h.deliv x.n).2
        · split
          · exact h.brk
          · split
            · exact h.brk
            · split
              · exact h.brk.quit x.n
              · split
                · exact h.brk
                · split
                  · exact h.brk.crash
                  · exact h.brk
theorem Full.tick {w0 : Nat → Int} {T : Twn} (h : Full w0 T) : Full w0 (tickR T) := ⟨h.town.tick, h.recs, h.brk⟩

structure Drn (w0 : Nat → Int) (T0 : Twn) (f : Nat) (T : Twn) : Prop where
  full : Full w0 T
  wt : wtL T.M ≤ f
  eq : drainR f T = drainR 80 T0
theorem drn_start {w0 : Nat → Int} {T : Twn} (h : Full w0 T) : Drn w0 T 80 T := by
  refine ⟨h, ?_, rfl⟩
  have := wtL_le T.M
  have := h.town.inv.mlen
  omega
theorem Drn.done {w0 : Nat → Int} {T0 T : Twn} {f : Nat} (h : Drn w0 T0 f T) (hM : T.M = []) : drainR 80 T0 = T := by rw [← h.eq, drain_nil hM]
theorem full_come {w0 : Nat → Int} {T : Twn} (h : Full w0 T) {m : Ml} {r : List Ml} (hM : T.M = m :: r) : Full w0 (comeR { T with M := r } m) := by
  have h1 : (delivR T 0).2 = comeR { T with M := r } m := deliv_first hM
  have ht := h.town.step ⟨3, 0, []⟩
  have e : (townR T ⟨3, 0, []⟩).2 = (delivR T 0).2 := by unfold townR; simp
  rw [e] at ht
  rw [← h1]
  exact ⟨ht, (h.deliv 0).1, (h.deliv 0).2⟩
theorem Drn.step {w0 : Nat → Int} {T0 T : Twn} {f : Nat} (h : Drn w0 T0 f T) (hM : T.M ≠ []) : (delivR T 0).1 = 0 ∧ ∃ f', f = f' + 1 ∧ Drn w0 T0 f' (delivR T 0).2 := by
  obtain ⟨m, r, e⟩ : ∃ m r, T.M = m :: r := by
    cases hT : T.M with
    | nil => exact absurd hT hM
    | cons m r => exact ⟨m, r, rfl⟩
  have hw := h.wt
  have h1 := deliv_first e
  rw [e] at hw
  simp only [wtL] at hw
  have hm : 1 ≤ wtM m := by unfold wtM; split <;> omega
  obtain ⟨f', rfl⟩ : ∃ f', f = f' + 1 := ⟨f - 1, by omega⟩
  refine ⟨?_, f', rfl, ?_, ?_, ?_⟩
  · unfold delivR
    rw [e, take_first]
    simp
  · rw [h1]; exact full_come h.full e
  · rw [h1]
    have hl : ({ T with M := r } : Twn).M.length < 40 := by
      have := h.full.town.inv.mlen
      rw [e] at this
      simp only [List.length_cons] at this
      exact Nat.lt_of_succ_le this
    rcases come_mail { T with M := r } m hl with q | ⟨y, q, hy, hn⟩
    · rw [q]
      show wtL r ≤ f'
      omega
    · rw [q, wtL_append]
      have h2 : wtM m = 2 := by unfold wtM; rw [if_neg hn]
      have h3 : wtM y = 1 := by unfold wtM; rw [if_pos hy]
      show wtL r + (wtM y + 0) ≤ f'
      omega
  · have q := h.eq
    rw [drainR, if_neg (by rw [e]; simp)] at q
    exact q
theorem drain_full {w0 : Nat → Int} {T0 : Twn} : ∀ (f : Nat) (T : Twn), Drn w0 T0 f T → Full w0 (drainR 80 T0) ∧ (drainR 80 T0).M = []
  | 0, T, h => by
    have e : T.M = [] := by
      cases hT : T.M with
      | nil => rfl
      | cons m r => obtain ⟨_, f', q, _⟩ := h.step (by rw [hT]; simp); omega
    rw [h.done e]
    exact ⟨h.full, e⟩
  | f + 1, T, h => by
    by_cases e : T.M = []
    · rw [h.done e]
      exact ⟨h.full, e⟩
    · obtain ⟨_, f', q, k⟩ := h.step e
      obtain rfl : f = f' := by omega
      exact drain_full f _ k
structure Clm (w0 : Nat → Int) (T0 : Twn) (n : Nat) (T : Twn) : Prop where
  full : Full w0 T
  le : n ≤ 20
  eq : calmR (20 - n) n T = calmR 20 0 T0
theorem clm_start {w0 : Nat → Int} {T : Twn} (h : Full w0 T) : Clm w0 T 0 T := ⟨h, by omega, rfl⟩
theorem Clm.drained {w0 : Nat → Int} {T0 T : Twn} {n : Nat} (h : Clm w0 T0 n T) : Full w0 (drainR 80 T) ∧ (drainR 80 T).M = [] := drain_full 80 T (drn_start h.full)
theorem Clm.out {w0 : Nat → Int} {T0 T : Twn} {n : Nat} (h : Clm w0 T0 n T) (hn : n < 20) (hd : dueR (drainR 80 T).B = []) : calmR 20 0 T0 = (n, drainR 80 T) := by
  have q := h.eq
  obtain ⟨f, hf⟩ : ∃ f, 20 - n = f + 1 := ⟨19 - n, by omega⟩
  rw [hf, calmR, if_pos (by rw [hd]; rfl)] at q
  exact q.symm
theorem Clm.turn {w0 : Nat → Int} {T0 T : Twn} {n : Nat} (h : Clm w0 T0 n T) (hn : n < 20) (hd : dueR (drainR 80 T).B ≠ []) : Clm w0 T0 (n + 1) (tickR (drainR 80 T)) := by
  refine ⟨h.drained.1.tick, by omega, ?_⟩
  have q := h.eq
  obtain ⟨f, hf⟩ : ∃ f, 20 - n = f + 1 := ⟨19 - n, by omega⟩
  rw [hf, calmR, if_neg (fun e => hd (List.eq_nil_of_length_eq_zero e))] at q
  have e : 20 - (n + 1) = f := by omega
  rw [e]
  exact q
theorem Clm.few {w0 : Nat → Int} {T0 T : Twn} {n : Nat} (h0 : Full w0 T0) (h : Clm w0 T0 n T) : n < 20 := by
  by_cases e : n < 20
  · exact e
  · have hn : n = 20 := by have := h.le; omega
    subst hn
    have q := h.eq
    have := (calm_all h0.town).1
    rw [← q, show (20 - 20 : Nat) = 0 from rfl, calmR] at this
    simp only at this
    omega
theorem calm_full {w0 : Nat → Int} {T0 : Twn} : ∀ (k n : Nat) (T : Twn), n + k = 20 → Clm w0 T0 n T → Full w0 (calmR 20 0 T0).2
  | 0, n, T, hk, h => by
    have hn : n = 20 := by omega
    subst hn
    have q := h.eq
    rw [← q, show (20 - 20 : Nat) = 0 from rfl, calmR]
    exact h.full
  | k + 1, n, T, hk, h => by
    by_cases hd : dueR (drainR 80 T).B = []
    · rw [h.out (by omega) hd]
      exact h.drained.1
    · exact calm_full k (n + 1) _ (by omega) (h.turn (by omega) hd)
theorem Full.calm {w0 : Nat → Int} {T : Twn} (h : Full w0 T) : Full w0 (calmR 20 0 T).2 ∧ Still w0 (calmR 20 0 T).2 ∧ (calmR 20 0 T).1 ≤ 2 := ⟨calm_full 20 0 T rfl (clm_start h), (calm_all h.town).2, (calm_all h.town).1⟩

def heldAdd (B : Bok) (s : Int) : List H3 → (Nat → Int) → Nat → Int
  | [], f => f
  | h :: r, f => heldAdd B s r (if stR B h.1 = 1 ∧ shp h.2.1 = s then upd f h.2.1.toNat (f h.2.1.toNat + h.2.2) else f)
theorem heldAdd_is {B : Bok} {s : Int} (hB : BInv B) (k : Nat) : ∀ (hs : List H3) (f : Nat → Int), (∀ h ∈ hs, 0 ≤ h.2.1 ∧ shp h.2.1 = s) → heldAdd B s hs f k = f k + sumD (fun n => gain n true hs (k : Int)) B.ord
  | [], f, _ => by
    rw [sumD_zero (f := fun n => gain n true [] (k : Int)) (fun n _ => rfl)]
    simp [heldAdd]
  | h :: r, f, ha => by
    have e : sumD (fun n => gain n true (h :: r) (k : Int)) B.ord = sumD (fun n => gainOf n true h (k : Int)) B.ord + sumD (fun n => gain n true r (k : Int)) B.ord := by
      rw [← sumD_add]
      rfl
    rw [heldAdd, heldAdd_is hB k r _ (fun x hx => ha x (by simp [hx])), e, sum_gainOf h (k : Int) hB.nd]
    obtain ⟨c0, hsh⟩ := ha h (by simp)
    have hst : h.1 ∈ B.ord ↔ stR B h.1 = 1 := by
      rw [hB.ord]
      constructor
      · rintro ⟨D, h1, h2⟩
        rw [stR_some h1, h2]
      · intro q
        cases hd : dealAt B h.1 with
        | none => rw [stR, hd] at q; simp at q
        | some D => exact ⟨D, rfl, by rw [stR_some hd] at q; exact q⟩
    by_cases h1 : stR B h.1 = 1
    · rw [if_pos ⟨h1, hsh⟩]
      by_cases hk : h.2.1 = (k : Int)
      · rw [if_pos ⟨hst.2 h1, hk⟩]
        have : h.2.1.toNat = k := by omega
        rw [this, upd, if_pos rfl]
        omega
      · rw [if_neg (fun q => hk q.2), upd, if_neg (by omega)]
        omega
    · rw [if_neg (fun q => h1 q.1), if_neg (fun q => h1 (hst.1 q.1))]
      omega
def nowR (T : Twn) : Nat → Nat → Int
  | 0 => valT T
  | s + 1 => heldAdd T.B (s : Int) (T.P s).A.hs (nowR T s)
theorem Full.holds {w0 : Nat → Int} {T : Twn} (h : Full w0 T) {s : Nat} (hs : s < 3) : ∀ x ∈ (T.P s).A.hs, 0 ≤ x.2.1 ∧ x.2.1 < 6 ∧ shp x.2.1 = (s : Int) ∧ x.2.1 / 2 = (s : Int) ∧ -100 ≤ x.2.2 ∧ x.2.2 ≤ 100 := by
  intro x hx
  obtain ⟨_, g, no, _⟩ := h.shop hs
  obtain ⟨_, _, a, b, _⟩ := g.each x hx
  obtain ⟨c0, c6, d⟩ := wnt_ok b
  have e := shp_eq c0 c6
  obtain ⟨_, d1, d2⟩ := dlt_ok d
  rw [no] at a
  exact ⟨c0, c6, a, by rw [← e]; exact a, d1, d2⟩
theorem now_upto {w0 : Nat → Int} {T : Twn} (h : Full w0 T) {k : Nat} (hk : k < 6) : ∀ s : Nat, s ≤ 3 → nowR T s k = valT T k + if k / 2 < s then sumD (fun n => gain n true (T.P (k / 2)).A.hs (k : Int)) T.B.ord else 0
  | 0, _ => by simp [nowR]
  | s + 1, hs => by
    have hh := h.holds (s := s) (by omega)
    rw [nowR, heldAdd_is h.brk k _ _ (fun x hx => ⟨(hh x hx).1, (hh x hx).2.2.1⟩), now_upto h hk s (by omega)]
    by_cases e : k / 2 = s
    · subst e
      rw [if_neg (by omega), if_pos (by omega)]
      omega
    · have z : sumD (fun n => gain n true (T.P s).A.hs (k : Int)) T.B.ord = 0 := by
        refine sumD_zero (fun n _ => ?_)
        have : ∀ (l : List H3), (∀ x ∈ l, x.2.1 / 2 = (s : Int)) → gain n true l (k : Int) = 0 := by
          intro l
          induction l with
          | nil => intro _; rfl
          | cons x r ih =>
            intro hl
            rw [gain, ih (fun y hy => hl y (by simp [hy]))]
            have := hl x (by simp)
            unfold gainOf
            rw [if_neg (fun q => by obtain ⟨_, q, _⟩ := q; rw [q] at this; omega)]
            rfl
        exact this _ (fun x hx => (hh x hx).2.2.2.1)
      rw [z]
      by_cases h1 : k / 2 < s
      · rw [if_pos h1, if_pos (by omega)]; omega
      · rw [if_neg h1, if_neg (by omega)]; omega
theorem Full.now {w0 : Nat → Int} {T : Twn} (h : Full w0 T) {k : Nat} (hk : k < 6) : nowR T 3 k = curR w0 T k := by
  rw [now_upto h hk 3 (Nat.le_refl _), if_pos (by omega), h.town.inv.cur hk]

end Go.Proofs.YtbgnajcmhmpjlacGreat

namespace Go.Proofs.YtbgnajcmhmpjlacGreat
open Go.RowKit

end Go.Proofs.YtbgnajcmhmpjlacGreat

namespace Go.Proofs.YtbgnajcmhmpjlacGreat
open Go.RowKit

theorem Full.val {w0 : Nat → Int} {T : Twn} (h : Full w0 T) {k : Nat} (hk : k < 6) : 0 ≤ valT T k ∧ valT T k ≤ 100 := by
  have := h.town.inv.count hk
  omega

end Go.Proofs.YtbgnajcmhmpjlacGreat

namespace Go.Proofs.YtbgnajcmhmpjlacGreat
open Go.RowKit

theorem brk_stands (q : Nat) (B : Bok) : Stands (fun O w => BrkIn O w q B) := ⟨fun h => h.own, fun h hb hn => h.save hb hn⟩
theorem mail_stands (p o : Nat) (l : List Ml) : Stands (fun O w => MailIn O w p o l) := ⟨fun h => h.own, fun h hb hn => h.save hb hn⟩
theorem clk_stands (c : Nat) (no : Int) (ws : Nat → Int) (K : Kb) : Stands (fun O w => ClkIn O w c no ws K) := ⟨fun h => h.own, fun h hb hn => h.save hb hn⟩
theorem Sent.to {O : Nat → Prop} {w w' : World} {p o : Nat} {l : List Ml} (h : Sent O w w' p o l) : To (fun O w => MailIn O w p o l) O w w' := by
  obtain ⟨O', h1, h2, h3, _⟩ := h
  exact ⟨O', h1, h2, h3⟩

def townA (p : Nat) (vs : List Value) (b m : Nat) (c : Nat → Nat) (ws : Nat → Int) (T : Twn) : Nat → (Nat → Prop) → World → Prop
  | 0 => Cells p vs
  | 1 => fun O w => BrkIn O w b T.B
  | 2 => fun O w => MailIn O w m 0 T.M
  | s + 3 => fun O w => ClkIn O w (c s) (s : Int) ws (T.P s)
theorem townA_stands (p : Nat) (vs : List Value) (b m : Nat) (c : Nat → Nat) (ws : Nat → Int) (T : Twn) : ∀ i, i < 6 → Stands (townA p vs b m c ws T i)
  | 0, _ => cells_stands p vs
  | 1, _ => brk_stands b T.B
  | 2, _ => mail_stands m 0 T.M
  | s + 3, _ => clk_stands (c s) s ws (T.P s)
def TwAt (p : Nat) (vs : List Value) (b m : Nat) (c : Nat → Nat) (ws : Nat → Int) (T : Twn) (O : Nat → Prop) (w : World) : Prop := Beside 6 (townA p vs b m c ws T) O w
theorem tw_stands (p : Nat) (vs : List Value) (b m : Nat) (c : Nat → Nat) (ws : Nat → Int) (T : Twn) : Stands (TwAt p vs b m c ws T) := Beside.stands (townA_stands p vs b m c ws T)

theorem TwAt.cells {p b m : Nat} {vs : List Value} {c : Nat → Nat} {ws : Nat → Int} {T : Twn} {O : Nat → Prop} {w : World} (h : TwAt p vs b m c ws T O w) : p < w.heap.size ∧ O p ∧ ∀ j u, vs[j]? = some u → w.cell? ⟨p, j, none⟩ = some u := by
  obtain ⟨Q, h1, h2, _⟩ := h.raw
  have h0 : Cells p vs (Q 0) w := h1 0 (by omega)
  exact ⟨h0.1 p h0.2.1, h2 0 (by omega) p h0.2.1, h0.2.2.2⟩
theorem TwAt.brk {p b m : Nat} {vs : List Value} {c : Nat → Nat} {ws : Nat → Int} {T : Twn} {O : Nat → Prop} {w : World} (h : TwAt p vs b m c ws T O w) : ∃ Ob, BrkIn Ob w b T.B ∧ (∀ k, Ob k → O k) ∧ ∀ (w' : World) (B' : Bok), BrkTo Ob w w' b B' → To (TwAt p vs b m c ws { T with B := B' }) O w w' := by
  obtain ⟨Ob, h1, h2, h3⟩ := Beside.step (townA_stands p vs b m c ws T) h (i := 1) (by omega)
  refine ⟨Ob, h1, h2, fun w' B' hB => (h3 w' _ (brk_stands b B') hB).mono (fun O1 k => ?_)⟩
  refine k.same (fun i hi Q hq => ?_)
  match i, hi, hq with
  | 0, _, hq => exact hq
  | 1, _, hq => exact hq
  | 2, _, hq => exact hq
  | s + 3, _, hq => rw [putA_off _ _ (by omega)] at hq; exact hq
theorem TwAt.mail {p b m : Nat} {vs : List Value} {c : Nat → Nat} {ws : Nat → Int} {T : Twn} {O : Nat → Prop} {w : World} (h : TwAt p vs b m c ws T O w) : ∃ Om, MailIn Om w m 0 T.M ∧ (∀ k, Om k → O k) ∧ ∀ (w' : World) (l' : List Ml), Sent Om w w' m 0 l' → To (TwAt p vs b m c ws { T with M := l' }) O w w' := by
  obtain ⟨Om, h1, h2, h3⟩ := Beside.step (townA_stands p vs b m c ws T) h (i := 2) (by omega)
  refine ⟨Om, h1, h2, fun w' l' hB => (h3 w' _ (mail_stands m 0 l') hB.to).mono (fun O1 k => ?_)⟩
  refine k.same (fun i hi Q hq => ?_)
  match i, hi, hq with
  | 0, _, hq => exact hq
  | 1, _, hq => exact hq
  | 2, _, hq => exact hq
  | s + 3, _, hq => rw [putA_off _ _ (by omega)] at hq; exact hq
theorem TwAt.clk {p b m : Nat} {vs : List Value} {c : Nat → Nat} {ws : Nat → Int} {T : Twn} {O : Nat → Prop} {w : World} (h : TwAt p vs b m c ws T O w) {s : Nat} (hs : s < 3) : ∃ Oc, ClkIn Oc w (c s) (s : Int) ws (T.P s) ∧ (∀ k, Oc k → O k) ∧ ∀ (w' : World) (K' : Kb), ClkTo Oc w w' (c s) (s : Int) ws K' → To (TwAt p vs b m c ws { T with P := updP T.P s K' }) O w w' := by
  obtain ⟨Oc, h1, h2, h3⟩ := Beside.step (townA_stands p vs b m c ws T) h (i := s + 3) (by omega)
  refine ⟨Oc, h1, h2, fun w' K' hB => (h3 w' _ (clk_stands (c s) s ws K') hB).mono (fun O1 k => ?_)⟩
  refine k.same (fun i hi Q hq => ?_)
  match i, hi, hq with
  | 0, _, hq => rw [putA_off _ _ (by omega)] at hq; exact hq
  | 1, _, hq => rw [putA_off _ _ (by omega)] at hq; exact hq
  | 2, _, hq => rw [putA_off _ _ (by omega)] at hq; exact hq
  | j + 3, _, hq =>
    by_cases e : j = s
    · subst e
      rw [putA_at] at hq
      show ClkIn Q _ (c j) (j : Int) ws (updP T.P j K' j)
      rw [updP_same]
      exact hq
    · rw [putA_off _ _ (by omega)] at hq
      show ClkIn Q _ (c j) (j : Int) ws (updP T.P s K' j)
      rw [updP_other _ _ _ e]
      exact hq
end Go.Proofs.YtbgnajcmhmpjlacGreat

namespace Go.Proofs.YtbgnajcmhmpjlacGreat
open Go.RowKit

structure Lv (A : (Nat → Prop) → World → Prop) (w0 : World) (Z : Nat → Prop) (w : World) : Prop where
  inn : ∃ O, A O w ∧ ∀ k, O k → w0.heap.size ≤ k ∧ ¬ Z k
  below : Below w0.heap.size w0 w
  kept : ∀ k, Z k → k < w.heap.size
theorem Lv.more {A : (Nat → Prop) → World → Prop} (hA : Stands A) {w0 w w1 : World} {Z Z' : Nat → Prop} (h : Lv A w0 Z w) (hb : Below w.heap.size w w1) (hZ : ∀ k, Z' k → Z k ∨ (w.heap.size ≤ k ∧ k < w1.heap.size)) : Lv A w0 Z' w1 := by
  obtain ⟨O, h1, h2⟩ := h.inn
  refine ⟨⟨O, hA.next h1 hb, fun k hk => ⟨(h2 k hk).1, fun hk' => ?_⟩⟩, after h.below hb h.below.size, fun k hk => ?_⟩
  · rcases hZ k hk' with q | q
    · exact (h2 k hk).2 q
    · have := hA.own h1 k hk
      omega
  · rcases hZ k hk with q | q
    · exact Nat.lt_of_lt_of_le (h.kept k q) hb.size
    · exact q.2
theorem Lv.next {A : (Nat → Prop) → World → Prop} (hA : Stands A) {w0 w w1 : World} {Z : Nat → Prop} (h : Lv A w0 Z w) (hb : Below w.heap.size w w1) : Lv A w0 Z w1 := h.more hA hb (fun _ hk => .inl hk)
theorem Lv.less {A : (Nat → Prop) → World → Prop} {w0 w : World} {Z Z' : Nat → Prop} (h : Lv A w0 Z w) (hZ : ∀ k, Z' k → Z k) : Lv A w0 Z' w := by
  obtain ⟨O, h1, h2⟩ := h.inn
  exact ⟨⟨O, h1, fun k hk => ⟨(h2 k hk).1, fun q => (h2 k hk).2 (hZ k q)⟩⟩, h.below, fun k hk => h.kept k (hZ k hk)⟩
theorem Lv.cons {A : (Nat → Prop) → World → Prop} (hA : Stands A) {w0 w w1 : World} {l : List Nat} {b : Nat} (h : Lv A w0 (fun k => k ∈ l) w) (hb : Below w.heap.size w w1) (h1 : w.heap.size ≤ b) (h2 : b < w1.heap.size) : Lv A w0 (fun k => k ∈ b :: l) w1 :=
  h.more hA hb (fun k hk => by
    rcases List.mem_cons.1 hk with rfl | q
    · exact .inr ⟨h1, h2⟩
    · exact .inl q)
theorem Lv.keep {A : (Nat → Prop) → World → Prop} (hA : Stands A) {O : Nat → Prop} {w0 w w1 : World} {Z : Nat → Prop} (h : Lv A w0 Z w) (hs : Save O w w1) (hO : ∀ k, O k → Z k ∧ w0.heap.size ≤ k) : Lv A w0 Z w1 := by
  obtain ⟨Q, h1, h2⟩ := h.inn
  exact ⟨⟨Q, hA.save h1 hs (fun k hk hq => (h2 k hk).2 (hO k hq).1), h2⟩, h.below.trans (hs.below (fun k hk hq => by have := (hO k hq).2; omega) h.below.size), fun k hk => Nat.lt_of_lt_of_le (h.kept k hk) hs.size⟩
theorem Lv.step {A B : (Nat → Prop) → World → Prop} {O : Nat → Prop} {w0 w w1 : World} {Z : Nat → Prop} (h : Lv A w0 Z w) (h2 : ∀ k, O k → w0.heap.size ≤ k ∧ ¬ Z k) (hs : To B O w w1) : Lv B w0 Z w1 ∧ Save (fun k => ¬ Z k) w w1 := by
  obtain ⟨O', h3, h4, h5⟩ := hs
  exact ⟨⟨⟨O', h3, fun k hk => (h5 k hk).elim (h2 k) (fun q => ⟨Nat.le_trans h.below.size q, fun hk' => by have := h.kept k hk'; omega⟩)⟩, h.below.trans (h4.below (fun k hk hO => by have := (h2 k hO).1; omega) h.below.size), fun k hk => Nat.lt_of_lt_of_le (h.kept k hk) h4.size⟩, h4.mono (fun k _ hk => (h2 k hk).2)⟩
theorem Lv.new {A : (Nat → Prop) → World → Prop} {O : Nat → Prop} {w w1 : World} (h : A O w1) (hO : ∀ k, O k → w.heap.size ≤ k) (hb : Below w.heap.size w w1) : Lv A w (fun k => k ∈ ([] : List Nat)) w1 := ⟨⟨O, h, fun k hk => ⟨hO k hk, by simp⟩⟩, hb, fun k hk => by simp at hk⟩
theorem Lv.since {A : (Nat → Prop) → World → Prop} {w0 w w1 : World} (hb : Below w0.heap.size w0 w) (h : Lv A w (fun k => k ∈ ([] : List Nat)) w1) : Lv A w0 (fun k => k ∈ ([] : List Nat)) w1 := by
  obtain ⟨O, h1, h2⟩ := h.inn
  exact ⟨⟨O, h1, fun k hk => ⟨Nat.le_trans hb.size (h2 k hk).1, (h2 k hk).2⟩⟩, after hb h.below hb.size, h.kept⟩

def two (A B : (Nat → Prop) → World → Prop) : Nat → (Nat → Prop) → World → Prop
  | 0 => A
  | _ => B
def Pr (A B : (Nat → Prop) → World → Prop) (O : Nat → Prop) (w : World) : Prop := Beside 2 (two A B) O w
theorem two_stands {A B : (Nat → Prop) → World → Prop} (hA : Stands A) (hB : Stands B) : ∀ i, i < 2 → Stands (two A B i)
  | 0, _ => hA
  | _ + 1, _ => hB
theorem pr_stands {A B : (Nat → Prop) → World → Prop} (hA : Stands A) (hB : Stands B) : Stands (Pr A B) := Beside.stands (two_stands hA hB)
theorem Pr.left {A B : (Nat → Prop) → World → Prop} (hA : Stands A) (hB : Stands B) {O : Nat → Prop} {w : World} (h : Pr A B O w) : ∃ OA, A OA w ∧ (∀ k, OA k → O k) ∧ ∀ (w' : World) (A' : (Nat → Prop) → World → Prop), Stands A' → To A' OA w w' → To (Pr A' B) O w w' := by
  obtain ⟨OA, h1, h2, h3⟩ := Beside.step (two_stands hA hB) h (i := 0) (by omega)
  refine ⟨OA, h1, h2, fun w' A' hA' ht => (h3 w' A' hA' ht).mono (fun O1 k => k.same (fun i hi Q hq => ?_))⟩
  match i, hi, hq with
  | 0, _, hq => exact hq
  | _ + 1, _, hq => rw [putA_off _ _ (by omega)] at hq; exact hq
theorem Pr.right {A B : (Nat → Prop) → World → Prop} (hA : Stands A) (hB : Stands B) {O : Nat → Prop} {w : World} (h : Pr A B O w) : ∃ OB, B OB w ∧ (∀ k, OB k → O k) ∧ ∀ (w' : World) (B' : (Nat → Prop) → World → Prop), Stands B' → To B' OB w w' → To (Pr A B') O w w' := by
  obtain ⟨OB, h1, h2, h3⟩ := Beside.step (two_stands hA hB) h (i := 1) (by omega)
  refine ⟨OB, h1, h2, fun w' B' hB' ht => (h3 w' B' hB' ht).mono (fun O1 k => k.same (fun i hi Q hq => ?_))⟩
  match i, hi, hq with
  | 0, _, hq => rw [putA_off _ _ (by omega)] at hq; exact hq
  | 1, _, hq => rw [putA_at] at hq; exact hq
theorem Pr.new {A B : (Nat → Prop) → World → Prop} (hA : Stands A) (hB : Stands B) {w0 w w1 : World} (h : Lv A w0 (fun k => k ∈ ([] : List Nat)) w) (hb : Below w.heap.size w w1) (h1 : Lv B w (fun k => k ∈ ([] : List Nat)) w1) : Lv (Pr A B) w0 (fun k => k ∈ ([] : List Nat)) w1 := by
  obtain ⟨O, a1, a2⟩ := h.inn
  obtain ⟨Q, b1, b2⟩ := h1.inn
  refine ⟨⟨fun k => O k ∨ Q k, ⟨fun k hk => hk.elim (fun q => Nat.lt_of_lt_of_le (hA.own a1 k q) hb.size) (hB.own b1 k), fun i => if i = 0 then O else Q, fun i hi => ?_, fun i hi k hk => ?_, fun i j hi hj hij k hk hk' => ?_⟩, fun k hk => hk.elim (a2 k) (fun q => ⟨Nat.le_trans h.below.size (b2 k q).1, (b2 k q).2⟩)⟩, after h.below hb h.below.size, fun k hk => by simp at hk⟩
  · match i, hi with
    | 0, _ => exact hA.next a1 hb
    | 1, _ => exact b1
  · match i, hi, hk with
    | 0, _, hk => exact .inl hk
    | 1, _, hk => exact .inr hk
  · have x : ∀ k, O k → Q k → False := fun k o q => by have := hA.own a1 k o; have := (b2 k q).1; omega
    match i, hi, j, hj, hij, hk, hk' with
    | 0, _, 1, _, _, hk, hk' => exact x k hk hk'
    | 1, _, 0, _, _, hk, hk' => exact x k hk' hk
    | 0, _, 0, _, hij, _, _ => exact hij rfl
    | 1, _, 1, _, hij, _, _ => exact hij rfl

end Go.Proofs.YtbgnajcmhmpjlacGreat

namespace Go.Proofs.YtbgnajcmhmpjlacGreat
open Go.RowKit

def vsT (b m : Nat) (c : Nat → Nat) (ws : Nat → Int) : List Value := [.pointer (some ⟨b, 0, none⟩), .int .i64 (ws 0), .int .i64 (ws 1), .int .i64 (ws 2), .int .i64 (ws 3), .int .i64 (ws 4), .int .i64 (ws 5), .pointer (some ⟨c 0, 0, none⟩), .pointer (some ⟨c 1, 0, none⟩), .pointer (some ⟨c 2, 0, none⟩), .pointer (some ⟨m, 0, none⟩)]
def TnIn (p b m : Nat) (c : Nat → Nat) (ws : Nat → Int) (T : Twn) (O : Nat → Prop) (w : World) : Prop := TwAt p (vsT b m c ws) b m c ws T O w
theorem tn_stands (p b m : Nat) (c : Nat → Nat) (ws : Nat → Int) (T : Twn) : Stands (TnIn p b m c ws T) := tw_stands p (vsT b m c ws) b m c ws T
theorem TnIn.lt {p b m : Nat} {c : Nat → Nat} {ws : Nat → Int} {T : Twn} {O : Nat → Prop} {w : World} (h : TnIn p b m c ws T O w) : p < w.heap.size := (TwAt.cells h).1
theorem TnIn.mine {p b m : Nat} {c : Nat → Nat} {ws : Nat → Int} {T : Twn} {O : Nat → Prop} {w : World} (h : TnIn p b m c ws T O w) : O p := (TwAt.cells h).2.1
theorem TnIn.c0 {p b m : Nat} {c : Nat → Nat} {ws : Nat → Int} {T : Twn} {O : Nat → Prop} {w : World} (h : TnIn p b m c ws T O w) : w.cell? ⟨p, 0, none⟩ = some (.pointer (some ⟨b, 0, none⟩)) := (TwAt.cells h).2.2 0 _ rfl
theorem TnIn.c10 {p b m : Nat} {c : Nat → Nat} {ws : Nat → Int} {T : Twn} {O : Nat → Prop} {w : World} (h : TnIn p b m c ws T O w) : w.cell? ⟨p, 10, none⟩ = some (.pointer (some ⟨m, 0, none⟩)) := (TwAt.cells h).2.2 10 _ rfl
theorem TnIn.fr {p b m : Nat} {c : Nat → Nat} {ws : Nat → Int} {T : Twn} {O : Nat → Prop} {w : World} (h : TnIn p b m c ws T O w) {k : Nat} (hk : k < 6) : w.cell? ⟨p, 1 + k, none⟩ = some (.int .i64 (ws k)) := by
  have q := (TwAt.cells h).2.2
  match k, hk with
  | 0, _ => exact q 1 _ rfl
  | 1, _ => exact q 2 _ rfl
  | 2, _ => exact q 3 _ rfl
  | 3, _ => exact q 4 _ rfl
  | 4, _ => exact q 5 _ rfl
  | 5, _ => exact q 6 _ rfl
theorem TnIn.ptr {p b m : Nat} {c : Nat → Nat} {ws : Nat → Int} {T : Twn} {O : Nat → Prop} {w : World} (h : TnIn p b m c ws T O w) {s : Nat} (hs : s < 3) : w.cell? ⟨p, 7 + s, none⟩ = some (.pointer (some ⟨c s, 0, none⟩)) := by
  have q := (TwAt.cells h).2.2
  match s, hs with
  | 0, _ => exact q 7 _ rfl
  | 1, _ => exact q 8 _ rfl
  | 2, _ => exact q 9 _ rfl
theorem TnIn.brk {p b m : Nat} {c : Nat → Nat} {ws : Nat → Int} {T : Twn} {O : Nat → Prop} {w : World} (h : TnIn p b m c ws T O w) : ∃ Ob, BrkIn Ob w b T.B ∧ (∀ k, Ob k → O k) ∧ ∀ (w' : World) (B' : Bok), BrkTo Ob w w' b B' → To (TnIn p b m c ws { T with B := B' }) O w w' := TwAt.brk h
theorem TnIn.mail {p b m : Nat} {c : Nat → Nat} {ws : Nat → Int} {T : Twn} {O : Nat → Prop} {w : World} (h : TnIn p b m c ws T O w) : ∃ Om, MailIn Om w m 0 T.M ∧ (∀ k, Om k → O k) ∧ ∀ (w' : World) (l' : List Ml), Sent Om w w' m 0 l' → To (TnIn p b m c ws { T with M := l' }) O w w' := TwAt.mail h
theorem TnIn.clk {p b m : Nat} {c : Nat → Nat} {ws : Nat → Int} {T : Twn} {O : Nat → Prop} {w : World} (h : TnIn p b m c ws T O w) {s : Nat} (hs : s < 3) : ∃ Oc, ClkIn Oc w (c s) (s : Int) ws (T.P s) ∧ (∀ k, Oc k → O k) ∧ ∀ (w' : World) (K' : Kb), ClkTo Oc w w' (c s) (s : Int) ws K' → To (TnIn p b m c ws { T with P := updP T.P s K' }) O w w' := TwAt.clk h hs

def T00 (ws : Nat → Int) : Twn := ⟨⟨[], []⟩, fun s => ⟨book0 (s : Int) ws, []⟩, []⟩
def vsN (k b m : Nat) (c : Nat → Nat) (ws : Nat → Int) : List Value := [.pointer (some ⟨b, 0, none⟩), .int .i64 (ws 0), .int .i64 (ws 1), .int .i64 (ws 2), .int .i64 (ws 3), .int .i64 (ws 4), .int .i64 (ws 5), .pointer (if 0 < k then some ⟨c 0, 0, none⟩ else none), .pointer (if 1 < k then some ⟨c 1, 0, none⟩ else none), .pointer (if 2 < k then some ⟨c 2, 0, none⟩ else none), .pointer (some ⟨m, 0, none⟩)]
def TnNew (k n0 p b m : Nat) (ws : Nat → Int) (w : World) : Prop := ∃ c O, Beside (k + 3) (townA p (vsN k b m c ws) b m c ws (T00 ws)) O w ∧ ∀ j, O j → n0 ≤ j
theorem townB_stands (k p : Nat) (vs : List Value) (b m : Nat) (c : Nat → Nat) (ws : Nat → Int) (T : Twn) : ∀ i, i < k + 3 → Stands (townA p vs b m c ws T i)
  | 0, _ => cells_stands p vs
  | 1, _ => brk_stands b T.B
  | 2, _ => mail_stands m 0 T.M
  | s + 3, _ => clk_stands (c s) s ws (T.P s)
theorem TnNew.next {k n0 p b m : Nat} {ws : Nat → Int} {w w1 : World} (h : TnNew k n0 p b m ws w) (hb : Below w.heap.size w w1) : TnNew k n0 p b m ws w1 := by
  obtain ⟨c, O, h1, h2⟩ := h
  exact ⟨c, O, (Beside.stands (townB_stands k p _ b m c ws _)).next h1 hb, h2⟩
theorem TnNew.cell {k n0 p b m : Nat} {ws : Nat → Int} {w : World} (h : TnNew k n0 p b m ws w) : ∃ c, n0 ≤ p ∧ p < w.heap.size ∧ (∀ j, w.frozen? ⟨p, j, none⟩ = false) ∧ ∀ j u, (vsN k b m c ws)[j]? = some u → w.cell? ⟨p, j, none⟩ = some u := by
  obtain ⟨c, O, h1, h2⟩ := h
  obtain ⟨Q, q1, q2, _⟩ := h1.raw
  have h0 : Cells p (vsN k b m c ws) (Q 0) w := q1 0 (by omega)
  exact ⟨c, h2 p (q2 0 (by omega) p h0.2.1), h0.1 p h0.2.1, h0.2.2.1, h0.2.2.2⟩
theorem TnNew.done {n0 p b m : Nat} {ws : Nat → Int} {w : World} (h : TnNew 3 n0 p b m ws w) : ∃ c O, TnIn p b m c ws (T00 ws) O w ∧ ∀ j, O j → n0 ≤ j := by
  obtain ⟨c, O, h1, h2⟩ := h
  exact ⟨c, O, h1, h2⟩
def putC (c : Nat → Nat) (k q : Nat) : Nat → Nat := fun j => if j = k then q else c j
theorem TnNew.clerk {k n0 p b m q : Nat} {ws : Nat → Int} {w w1 : World} {O1 : Nat → Prop} (h : TnNew k n0 p b m ws w) (hk : k < 3) (hb : Below w.heap.size w w1) (h1 : ClkIn O1 w1 q (k : Int) ws ⟨book0 (k : Int) ws, []⟩) (hn : ∀ j, O1 j → w.heap.size ≤ j) : TnNew (k + 1) n0 p b m ws (w1.setCell ⟨p, 7 + k, none⟩ (.pointer (some ⟨q, 0, none⟩))) := by
  obtain ⟨c, O, a1, a2⟩ := h
  have a3 : Beside (k + 3) (townA p (vsN k b m c ws) b m (putC c k q) ws (T00 ws)) O w := by
    refine a1.same (fun i hi Q hq => ?_)
    match i, hi, hq with
    | 0, _, hq => exact hq
    | 1, _, hq => exact hq
    | 2, _, hq => exact hq
    | s + 3, hi, hq =>
      show ClkIn Q w (putC c k q s) (s : Int) ws _
      unfold putC
      rw [if_neg (by omega)]
      exact hq
  have a4 : Beside (k + 1 + 3) (townA p (vsN k b m c ws) b m (putC c k q) ws (T00 ws)) (fun j => O j ∨ O1 j) w1 := by
    have := Beside.more (n := k + 3) (O1 := O1) (townB_stands (k + 1) p (vsN k b m c ws) b m (putC c k q) ws (T00 ws)) a3 hb (by
      show ClkIn O1 w1 (putC c k q k) (k : Int) ws _
      unfold putC
      rw [if_pos rfl]
      exact h1) hn
    exact this
  obtain ⟨Op, p1, p2, p3⟩ := Beside.step (townB_stands (k + 1) p (vsN k b m c ws) b m (putC c k q) ws (T00 ws)) a4 (i := 0) (by omega)
  have p1' : Cells p (vsN k b m c ws) Op w1 := p1
  have hc : ∀ j u, (vsN (k + 1) b m (putC c k q) ws)[j]? = some u → (w1.setCell ⟨p, 7 + k, none⟩ (.pointer (some ⟨q, 0, none⟩))).cell? ⟨p, j, none⟩ = some u := by
    intro j u hu
    have hj : j < 11 := by have := (List.getElem?_eq_some_iff.1 hu).1; simpa [vsN] using this
    by_cases e : j = 7 + k
    · subst e
      have : u = .pointer (some ⟨q, 0, none⟩) := by
        match k, hk, hu with
        | 0, _, hu => simpa [vsN, putC] using hu.symm
        | 1, _, hu => simpa [vsN, putC] using hu.symm
        | 2, _, hu => simpa [vsN, putC] using hu.symm
      rw [this]
      obtain ⟨v, hv⟩ : ∃ v, (vsN k b m c ws)[7 + k]? = some v := ⟨_, List.getElem?_eq_getElem (by simp [vsN]; omega)⟩
      exact cell_set_same (p1'.2.2.2 _ v hv)
    · rw [cell_set_off (by omega)]
      refine p1'.2.2.2 j u ?_
      rw [← hu]
      match k, hk, j, hj, e with
      | 0, _, 0, _, _ => rfl
      | 0, _, 1, _, _ => rfl
      | 0, _, 2, _, _ => rfl
      | 0, _, 3, _, _ => rfl
      | 0, _, 4, _, _ => rfl
      | 0, _, 5, _, _ => rfl
      | 0, _, 6, _, _ => rfl
      | 0, _, 7, _, e => exact absurd rfl e
      | 0, _, 8, _, _ => simp [vsN, putC]
      | 0, _, 9, _, _ => simp [vsN, putC]
      | 0, _, 10, _, _ => rfl
      | 1, _, 0, _, _ => rfl
      | 1, _, 1, _, _ => rfl
      | 1, _, 2, _, _ => rfl
      | 1, _, 3, _, _ => rfl
      | 1, _, 4, _, _ => rfl
      | 1, _, 5, _, _ => rfl
      | 1, _, 6, _, _ => rfl
      | 1, _, 7, _, _ => simp [vsN, putC]
      | 1, _, 8, _, e => exact absurd rfl e
      | 1, _, 9, _, _ => simp [vsN, putC]
      | 1, _, 10, _, _ => rfl
      | 2, _, 0, _, _ => rfl
      | 2, _, 1, _, _ => rfl
      | 2, _, 2, _, _ => rfl
      | 2, _, 3, _, _ => rfl
      | 2, _, 4, _, _ => rfl
      | 2, _, 5, _, _ => rfl
      | 2, _, 6, _, _ => rfl
      | 2, _, 7, _, _ => simp [vsN, putC]
      | 2, _, 8, _, _ => simp [vsN, putC]
      | 2, _, 9, _, e => exact absurd rfl e
      | 2, _, 10, _, _ => rfl
  have hsv : Save Op w1 (w1.setCell ⟨p, 7 + k, none⟩ (.pointer (some ⟨q, 0, none⟩))) := (Save.refl Op w1).setCell (p := ⟨p, 7 + k, none⟩) (fun _ => p1'.2.1) _
  have hto : To (Cells p (vsN (k + 1) b m (putC c k q) ws)) Op w1 (w1.setCell ⟨p, 7 + k, none⟩ (.pointer (some ⟨q, 0, none⟩))) :=
    ⟨Op, ⟨fun j hj => Nat.lt_of_lt_of_le (p1'.1 j hj) hsv.size, p1'.2.1, fun j => by simpa [go_sem] using p1'.2.2.1 j, hc⟩, hsv, fun j hj => .inl hj⟩
  obtain ⟨O2, b1, b2, b3⟩ := p3 _ _ (cells_stands p _) hto
  refine ⟨putC c k q, O2, ?_, fun j hj => ?_⟩
  · refine b1.same (fun i hi Q hq => ?_)
    match i, hi, hq with
    | 0, _, hq => exact hq
    | 1, _, hq => rw [putA_off _ _ (by omega)] at hq; exact hq
    | 2, _, hq => rw [putA_off _ _ (by omega)] at hq; exact hq
    | s + 3, _, hq => rw [putA_off _ _ (by omega)] at hq; exact hq
  · have hp : n0 ≤ w.heap.size ∨ True := .inr trivial
    rcases b3 j hj with (a | a) | a
    · exact a2 j a
    · have := hn j a
      have hz : n0 ≤ w.heap.size := by
        obtain ⟨Q, q1, q2, _⟩ := a1.raw
        have h0 : Cells p (vsN k b m c ws) (Q 0) w := q1 0 (by omega)
        have := a2 p (q2 0 (by omega) p h0.2.1)
        have := h0.1 p h0.2.1
        omega
      omega
    · have hz : n0 ≤ w.heap.size := by
        obtain ⟨Q, q1, q2, _⟩ := a1.raw
        have h0 : Cells p (vsN k b m c ws) (Q 0) w := q1 0 (by omega)
        have := a2 p (q2 0 (by omega) p h0.2.1)
        have := h0.1 p h0.2.1
        omega
      have := hb.size
      omega

structure TLv (w0 : World) (Z : Nat → Prop) (w : World) (p b m : Nat) (c : Nat → Nat) (ws : Nat → Int) (T : Twn) : Prop where
  lv : Lv (TnIn p b m c ws T) w0 Z w
  full : Full ws T
  ok : ∀ s : Nat, s < 3 → newOk (s : Int) ws = true

end Go.Proofs.YtbgnajcmhmpjlacGreat
