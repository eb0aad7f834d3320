/- For every number, every world, every two lists of records and every number: the statement KeepDoes of the program returns true, and its arguments read as before (no condition). -/
import Derived.Test.YtbgnajcmhmpjlabRows
import Derived.Test.YtbgnajcmhmpjlabKKit
import Derived.Test.YtbgnajcmhmpjlabNPens
namespace Go.Proofs.Ytbgnajcmhmpjlab
open Go.RowKit


/-- A keeper and the document's pen beside it, made since w0, apart, outside Z. -/
structure KP (w0 : World) (Z : Nat → Prop) (w : World) (q s : Nat) (no : Int) (ws : Nat → Int) (K L : Kb) : Prop where
  inn : ∃ O1 O2, KeepIn O1 w q no ws K ∧ PenIn O2 w s L ∧ (∀ k, O1 k → ¬ O2 k) ∧ (∀ k, O1 k → w0.heap.size ≤ k ∧ ¬ Z k) ∧ (∀ k, O2 k → w0.heap.size ≤ k ∧ ¬ Z k)
  below : Below w0.heap.size w0 w
  kept : ∀ k, Z k → k < w.heap.size
theorem KP.next {w0 w w1 : World} {Z : Nat → Prop} {q s : Nat} {no : Int} {ws : Nat → Int} {K L : Kb} (h : KP w0 Z w q s no ws K L) (hb : Below w.heap.size w w1) : KP w0 Z w1 q s no ws K L := by
  obtain ⟨O1, O2, h1, h2, h3, h4, h5⟩ := h.inn
  exact ⟨⟨O1, O2, h1.next hb, h2.next hb, h3, h4, h5⟩, after h.below hb h.below.size, fun k hk => Nat.lt_of_lt_of_le (h.kept k hk) hb.size⟩
theorem KP.keep {w0 w : World} {Z : Nat → Prop} {q s : Nat} {no : Int} {ws : Nat → Int} {K L : Kb} (h : KP w0 Z w q s no ws K L) : KLive w0 Z w q no ws K := by
  obtain ⟨O1, O2, h1, h2, h3, h4, h5⟩ := h.inn
  exact ⟨⟨O1, h1, h4⟩, h.below, h.kept⟩
theorem kp_step_k {w0 w w' : World} {Z O1 O2 O' : Nat → Prop} {q s : Nat} {no : Int} {ws : Nat → Int} {K K' L : Kb} (h : KP w0 Z w q s no ws K L) (h2 : PenIn O2 w s L) (h3 : ∀ k, O1 k → ¬ O2 k) (h4 : ∀ k, O1 k → w0.heap.size ≤ k ∧ ¬ Z k) (h5 : ∀ k, O2 k → w0.heap.size ≤ k ∧ ¬ Z k) (k1 : KeepIn O' w' q no ws K') (k2 : Save O1 w w') (k3 : Moved O1 O' w) : KP w0 Z w' q s no ws K' L :=
  ⟨⟨O', O2, k1, h2.save k2 (fun k hk hk' => h3 k hk' hk), fun k hk hk' => (k3 k hk).elim (fun q => h3 k q hk') (fun q => by have := h2.own k hk'; omega), fun k hk => (k3 k hk).elim (h4 k) (fun q => ⟨Nat.le_trans h.below.size q, fun z => by have := h.kept k z; omega⟩), h5⟩, h.below.trans (k2.below (fun k hk hO => by have := (h4 k hO).1; omega) h.below.size), fun k hk => Nat.lt_of_lt_of_le (h.kept k hk) k2.size⟩
theorem kp_do_k {w0 w : World} {Z : Nat → Prop} {q s : Nat} {no : Int} {ws : Nat → Int} {K L : Kb} (r : Stp) (h : KP w0 Z w q s no ws K L) (hG : Good K.A) (hl : K.A.hs.length < 2 ^ 40) (hr : K.rs.length < 2 ^ 40) : Calls Try.prog 24 #[.pointer (some ⟨q, 0, none⟩), .agg #[.int .i64 r.what, .int .i64 r.deal, .int .i64 r.c, .int .i64 r.d, .bool r.done]] w fun e w' => e = .returned (.int .i64 (doR K r).1) ∧ KP w0 Z w' q s no ws (doR K r).2 L := by
  obtain ⟨O1, O2, h1, h2, h3, h4, h5⟩ := h.inn
  refine (kdo_any O1 no ws K q r w h1 hG hl hr).mono ?_
  rintro e w' ⟨he, O', k1, k2, k3⟩
  exact ⟨he, kp_step_k h h2 h3 h4 h5 k1 k2 k3⟩
theorem kp_crash {w0 w : World} {Z : Nat → Prop} {q s : Nat} {no : Int} {ws : Nat → Int} {K L : Kb} (h : KP w0 Z w q s no ws K L) (hG : GoodK (book0 no ws) K) (hok : newOk no ws = true) (hr : K.rs.length < 1000000) : Calls Try.prog 26 #[.pointer (some ⟨q, 0, none⟩)] w fun e w' => e = .returned (.tuple #[]) ∧ KP w0 Z w' q s no ws K L := by
  obtain ⟨O1, O2, h1, h2, h3, h4, h5⟩ := h.inn
  refine (kcrash_any O1 no ws K q w h1 hG hok hr).mono ?_
  rintro e w' ⟨he, O', k1, k2, k3⟩
  exact ⟨he, kp_step_k h h2 h3 h4 h5 k1 k2 k3⟩
theorem kp_do_p {w0 w : World} {Z : Nat → Prop} {q s : Nat} {no : Int} {ws : Nat → Int} {K L : Kb} (r : Stp) (h : KP w0 Z w q s no ws K L) (hG : Good L.A) (hl : L.A.hs.length < 1000000) (he : L.A.es.length < 1000000) (hr : L.rs.length ≤ 150) : Calls Try.prog 25 #[.pointer (some ⟨s, 0, none⟩), .agg #[.int .i64 r.what, .int .i64 r.deal, .int .i64 r.c, .int .i64 r.d, .bool r.done]] w fun e w' => e = .returned (.int .i64 (doR L r).1) ∧ KP w0 Z w' q s no ws K (doR L r).2 := by
  obtain ⟨O1, O2, h1, h2, h3, h4, h5⟩ := h.inn
  refine (pdo_any O2 L s r w h2 hG hl he hr).mono ?_
  rintro e w' ⟨he, O', k1, k2, k3⟩
  exact ⟨he, ⟨⟨O1, O', h1.save k2 (fun k hk hk' => h3 k hk hk'), k1, fun k hk hk' => (k3 k hk').elim (fun q => h3 k hk q) (fun q => by have := h1.own k hk; omega), h4, fun k hk => (k3 k hk).elim (h5 k) (fun q => ⟨Nat.le_trans h.below.size q, fun z => by have := h.kept k z; omega⟩)⟩, h.below.trans (k2.below (fun k hk hO => by have := (h5 k hO).1; omega) h.below.size), fun k hk => Nat.lt_of_lt_of_le (h.kept k hk) k2.size⟩⟩

/-- Is a shop, or a booth, answered behind records? -/
def RepOk (no : Int) (ws : Nat → Int) (l : List Stp) : Prop := newOk no ws = true ∧ (faultR (book0 no ws) l 0).1 = 0
def repC (no : Int) (ws : Nat → Int) (l : List Stp) : Int × Int := if newOk no ws = true then (if (faultR (book0 no ws) l 0).1 = 0 then (0, 0) else faultR (book0 no ws) l 0) else (1, -1)
theorem rep_split {no : Int} {ws : Nat → Int} {l : List Stp} {w w' : World} {e : Ending} (h : RepIs no ws l w e w') : ∃ v, e = .returned (.tuple #[v, .agg #[.int .i64 (repC no ws l).1, .int .i64 (repC no ws l).2]]) ∧ ((RepOk no ws l ∧ ∃ p O, v = .pointer (some ⟨p, 0, none⟩) ∧ ShopIn O w' p (runR (book0 no ws) l)) ∨ (¬ RepOk no ws l ∧ v = .pointer none)) := by
  unfold RepIs at h
  unfold repC
  by_cases h1 : newOk no ws = true
  · rw [if_pos h1] at h ⊢
    by_cases h2 : (faultR (book0 no ws) l 0).1 = 0
    · rw [if_pos h2] at h ⊢
      obtain ⟨p, O, e1, e2, _⟩ := h
      exact ⟨_, e1, .inl ⟨⟨h1, h2⟩, p, O, rfl, e2⟩⟩
    · rw [if_neg h2] at h ⊢
      exact ⟨_, h, .inr ⟨fun q => h2 q.2, rfl⟩⟩
  · rw [if_neg h1] at h ⊢
    exact ⟨_, h, .inr ⟨fun q => h1 q.1, rfl⟩⟩
theorem brep_split {no : Int} {ws : Nat → Int} {l : List Stp} {w w' : World} {e : Ending} (h : BRepIs no ws l w e w') : ∃ v, e = .returned (.tuple #[v, .agg #[.int .i64 (repC no ws l).1, .int .i64 (repC no ws l).2]]) ∧ ((RepOk no ws l ∧ ∃ p O, v = .pointer (some ⟨p, 0, none⟩) ∧ BoothIn O w' p (runR (book0 no ws) l)) ∨ (¬ RepOk no ws l ∧ v = .pointer none)) := by
  unfold BRepIs at h
  unfold repC
  by_cases h1 : newOk no ws = true
  · rw [if_pos h1] at h ⊢
    by_cases h2 : (faultR (book0 no ws) l 0).1 = 0
    · rw [if_pos h2] at h ⊢
      obtain ⟨p, O, e1, e2, _⟩ := h
      exact ⟨_, e1, .inl ⟨⟨h1, h2⟩, p, O, rfl, e2⟩⟩
    · rw [if_neg h2] at h ⊢
      exact ⟨_, h, .inr ⟨fun q => h2 q.2, rfl⟩⟩
  · rw [if_neg h1] at h ⊢
    exact ⟨_, h, .inr ⟨fun q => h1 q.1, rfl⟩⟩
theorem run_len {l : List Stp} : ∀ (A : Bk), Good A → Good (runR A l) ∧ (runR A l).hs.length ≤ A.hs.length + l.length ∧ (runR A l).es.length ≤ A.es.length + l.length := by
  induction l with
  | nil => intro A h; exact ⟨h, Nat.le_refl _, Nat.le_refl _⟩
  | cons r t ih =>
    intro A h
    have h1 := tell_len A r
    obtain ⟨a, b, c⟩ := ih (tellR A r).2 (good_tell h r)
    exact ⟨a, by show (runR (tellR A r).2 t).hs.length ≤ _; simp; omega, by show (runR (tellR A r).2 t).es.length ≤ _; simp; omega⟩
theorem eqF (a b : Int) (W : World) : (Op.equalIn 10000 28 (.agg #[.int .i64 a, .int .i64 b]) (.agg #[.int .i64 a, .int .i64 b])).run Try.prog W = .ok true W := by
  rw [show (10000 : Nat) = 9999 + 1 from rfl]
  simp [Op.eqFields, go_sem]

set_option maxHeartbeats 8000000 in
set_option maxRecDepth 100000 in
theorem kdoes_walk (no : Int) (ws : Nat → Int) (la : Option Addr) (ll lc : Nat) (l : List Stp) (ma : Option Addr) (lm mc : Nat) (m : List Stp) (cr : Int) (w : World) (hl : StepsAt w la l) (hll : l.length = ll) (hm : StepsAt w ma m) (hlm : m.length = lm) :
    Calls Try.prog 3 #[.int .i64 no, .agg #[.int .i64 (ws 0), .int .i64 (ws 1), .int .i64 (ws 2), .int .i64 (ws 3), .int .i64 (ws 4), .int .i64 (ws 5)], .slice la ll lc, .slice ma lm mc, .int .i64 cr] w fun e w' => e = .returned (.bool true) ∧ Below w.heap.size w w' := by
  by_cases hbig : 150 < ll
  · have hbig' : (150 : Int) < (ll : Int) := by omega
    clear hl hll hbig hm hlm
    go_enter Try.func3, Try.ntmps3
    go_wp2_with fail
    refine (kbegun_any _).mono ?_
    rintro e w1 ⟨rfl, hb1⟩
    go_wp2_with fail
    go_ret
    exact ⟨rfl, after (by go_grown) hb1 (by simp)⟩
  · by_cases hbig2 : 150 < lm
    · have hbig' : decide ((150 : Int) < (ll : Int)) = false := decide_eq_false (by omega)
      have hbig2' : (150 : Int) < (lm : Int) := by omega
      clear hl hll hbig hbig2 hm hlm
      go_enter Try.func3, Try.ntmps3
      go_wp2_with fail
      refine (kbegun_any _).mono ?_
      rintro e w1 ⟨rfl, hb1⟩
      go_wp2_with fail
      all_goals
        go_ret
        exact ⟨rfl, after (by go_grown) hb1 (by simp)⟩
    · have hbig' : ¬ (150 : Int) < (ll : Int) := by omega
      have hbig2' : ¬ (150 : Int) < (lm : Int) := by omega
      have HB : Hid (ll ≤ 150 ∧ lm ≤ 150) := ⟨by omega, by omega⟩
      clear hbig hbig2
      go_enter Try.func3, Try.ntmps3
      go_wp2_with fail
      refine (kbegun_any _).mono ?_
      rintro e w1 ⟨rfl, hb1⟩
      have hX := (box_new6 w ws 23).next hb1
      have hb2 : Below w.heap.size w w1 := after (by go_grown) hb1 (by simp)
      have x0 := hX.2 0 _ rfl
      have x1 := hX.2 1 _ rfl
      have x2 := hX.2 2 _ rfl
      have x3 := hX.2 3 _ rfl
      have x4 := hX.2 4 _ rfl
      have x5 := hX.2 5 _ rfl
      have HTl : Hid (StepsAt w la l) := hl
      have HTm : Hid (StepsAt w ma m) := hm
      clear hb1 hl hm
      go_wp2_with fail
      refine Calls.mono ((krep_any no ws ma lm mc m w1 (HTm.out.below hb2 (Nat.le_refl _)) hlm (by have := HB.out; omega)).mono (fun e w' h => And.intro (rep_split h.1) h.2)) ?_
      rintro e w2 ⟨⟨v1, rfl, hV1⟩, hb3⟩
      have hX2 := hX.next hb3
      have hb4 : Below w.heap.size w w2 := after hb2 hb3 hb2.size
      clear x0 x1 x2 x3 x4 x5 hX hb2 hb3
      obtain ⟨fc, hfc⟩ : ∃ fc, fc = repC no ws m := ⟨_, rfl⟩
      have HFc : Hid _ := hfc
      rw [← hfc]
      clear hfc
      go_upto_region 6 with fail
      have hF := Box2.new w2 28 fc.1 fc.2
      have hbn : Below w2.heap.size w2 (w2.alloc (.cells #[.int .i64 fc.1, .int .i64 fc.2] 28)) := (Below.refl _ _).alloc (Nat.le_refl _) _
      have hX3 := hX2.next hbn
      have hb5 : Below w.heap.size w (w2.alloc (.cells #[.int .i64 fc.1, .int .i64 fc.2] 28)) := after hb4 hbn hb4.size
      have HV1 : Hid ((RepOk no ws m ∧ ∃ p O, v1 = .pointer (some ⟨p, 0, none⟩) ∧ ShopIn O (w2.alloc (.cells #[.int .i64 fc.1, .int .i64 fc.2] 28)) p (runR (book0 no ws) m)) ∨ (¬ RepOk no ws m ∧ v1 = .pointer none)) := hV1.imp_left (fun ⟨a, p, O, b, c⟩ => ⟨a, p, O, b, c.next hbn⟩)
      generalize (w2.alloc (.cells #[.int .i64 fc.1, .int .i64 fc.2] 28)) = W3 at hF hX3 hb5 HV1 ⊢
      generalize w2.heap.size = fb at hF ⊢
      clear hV1 hbn hX2 hb4
      have x0 := hX3.2 0 _ rfl
      have x1 := hX3.2 1 _ rfl
      have x2 := hX3.2 2 _ rfl
      have x3 := hX3.2 3 _ rfl
      have x4 := hX3.2 4 _ rfl
      have x5 := hX3.2 5 _ rfl
      go_wp2_with fail
      refine Calls.mono ((brep_any no ws ma lm mc m W3 (HTm.out.below hb5 (Nat.le_refl _)) hlm HB.out.2).mono (fun e w' h => And.intro (brep_split h.1) h.2)) ?_
      rintro e w4 ⟨⟨v2, rfl, hV2⟩, hb6⟩
      rw [← HFc.out]
      have hX4 := hX3.next hb6
      have hF4 := hF.next hb6
      have hb7 : Below w.heap.size w w4 := after hb5 hb6 hb5.size
      have HV2 : Hid ((RepOk no ws m ∧ ∃ p O, v1 = .pointer (some ⟨p, 0, none⟩) ∧ ShopIn O w4 p (runR (book0 no ws) m)) ∨ (¬ RepOk no ws m ∧ v1 = .pointer none)) := HV1.out.imp_left (fun ⟨a, p, O, b, c⟩ => ⟨a, p, O, b, c.next hb6⟩)
      clear x0 x1 x2 x3 x4 x5 hX3 hF HV1 hb5 hb6
      go_upto_region 7 with fail
      have hG := Box2.new w4 28 fc.1 fc.2
      have hbn : Below w4.heap.size w4 (w4.alloc (.cells #[.int .i64 fc.1, .int .i64 fc.2] 28)) := (Below.refl _ _).alloc (Nat.le_refl _) _
      have hX5 := hX4.next hbn
      have hF5 := hF4.next hbn
      have hb8 : Below w.heap.size w (w4.alloc (.cells #[.int .i64 fc.1, .int .i64 fc.2] 28)) := after hb7 hbn hb7.size
      have HV5 : Hid ((RepOk no ws m ∧ ∃ p O q2 O2, v1 = .pointer (some ⟨p, 0, none⟩) ∧ v2 = .pointer (some ⟨q2, 0, none⟩) ∧ ShopIn O (w4.alloc (.cells #[.int .i64 fc.1, .int .i64 fc.2] 28)) p (runR (book0 no ws) m) ∧ BoothIn O2 (w4.alloc (.cells #[.int .i64 fc.1, .int .i64 fc.2] 28)) q2 (runR (book0 no ws) m)) ∨ (v1 = .pointer none ∧ v2 = .pointer none)) := by
        rcases HV2.out with ⟨a, p, O, b, c⟩ | ⟨a, b⟩
        · rcases hV2 with ⟨_, p', O', b', c'⟩ | ⟨a', _⟩
          · exact .inl ⟨a, p, O, p', O', b, b', c.next hbn, c'.next hbn⟩
          · exact absurd a a'
        · rcases hV2 with ⟨a', _⟩ | ⟨_, b'⟩
          · exact absurd a' a
          · exact .inr ⟨b, b'⟩
      generalize (w4.alloc (.cells #[.int .i64 fc.1, .int .i64 fc.2] 28)) = W5 at hG hX5 hF5 hb8 HV5 ⊢
      generalize w4.heap.size = gb at hG ⊢
      clear hX4 hF4 hb7 hbn hV2 HV2
      go_cut [72] (fun s72 wx => s72 = .bool false ∧ Below W5.heap.size W5 wx)
      case first =>
        have hfl := hF5.lt
        have hgl := hG.lt
        have HK : Hid (∀ w', Below W5.heap.size W5 w' → w'.cell? ⟨fb, 0, none⟩ = some (.int .i64 fc.1) ∧ w'.cell? ⟨fb, 1, none⟩ = some (.int .i64 fc.2) ∧ w'.cell? ⟨gb, 0, none⟩ = some (.int .i64 fc.1) ∧ w'.cell? ⟨gb, 1, none⟩ = some (.int .i64 fc.2) ∧ Below W5.heap.size W5 w') := fun w' hb => ⟨((bcell hb).1 _ _ hfl).trans hF5.c0, ((bcell hb).1 _ _ hfl).trans hF5.c1, ((bcell hb).1 _ _ hgl).trans hG.c0, ((bcell hb).1 _ _ hgl).trans hG.c1, hb⟩
        have hqf : ∀ W : World, (Op.equalIn 10000 28 (.agg #[.int .i64 fc.1, .int .i64 fc.2]) (.agg #[.int .i64 fc.1, .int .i64 fc.2])).run Try.prog W = .ok true W := eqF _ _
        rcases HV5.out with ⟨hrok, p, O, q2, O2, rfl, rfl, hI, hJ⟩ | ⟨rfl, rfl⟩
        · obtain ⟨g1, g2, g3⟩ := run_len (l := m) (book0 no ws) (good_new hrok.1)
          have HLr : Hid ((runR (book0 no ws) m).hs.length ≤ 150) := by have := HB.out; have : (book0 no ws).hs.length = 0 := rfl; show _ ≤ _; omega
          have HGr : Hid (Good (runR (book0 no ws) m)) := g1
          clear hrok g1 g2 g3 HV5
          generalize runR (book0 no ws) m = A at *
          obtain ⟨hv, ov, dv, hRw, hrow, _⟩ := hJ.raw
          obtain ⟨ga, cap, rfl, hH, _⟩ := holds_of_own hrow
          have hql := hRw.lt
          have c3 := hRw.c3
          have HH : Hid (HoldsAt W5 ga A.hs) := hH
          have HI : Hid (ShopIn O W5 p A) := hI
          have HJ : Hid (BoothIn O2 W5 q2 A) := hJ
          have HK2 : Hid (∀ w', Below W5.heap.size W5 w' → w'.cell? ⟨q2, 3, none⟩ = some (.slice ga A.hs.length cap) ∧ w'.cell? ⟨fb, 0, none⟩ = some (.int .i64 fc.1) ∧ w'.cell? ⟨fb, 1, none⟩ = some (.int .i64 fc.2) ∧ w'.cell? ⟨gb, 0, none⟩ = some (.int .i64 fc.1) ∧ w'.cell? ⟨gb, 1, none⟩ = some (.int .i64 fc.2) ∧ Below W5.heap.size W5 w') := fun w' hb => ⟨((bcell hb).1 _ _ hql).trans c3, HK.out w' hb⟩
          have HC1 : Hid (∀ W : World, Below W5.heap.size W5 W → Calls Try.prog 18 #[.pointer (some ⟨p, 0, none⟩)] W fun e w' => e = .returned (.agg #[.int .i64 (cnt6 A 0), .int .i64 (cnt6 A 1), .int .i64 (cnt6 A 2), .int .i64 (cnt6 A 3), .int .i64 (cnt6 A 4), .int .i64 (cnt6 A 5)]) ∧ Below W.heap.size W w') := fun W hW => scounts_any O A p W (HI.out.next hW)
          have HC2 : Hid (∀ W : World, Below W5.heap.size W5 W → Calls Try.prog 19 #[.pointer (some ⟨q2, 0, none⟩)] W fun e w' => e = .returned (.agg #[.int .i64 (cnt6 A 0), .int .i64 (cnt6 A 1), .int .i64 (cnt6 A 2), .int .i64 (cnt6 A 3), .int .i64 (cnt6 A 4), .int .i64 (cnt6 A 5)]) ∧ Below W.heap.size W w') := fun W hW => bcounts_any O2 A q2 W (HJ.out.next hW) HGr.out (by have := HLr.out; omega)
          have HC3 : Hid (∀ W : World, Below W5.heap.size W5 W → Calls Try.prog 21 #[.pointer (some ⟨p, 0, none⟩)] W fun e w' => (∃ gh cap, e = .returned (.slice gh A.hs.length cap) ∧ HoldsAt w' gh A.hs) ∧ Below W.heap.size W w') := fun W hW => (sholds_any O A p W (HI.out.next hW) (by have := HLr.out; omega)).mono (fun e w' h => by
            obtain ⟨⟨gh, capb, e1, e2, _⟩, e3⟩ := h
            exact ⟨⟨gh, capb, e1, e2⟩, e3⟩)
          have HC4 : Hid (∀ (W W' : World) (gh : Option Addr) (capb : Nat), Below W5.heap.size W5 W → HoldsAt W gh A.hs → Below W.heap.size W W' → Calls Try.prog 20 #[.slice gh A.hs.length capb, .slice ga A.hs.length cap] W' fun e w' => e = .returned (.bool true) ∧ Below W'.heap.size W' w') := fun W W' gh capb hW hB hW' => (sameHolds_any gh ga _ _ capb cap A.hs A.hs W' (hB.below hW' (Nat.le_refl _)) ((HH.out.below hW (Nat.le_refl _)).below hW' (Nat.le_refl _)) rfl rfl (by have := HLr.out; omega)).mono (fun e w' h => ⟨by rw [h.1]; exact ret_bool (decide_eq_true rfl), h.2⟩)
          have hq1 : ∀ W : World, (Op.equalIn 10000 36 (.agg #[.int .i64 (cnt6 A 0), .int .i64 (cnt6 A 1), .int .i64 (cnt6 A 2), .int .i64 (cnt6 A 3), .int .i64 (cnt6 A 4), .int .i64 (cnt6 A 5)]) (.agg #[.int .i64 (cnt6 A 0), .int .i64 (cnt6 A 1), .int .i64 (cnt6 A 2), .int .i64 (cnt6 A 3), .int .i64 (cnt6 A 4), .int .i64 (cnt6 A 5)])).run Try.prog W = .ok true W := fun W => by rw [eqC]; simp
          clear hRw hrow hH c3 hI hJ hX5 hF5 hG HK
          go_region_held3 (fun w' => w'.cell? ⟨q2, 3, none⟩ = some (.slice ga A.hs.length cap) ∧ w'.cell? ⟨fb, 0, none⟩ = some (.int .i64 fc.1) ∧ w'.cell? ⟨fb, 1, none⟩ = some (.int .i64 fc.2) ∧ w'.cell? ⟨gb, 0, none⟩ = some (.int .i64 fc.1) ∧ w'.cell? ⟨gb, 1, none⟩ = some (.int .i64 fc.2) ∧ Below W5.heap.size W5 w')
            (first | exact HK2.out _ (by go_grown))
            (first | (go_at_call 18; refine Calls.mono (HC1.out _ (by go_grown)) ?_; rintro e w9 ⟨rfl, hb9⟩; have hw9 : Below W5.heap.size W5 w9 := after (by go_grown) hb9 (by simp); have hz9 : W5.heap.size ≤ w9.heap.size := hw9.size) | (go_at_call 19; refine Calls.mono (HC2.out _ (by go_grown)) ?_; rintro e w10 ⟨rfl, hb10⟩; have hw10 : Below W5.heap.size W5 w10 := after hw9 hb10 hz9; have hz10 : W5.heap.size ≤ w10.heap.size := hw10.size) | (go_at_call 21; refine Calls.mono (HC3.out _ (by go_grown)) ?_; rintro e w11 ⟨⟨gh, capb, rfl, hAB⟩, hb11⟩; have HAB : Hid (HoldsAt w11 gh A.hs) := hAB; clear hAB; have hw11 : Below W5.heap.size W5 w11 := after hw10 hb11 hz10; have hz11 : W5.heap.size ≤ w11.heap.size := hw11.size) | (go_at_call 20; refine Calls.mono (HC4.out w11 _ gh capb hw11 HAB.out (by go_grown)) ?_; rintro e w12 ⟨rfl, hb12⟩; have hw12 : Below W5.heap.size W5 w12 := after hw11 hb12 hz11; have hz12 : W5.heap.size ≤ w12.heap.size := hw12.size))
          all_goals
            go_wp2_with fail
            go_meet
            case rel => exact ⟨rfl, by go_grown⟩
        · clear HV5 hX5 hF5 hG
          refine region_class (C := (fun w' => w'.cell? ⟨fb, 0, none⟩ = some (.int .i64 fc.1) ∧ w'.cell? ⟨fb, 1, none⟩ = some (.int .i64 fc.2) ∧ w'.cell? ⟨gb, 0, none⟩ = some (.int .i64 fc.1) ∧ w'.cell? ⟨gb, 1, none⟩ = some (.int .i64 fc.2) ∧ Below W5.heap.size W5 w')) (by kernel_rfl) (by kernel_rfl) (HK.out _ ((Below.refl _ _).drew)) ?_
          repeat (first
            | go_big_quiet_skip
            | (go_big_quiet_want
               refine q_val (v := ?_) (fun w' hS => ?_) ?_
               rotate_left
               focus
                 go_simp
                 all_goals (with_reducible rfl)
               go_big_quiet_on
               (try simp only [Act.put, List.setIfInBounds_toArray, List.set_cons_zero, List.set_cons_succ])))
          refine wpQuiet_nil ?_
          intro w8 hC8
          go_wp2_with fail
          go_meet
          case rel => exact ⟨rfl, hC8.2.2.2.2⟩
      case rest =>
        obtain ⟨rfl, hb9⟩ := hcut
        have hX6 := hX5.next hb9
        have hb10 : Below w.heap.size w wc := after hb8 hb9 hb8.size
        clear hX5 hF5 hG hb8 hb9 HV5 HFc
        go_upto_region 9 with fail
        generalize wc = W at hX6 hb10 ⊢
        have HBW : Hid (Below w.heap.size w W) := hb10
        have HK : Hid (∀ w', Below W.heap.size W w' → w'.cell? ⟨w.heap.size, 0, none⟩ = some (.int .i64 (ws 0)) ∧ w'.cell? ⟨w.heap.size, 1, none⟩ = some (.int .i64 (ws 1)) ∧ w'.cell? ⟨w.heap.size, 2, none⟩ = some (.int .i64 (ws 2)) ∧ w'.cell? ⟨w.heap.size, 3, none⟩ = some (.int .i64 (ws 3)) ∧ w'.cell? ⟨w.heap.size, 4, none⟩ = some (.int .i64 (ws 4)) ∧ w'.cell? ⟨w.heap.size, 5, none⟩ = some (.int .i64 (ws 5)) ∧ Below W.heap.size W w') := fun w' hb => by
          have h := hX6.next hb
          exact ⟨h.2 0 _ rfl, h.2 1 _ rfl, h.2 2 _ rfl, h.2 3 _ rfl, h.2 4 _ rfl, h.2 5 _ rfl, hb⟩
        clear hX6 hb10
        by_cases hok : newOk no ws = true
        · have HOk : Hid (newOk no ws = true) := hok
          have HN1 : Hid (∀ W' : World, Calls Try.prog 22 #[.int .i64 no, .agg #[.int .i64 (ws 0), .int .i64 (ws 1), .int .i64 (ws 2), .int .i64 (ws 3), .int .i64 (ws 4), .int .i64 (ws 5)]] W' fun e w' => (∃ q O, e = .returned (.pointer (some ⟨q, 0, none⟩)) ∧ KeepIn O w' q no ws ⟨book0 no ws, []⟩ ∧ ∀ k, O k → W'.heap.size ≤ k) ∧ Below W'.heap.size W' w') := fun W' => (knew_any no ws W').mono (fun e w' h => ⟨by have := h.1; unfold NewKIs at this; rwa [if_pos hok] at this, h.2⟩)
          have HN2 : Hid (∀ W' : World, Calls Try.prog 23 #[.int .i64 no, .agg #[.int .i64 (ws 0), .int .i64 (ws 1), .int .i64 (ws 2), .int .i64 (ws 3), .int .i64 (ws 4), .int .i64 (ws 5)]] W' fun e w' => (∃ s O, e = .returned (.pointer (some ⟨s, 0, none⟩)) ∧ PenIn O w' s ⟨book0 no ws, []⟩ ∧ ∀ k, O k → W'.heap.size ≤ k) ∧ Below W'.heap.size W' w') := fun W' => (npen_any no ws W').mono (fun e w' h => ⟨by have := h.1; unfold NewPIs at this; rwa [if_pos hok] at this, h.2⟩)
          have HG0 : Hid (GoodK (book0 no ws) ⟨book0 no ws, []⟩) := goodK_new (good_new hok) rfl rfl
          clear hok
          go_cut [15, 16] (fun s15 s16 wx => ∃ q s, s15 = .pointer (some ⟨q, 0, none⟩) ∧ s16 = .pointer (some ⟨s, 0, none⟩) ∧ KP w (fun _ => False) wx q s no ws ⟨book0 no ws, []⟩ ⟨book0 no ws, []⟩)
          case first =>
            go_region_held3 (fun w' => w'.cell? ⟨w.heap.size, 0, none⟩ = some (.int .i64 (ws 0)) ∧ w'.cell? ⟨w.heap.size, 1, none⟩ = some (.int .i64 (ws 1)) ∧ w'.cell? ⟨w.heap.size, 2, none⟩ = some (.int .i64 (ws 2)) ∧ w'.cell? ⟨w.heap.size, 3, none⟩ = some (.int .i64 (ws 3)) ∧ w'.cell? ⟨w.heap.size, 4, none⟩ = some (.int .i64 (ws 4)) ∧ w'.cell? ⟨w.heap.size, 5, none⟩ = some (.int .i64 (ws 5)) ∧ Below W.heap.size W w')
              (first | exact HK.out _ (by go_grown))
              (first | (go_at_call 22; refine Calls.mono (HN1.out _) ?_; rintro e w9 ⟨⟨q, O1, rfl, hI9, hO9⟩, hb9⟩; have HI9 : Hid (KeepIn O1 w9 q no ws ⟨book0 no ws, []⟩) := hI9; have HO9 : Hid (∀ k, O1 k → W.heap.size ≤ k) := (fun k hk => Nat.le_trans (by simp) (hO9 k hk)); clear hI9 hO9; have hw9 : Below W.heap.size W w9 := after (by go_grown) hb9 (by simp); have hz9 : W.heap.size ≤ w9.heap.size := hw9.size) | (go_at_call 23; refine Calls.mono (HN2.out _) ?_; rintro e w10 ⟨⟨s, O2, rfl, hI10, hO10⟩, hb10⟩; have HI10 : Hid (PenIn O2 w10 s ⟨book0 no ws, []⟩) := hI10; have HO10 : Hid (∀ k, O2 k → w9.heap.size ≤ k) := (fun k hk => Nat.le_trans (by simp) (hO10 k hk)); clear hI10 hO10; have hv10 : Below w9.heap.size w9 w10 := after (by go_grown) hb10 (by simp); have hw10 : Below W.heap.size W w10 := after (by go_grown) hb10 (by first | assumption | simp); have hz10 : W.heap.size ≤ w10.heap.size := hw10.size))
            all_goals
              go_wp2_with fail
              go_meet
              case rel =>
                have hwW := HBW.out.size
                exact ⟨q, s, rfl, rfl, ⟨O1, O2, HI9.out.next hv10, HI10.out, fun k h1 h2 => by have := HI9.out.own k h1; have := HO10.out k h2; omega, fun k hk => ⟨Nat.le_trans hwW (HO9.out k hk), fun q => q⟩, fun k hk => ⟨Nat.le_trans hwW (Nat.le_trans hz9 (HO10.out k hk)), fun q => q⟩⟩, after HBW.out hw10 hwW, fun _ q => q.elim⟩
          case rest =>
            obtain ⟨q, s, rfl, rfl, hKP⟩ := hcut
            clear HK HN1 HN2 HBW
            go_wp2_with fail
            go_loopg [17] ll (fun g s17 wr => ∃ (k : Nat) (K : Kb), k ≤ ll ∧ g = ll - k ∧ s17 = .int .i64 k ∧ KP w (fun _ => False) wr q s no ws K K ∧ Hid (GoodK (book0 no ws) K) ∧ Hid (K.rs.length ≤ k))
            case atStart => exact ⟨0, _, Nat.zero_le _, rfl, rfl, hKP, HG0, Nat.le_refl _⟩
            case round =>
              obtain ⟨k, K, hk, rfl, rfl, hP1, HG, HL⟩ := hrel
              clear hKP HG0
              by_cases hlt : k < ll
              · obtain ⟨x, hkx⟩ : ∃ x, l[k]? = some x := ⟨_, List.getElem?_eq_getElem (by omega)⟩
                obtain ⟨bl, ol, rfl, hbl, hcell⟩ := HTl.out k x hkx
                have HKx : Hid (∀ w', Below w.heap.size w w' → w'.cell? ⟨bl, ol + k * 5, none⟩ = some (.int .i64 x.what) ∧ w'.cell? ⟨bl, ol + k * 5 + 1, none⟩ = some (.int .i64 x.deal) ∧ w'.cell? ⟨bl, ol + k * 5 + 2, none⟩ = some (.int .i64 x.c) ∧ w'.cell? ⟨bl, ol + k * 5 + 3, none⟩ = some (.int .i64 x.d) ∧ w'.cell? ⟨bl, ol + k * 5 + 4, none⟩ = some (.bool x.done)) := fun w' hb => by
                  have hy : ∀ j v, x.cells[j]? = some v → w'.cell? ⟨bl, ol + k * 5 + j, none⟩ = some v := fun j v hj => (hb.cell (p := ⟨bl, _, none⟩) hbl).trans (hcell j v hj)
                  exact ⟨hy 0 _ rfl, hy 1 _ rfl, hy 2 _ rfl, hy 3 _ rfl, hy 4 _ rfl⟩
                have j0 : (0 : Int) ≤ (k : Int) := by omega
                have j1 : (k : Int) < (ll : Int) := by omega
                have HKN : Hid (k < ll) := hlt
                have HLen : Hid (K.A.hs.length ≤ 150 ∧ K.A.es.length ≤ 150 ∧ K.rs.length ≤ 150) := by
                  have := HG.out.hl
                  have := HG.out.el
                  have := HL.out
                  have := HB.out
                  exact ⟨by omega, by omega, by omega⟩
                have HG2 : Hid (GoodK (book0 no ws) (doR K x).2) := goodK_do HG.out x
                have HL2 : Hid ((doR K x).2.rs.length ≤ k + 1) := by have := do_len K x; have := HL.out; show _ ≤ _; omega
                have HLen2 : Hid ((doR K x).2.A.hs.length ≤ 151 ∧ (doR K x).2.rs.length ≤ 151) := by
                  have := HG2.out.hl
                  have := HL2.out
                  have := HKN.out
                  have := HB.out
                  exact ⟨by omega, by omega⟩
                have HA1 : Hid (∀ W' : World, Below wr.heap.size wr W' → Calls Try.prog 24 #[.pointer (some ⟨q, 0, none⟩), .agg #[.int .i64 x.what, .int .i64 x.deal, .int .i64 x.c, .int .i64 x.d, .bool x.done]] W' fun e w' => e = .returned (.int .i64 (doR K x).1) ∧ KP w (fun _ => False) w' q s no ws (doR K x).2 K) := fun W' hW => kp_do_k x (hP1.next hW) HG.out.good (by have := HLen.out; omega) (by have := HLen.out; omega)
                have HA2 : Hid (∀ W2 W' : World, KP w (fun _ => False) W2 q s no ws (doR K x).2 K → Below W2.heap.size W2 W' → Calls Try.prog 25 #[.pointer (some ⟨s, 0, none⟩), .agg #[.int .i64 x.what, .int .i64 x.deal, .int .i64 x.c, .int .i64 x.d, .bool x.done]] W' fun e w' => e = .returned (.int .i64 (doR K x).1) ∧ KP w (fun _ => False) w' q s no ws (doR K x).2 (doR K x).2) := fun W2 W' h1 hW => kp_do_p x (h1.next hW) HG.out.good (by have := HLen.out; omega) (by have := HLen.out; omega) (by have := HLen.out; omega)
                have HP1 : Hid (Below w.heap.size w wr) := hP1.below
                clear hcell hkx hk hlt hbl hP1
                generalize doR K x = rr at *
                obtain ⟨c2, K2⟩ := rr
                dsimp only at *
                go_upto_region 15 with fail
                go_cut [109] (fun s109 wx => s109 = .bool false ∧ KP w (fun _ => False) wx q s no ws K2 K2)
                case first =>
                  go_region_held3 (fun w' => w'.cell? ⟨bl, ol + k * 5, none⟩ = some (.int .i64 x.what) ∧ w'.cell? ⟨bl, ol + k * 5 + 1, none⟩ = some (.int .i64 x.deal) ∧ w'.cell? ⟨bl, ol + k * 5 + 2, none⟩ = some (.int .i64 x.c) ∧ w'.cell? ⟨bl, ol + k * 5 + 3, none⟩ = some (.int .i64 x.d) ∧ w'.cell? ⟨bl, ol + k * 5 + 4, none⟩ = some (.bool x.done))
                    (first | exact HKx.out _ HP10.out.below | exact HKx.out _ HP9.out.below | exact HKx.out _ (after HP1.out (by go_grown) HP1.out.size))
                    (first | (go_at_call 24; refine Calls.mono (HA1.out _ (by go_grown)) ?_; rintro e w9 ⟨rfl, hP9⟩; have HP9 : Hid (KP w (fun _ => False) w9 q s no ws K2 K) := hP9; clear hP9) | (go_at_call 25; refine Calls.mono (HA2.out w9 _ HP9.out (by go_grown)) ?_; rintro e w10 ⟨rfl, hP10⟩; have HP10 : Hid (KP w (fun _ => False) w10 q s no ws K2 K2) := hP10; clear hP10))
                  all_goals
                    go_wp2_with fail
                    go_meet
                    case rel => exact ⟨by simp, HP10.out⟩
                case rest =>
                  obtain ⟨rfl, hP2⟩ := hcut
                  clear HA1 HA2 HP1
                  by_cases hcr : (k : Int) = cr
                  · subst hcr
                    go_wp2_with fail
                    refine Calls.mono (kp_crash hP2 HG2.out HOk.out (by have := HLen2.out; omega)) ?_
                    rintro e wz ⟨rfl, hPz⟩
                    clear hP2
                    go_upto_region 19 with fail
                    go_cut [151] (fun s151 wx => s151 = .bool false ∧ Below wz.heap.size wz wx)
                    case first =>
                      obtain ⟨p, c0, hql, hLs⟩ := hPz.keep.shop
                      have hKL := hPz.keep
                      obtain ⟨O1, O2, _, hPn, _⟩ := hPz.inn
                      obtain ⟨Ob, q2, rv, hRp, hBi, _, _, hrl, _⟩ := hPn.raw
                      obtain ⟨gl, capl, rfl, hSl, _⟩ := steps_of_own hrl
                      obtain ⟨hv, ov, dv, hRw, hrow, _⟩ := hBi.raw
                      obtain ⟨ga, cap, rfl, hH, _⟩ := holds_of_own hrow
                      have hsl := hRp.lt
                      have hbl2 := hRw.lt
                      have HK : Hid (∀ w', Below wz.heap.size wz w' → w'.cell? ⟨q, 0, none⟩ = some (.pointer (some ⟨p, 0, none⟩)) ∧ w'.cell? ⟨s, 0, none⟩ = some (.pointer (some ⟨q2, 0, none⟩)) ∧ w'.cell? ⟨s, 1, none⟩ = some (.slice gl K2.rs.length capl) ∧ w'.cell? ⟨q2, 3, none⟩ = some (.slice ga K2.A.hs.length cap) ∧ Below wz.heap.size wz w') := fun w' hb => ⟨((bcell hb).1 _ _ hql).trans c0, ((bcell hb).1 _ _ hsl).trans hRp.c0, ((bcell hb).1 _ _ hsl).trans hRp.c1, ((bcell hb).1 _ _ hbl2).trans hRw.c3, hb⟩
                      have HC1 : Hid (∀ W : World, Below wz.heap.size wz W → Calls Try.prog 18 #[.pointer (some ⟨p, 0, none⟩)] W fun e w' => e = .returned (.agg #[.int .i64 (cnt6 K2.A 0), .int .i64 (cnt6 K2.A 1), .int .i64 (cnt6 K2.A 2), .int .i64 (cnt6 K2.A 3), .int .i64 (cnt6 K2.A 4), .int .i64 (cnt6 K2.A 5)]) ∧ Below W.heap.size W w') := fun W hW => (counts_live (hLs.next hW)).mono (fun e w' h => ⟨h.1, h.2.2⟩)
                      have HC2 : Hid (∀ W : World, Below wz.heap.size wz W → Calls Try.prog 19 #[.pointer (some ⟨q2, 0, none⟩)] W fun e w' => e = .returned (.agg #[.int .i64 (cnt6 K2.A 0), .int .i64 (cnt6 K2.A 1), .int .i64 (cnt6 K2.A 2), .int .i64 (cnt6 K2.A 3), .int .i64 (cnt6 K2.A 4), .int .i64 (cnt6 K2.A 5)]) ∧ Below W.heap.size W w') := fun W hW => bcounts_any Ob K2.A q2 W (hBi.next hW) HG2.out.good (by have := HLen2.out; omega)
                      have HC3 : Hid (∀ W : World, Below wz.heap.size wz W → Calls Try.prog 21 #[.pointer (some ⟨p, 0, none⟩)] W fun e w' => (∃ gh cap, e = .returned (.slice gh K2.A.hs.length cap) ∧ HoldsAt w' gh K2.A.hs) ∧ Below W.heap.size W w') := fun W hW => (holds_live (hLs.next hW) (by have := HLen2.out; omega)).mono (fun e w' h => by
                        obtain ⟨⟨gh, capb, e1, e2, _⟩, _, e3⟩ := h
                        exact ⟨⟨gh, capb, e1, e2⟩, e3⟩)
                      have HC4 : Hid (∀ (W W' : World) (gh : Option Addr) (capb : Nat), Below wz.heap.size wz W → HoldsAt W gh K2.A.hs → Below W.heap.size W W' → Calls Try.prog 20 #[.slice gh K2.A.hs.length capb, .slice ga K2.A.hs.length cap] W' fun e w' => e = .returned (.bool true) ∧ Below W'.heap.size W' w') := fun W W' gh capb hW hB hW' => (sameHolds_any gh ga _ _ capb cap K2.A.hs K2.A.hs W' (hB.below hW' (Nat.le_refl _)) ((hH.below hW (Nat.le_refl _)).below hW' (Nat.le_refl _)) rfl rfl (by have := HLen2.out; omega)).mono (fun e w' h => ⟨by rw [h.1]; exact ret_bool (decide_eq_true rfl), h.2⟩)
                      have HC5 : Hid (∀ W : World, Below wz.heap.size wz W → Calls Try.prog 28 #[.pointer (some ⟨q, 0, none⟩)] W fun e w' => (∃ gc cap, e = .returned (.slice gc K2.rs.length cap) ∧ StepsAt w' gc K2.rs) ∧ Below W.heap.size W w') := fun W hW => (recs_live (hKL.next hW) (by have := HLen2.out; omega)).mono (fun e w' h => by
                        obtain ⟨⟨gc, capc, e1, e2, _⟩, _, e3⟩ := h
                        exact ⟨⟨gc, capc, e1, e2⟩, e3⟩)
                      have HC6 : Hid (∀ (W W' : World) (gc : Option Addr) (capc : Nat), Below wz.heap.size wz W → StepsAt W gc K2.rs → Below W.heap.size W W' → Calls Try.prog 27 #[.slice gc K2.rs.length capc, .slice gl K2.rs.length capl] W' fun e w' => e = .returned (.bool true) ∧ Below W'.heap.size W' w') := fun W W' gc capc hW hB hW' => (sameRecs_any gc gl _ _ capc capl K2.rs K2.rs W' (hB.below hW' (Nat.le_refl _)) ((hSl.below hW (Nat.le_refl _)).below hW' (Nat.le_refl _)) rfl rfl (by have := HLen2.out; omega)).mono (fun e w' h => by
                        obtain ⟨⟨b, e1, e2⟩, e3⟩ := h
                        exact ⟨by rw [e1, e2.2 rfl], e3⟩)
                      have hq1 : ∀ W : World, (Op.equalIn 10000 36 (.agg #[.int .i64 (cnt6 K2.A 0), .int .i64 (cnt6 K2.A 1), .int .i64 (cnt6 K2.A 2), .int .i64 (cnt6 K2.A 3), .int .i64 (cnt6 K2.A 4), .int .i64 (cnt6 K2.A 5)]) (.agg #[.int .i64 (cnt6 K2.A 0), .int .i64 (cnt6 K2.A 1), .int .i64 (cnt6 K2.A 2), .int .i64 (cnt6 K2.A 3), .int .i64 (cnt6 K2.A 4), .int .i64 (cnt6 K2.A 5)])).run Try.prog W = .ok true W := fun W => by rw [eqC]; simp
                      clear hLs hKL hPn hRp hBi hrl hSl hRw hrow hH c0 hPz
                      go_region_held3 (fun w' => w'.cell? ⟨q, 0, none⟩ = some (.pointer (some ⟨p, 0, none⟩)) ∧ w'.cell? ⟨s, 0, none⟩ = some (.pointer (some ⟨q2, 0, none⟩)) ∧ w'.cell? ⟨s, 1, none⟩ = some (.slice gl K2.rs.length capl) ∧ w'.cell? ⟨q2, 3, none⟩ = some (.slice ga K2.A.hs.length cap) ∧ Below wz.heap.size wz w')
                        (first | exact HK.out _ (by go_grown))
                        (first | (go_at_call 18; refine Calls.mono (HC1.out _ (by go_grown)) ?_; rintro e w9 ⟨rfl, hb9⟩; have hw9 : Below wz.heap.size wz w9 := after (by go_grown) hb9 (by simp); have hz9 : wz.heap.size ≤ w9.heap.size := hw9.size) | (go_at_call 19; refine Calls.mono (HC2.out _ (by go_grown)) ?_; rintro e w10 ⟨rfl, hb10⟩; have hw10 : Below wz.heap.size wz w10 := after hw9 hb10 hz9; have hz10 : wz.heap.size ≤ w10.heap.size := hw10.size) | (go_at_call 21; refine Calls.mono (HC3.out _ (by go_grown)) ?_; rintro e w11 ⟨⟨gh, capb, rfl, hAB⟩, hb11⟩; have HAB : Hid (HoldsAt w11 gh K2.A.hs) := hAB; clear hAB; have hw11 : Below wz.heap.size wz w11 := after hw10 hb11 hz10; have hz11 : wz.heap.size ≤ w11.heap.size := hw11.size) | (go_at_call 20; refine Calls.mono (HC4.out w11 _ gh capb hw11 HAB.out (by go_grown)) ?_; rintro e w12 ⟨rfl, hb12⟩; have hw12 : Below wz.heap.size wz w12 := after hw11 hb12 hz11; have hz12 : wz.heap.size ≤ w12.heap.size := hw12.size) | (go_at_call 28; refine Calls.mono (HC5.out _ (by go_grown)) ?_; rintro e w13 ⟨⟨gc, capc, rfl, hAC⟩, hb13⟩; have HAC : Hid (StepsAt w13 gc K2.rs) := hAC; clear hAC; have hw13 : Below wz.heap.size wz w13 := after hw12 hb13 hz12; have hz13 : wz.heap.size ≤ w13.heap.size := hw13.size) | (go_at_call 27; refine Calls.mono (HC6.out w13 _ gc capc hw13 HAC.out (by go_grown)) ?_; rintro e w14 ⟨rfl, hb14⟩; have hw14 : Below wz.heap.size wz w14 := after hw13 hb14 hz13; have hz14 : wz.heap.size ≤ w14.heap.size := hw14.size))
                      all_goals
                        go_wp2_with fail
                        go_meet
                        case rel => exact ⟨rfl, by go_grown⟩
                    case rest =>
                      obtain ⟨rfl, hbz⟩ := hcut
                      have hP9 := hPz.next hbz
                      clear hPz hbz
                      go_wp2_with fail
                      go_roundg (ll - (k + 1))
                      case measure => have := HKN.out; omega
                      case rel => exact ⟨k + 1, K2, HKN.out, rfl, by simp, hP9, HG2, HL2⟩
                  · have hcr' : ((k : Int) == cr) = false := by simpa using hcr
                    have hPz := hP2
                    clear hP2 hcr
                    generalize wc = wz at *
                    go_upto_region 19 with fail
                    go_cut [151] (fun s151 wx => s151 = .bool false ∧ Below wz.heap.size wz wx)
                    case first =>
                      obtain ⟨p, c0, hql, hLs⟩ := hPz.keep.shop
                      have hKL := hPz.keep
                      obtain ⟨O1, O2, _, hPn, _⟩ := hPz.inn
                      obtain ⟨Ob, q2, rv, hRp, hBi, _, _, hrl, _⟩ := hPn.raw
                      obtain ⟨gl, capl, rfl, hSl, _⟩ := steps_of_own hrl
                      obtain ⟨hv, ov, dv, hRw, hrow, _⟩ := hBi.raw
                      obtain ⟨ga, cap, rfl, hH, _⟩ := holds_of_own hrow
                      have hsl := hRp.lt
                      have hbl2 := hRw.lt
                      have HK : Hid (∀ w', Below wz.heap.size wz w' → w'.cell? ⟨q, 0, none⟩ = some (.pointer (some ⟨p, 0, none⟩)) ∧ w'.cell? ⟨s, 0, none⟩ = some (.pointer (some ⟨q2, 0, none⟩)) ∧ w'.cell? ⟨s, 1, none⟩ = some (.slice gl K2.rs.length capl) ∧ w'.cell? ⟨q2, 3, none⟩ = some (.slice ga K2.A.hs.length cap) ∧ Below wz.heap.size wz w') := fun w' hb => ⟨((bcell hb).1 _ _ hql).trans c0, ((bcell hb).1 _ _ hsl).trans hRp.c0, ((bcell hb).1 _ _ hsl).trans hRp.c1, ((bcell hb).1 _ _ hbl2).trans hRw.c3, hb⟩
                      have HC1 : Hid (∀ W : World, Below wz.heap.size wz W → Calls Try.prog 18 #[.pointer (some ⟨p, 0, none⟩)] W fun e w' => e = .returned (.agg #[.int .i64 (cnt6 K2.A 0), .int .i64 (cnt6 K2.A 1), .int .i64 (cnt6 K2.A 2), .int .i64 (cnt6 K2.A 3), .int .i64 (cnt6 K2.A 4), .int .i64 (cnt6 K2.A 5)]) ∧ Below W.heap.size W w') := fun W hW => (counts_live (hLs.next hW)).mono (fun e w' h => ⟨h.1, h.2.2⟩)
                      have HC2 : Hid (∀ W : World, Below wz.heap.size wz W → Calls Try.prog 19 #[.pointer (some ⟨q2, 0, none⟩)] W fun e w' => e = .returned (.agg #[.int .i64 (cnt6 K2.A 0), .int .i64 (cnt6 K2.A 1), .int .i64 (cnt6 K2.A 2), .int .i64 (cnt6 K2.A 3), .int .i64 (cnt6 K2.A 4), .int .i64 (cnt6 K2.A 5)]) ∧ Below W.heap.size W w') := fun W hW => bcounts_any Ob K2.A q2 W (hBi.next hW) HG2.out.good (by have := HLen2.out; omega)
                      have HC3 : Hid (∀ W : World, Below wz.heap.size wz W → Calls Try.prog 21 #[.pointer (some ⟨p, 0, none⟩)] W fun e w' => (∃ gh cap, e = .returned (.slice gh K2.A.hs.length cap) ∧ HoldsAt w' gh K2.A.hs) ∧ Below W.heap.size W w') := fun W hW => (holds_live (hLs.next hW) (by have := HLen2.out; omega)).mono (fun e w' h => by
                        obtain ⟨⟨gh, capb, e1, e2, _⟩, _, e3⟩ := h
                        exact ⟨⟨gh, capb, e1, e2⟩, e3⟩)
                      have HC4 : Hid (∀ (W W' : World) (gh : Option Addr) (capb : Nat), Below wz.heap.size wz W → HoldsAt W gh K2.A.hs → Below W.heap.size W W' → Calls Try.prog 20 #[.slice gh K2.A.hs.length capb, .slice ga K2.A.hs.length cap] W' fun e w' => e = .returned (.bool true) ∧ Below W'.heap.size W' w') := fun W W' gh capb hW hB hW' => (sameHolds_any gh ga _ _ capb cap K2.A.hs K2.A.hs W' (hB.below hW' (Nat.le_refl _)) ((hH.below hW (Nat.le_refl _)).below hW' (Nat.le_refl _)) rfl rfl (by have := HLen2.out; omega)).mono (fun e w' h => ⟨by rw [h.1]; exact ret_bool (decide_eq_true rfl), h.2⟩)
                      have HC5 : Hid (∀ W : World, Below wz.heap.size wz W → Calls Try.prog 28 #[.pointer (some ⟨q, 0, none⟩)] W fun e w' => (∃ gc cap, e = .returned (.slice gc K2.rs.length cap) ∧ StepsAt w' gc K2.rs) ∧ Below W.heap.size W w') := fun W hW => (recs_live (hKL.next hW) (by have := HLen2.out; omega)).mono (fun e w' h => by
                        obtain ⟨⟨gc, capc, e1, e2, _⟩, _, e3⟩ := h
                        exact ⟨⟨gc, capc, e1, e2⟩, e3⟩)
                      have HC6 : Hid (∀ (W W' : World) (gc : Option Addr) (capc : Nat), Below wz.heap.size wz W → StepsAt W gc K2.rs → Below W.heap.size W W' → Calls Try.prog 27 #[.slice gc K2.rs.length capc, .slice gl K2.rs.length capl] W' fun e w' => e = .returned (.bool true) ∧ Below W'.heap.size W' w') := fun W W' gc capc hW hB hW' => (sameRecs_any gc gl _ _ capc capl K2.rs K2.rs W' (hB.below hW' (Nat.le_refl _)) ((hSl.below hW (Nat.le_refl _)).below hW' (Nat.le_refl _)) rfl rfl (by have := HLen2.out; omega)).mono (fun e w' h => by
                        obtain ⟨⟨b, e1, e2⟩, e3⟩ := h
                        exact ⟨by rw [e1, e2.2 rfl], e3⟩)
                      have hq1 : ∀ W : World, (Op.equalIn 10000 36 (.agg #[.int .i64 (cnt6 K2.A 0), .int .i64 (cnt6 K2.A 1), .int .i64 (cnt6 K2.A 2), .int .i64 (cnt6 K2.A 3), .int .i64 (cnt6 K2.A 4), .int .i64 (cnt6 K2.A 5)]) (.agg #[.int .i64 (cnt6 K2.A 0), .int .i64 (cnt6 K2.A 1), .int .i64 (cnt6 K2.A 2), .int .i64 (cnt6 K2.A 3), .int .i64 (cnt6 K2.A 4), .int .i64 (cnt6 K2.A 5)])).run Try.prog W = .ok true W := fun W => by rw [eqC]; simp
                      clear hLs hKL hPn hRp hBi hrl hSl hRw hrow hH c0 hPz
                      go_region_held3 (fun w' => w'.cell? ⟨q, 0, none⟩ = some (.pointer (some ⟨p, 0, none⟩)) ∧ w'.cell? ⟨s, 0, none⟩ = some (.pointer (some ⟨q2, 0, none⟩)) ∧ w'.cell? ⟨s, 1, none⟩ = some (.slice gl K2.rs.length capl) ∧ w'.cell? ⟨q2, 3, none⟩ = some (.slice ga K2.A.hs.length cap) ∧ Below wz.heap.size wz w')
                        (first | exact HK.out _ (by go_grown))
                        (first | (go_at_call 18; refine Calls.mono (HC1.out _ (by go_grown)) ?_; rintro e w9 ⟨rfl, hb9⟩; have hw9 : Below wz.heap.size wz w9 := after (by go_grown) hb9 (by simp); have hz9 : wz.heap.size ≤ w9.heap.size := hw9.size) | (go_at_call 19; refine Calls.mono (HC2.out _ (by go_grown)) ?_; rintro e w10 ⟨rfl, hb10⟩; have hw10 : Below wz.heap.size wz w10 := after hw9 hb10 hz9; have hz10 : wz.heap.size ≤ w10.heap.size := hw10.size) | (go_at_call 21; refine Calls.mono (HC3.out _ (by go_grown)) ?_; rintro e w11 ⟨⟨gh, capb, rfl, hAB⟩, hb11⟩; have HAB : Hid (HoldsAt w11 gh K2.A.hs) := hAB; clear hAB; have hw11 : Below wz.heap.size wz w11 := after hw10 hb11 hz10; have hz11 : wz.heap.size ≤ w11.heap.size := hw11.size) | (go_at_call 20; refine Calls.mono (HC4.out w11 _ gh capb hw11 HAB.out (by go_grown)) ?_; rintro e w12 ⟨rfl, hb12⟩; have hw12 : Below wz.heap.size wz w12 := after hw11 hb12 hz11; have hz12 : wz.heap.size ≤ w12.heap.size := hw12.size) | (go_at_call 28; refine Calls.mono (HC5.out _ (by go_grown)) ?_; rintro e w13 ⟨⟨gc, capc, rfl, hAC⟩, hb13⟩; have HAC : Hid (StepsAt w13 gc K2.rs) := hAC; clear hAC; have hw13 : Below wz.heap.size wz w13 := after hw12 hb13 hz12; have hz13 : wz.heap.size ≤ w13.heap.size := hw13.size) | (go_at_call 27; refine Calls.mono (HC6.out w13 _ gc capc hw13 HAC.out (by go_grown)) ?_; rintro e w14 ⟨rfl, hb14⟩; have hw14 : Below wz.heap.size wz w14 := after hw13 hb14 hz13; have hz14 : wz.heap.size ≤ w14.heap.size := hw14.size))
                      all_goals
                        go_wp2_with fail
                        go_meet
                        case rel => exact ⟨rfl, by go_grown⟩
                    case rest =>
                      obtain ⟨rfl, hbz⟩ := hcut
                      have hP9 := hPz.next hbz
                      clear hPz hbz
                      go_wp2_with fail
                      go_roundg (ll - (k + 1))
                      case measure => have := HKN.out; omega
                      case rel => exact ⟨k + 1, K2, HKN.out, rfl, by simp, hP9, HG2, HL2⟩
              · go_wp2_with fail
                go_ret
                exact ⟨rfl, hP1.below⟩
        · have HOk : Hid (newOk no ws = false) := by show _ = _; simpa using hok
          have HN1 : Hid (∀ W' : World, Calls Try.prog 22 #[.int .i64 no, .agg #[.int .i64 (ws 0), .int .i64 (ws 1), .int .i64 (ws 2), .int .i64 (ws 3), .int .i64 (ws 4), .int .i64 (ws 5)]] W' fun e w' => e = .returned (.pointer none) ∧ Below W'.heap.size W' w') := fun W' => (knew_any no ws W').mono (fun e w' h => ⟨by have := h.1; unfold NewKIs at this; rwa [if_neg hok] at this, h.2⟩)
          have HN2 : Hid (∀ W' : World, Calls Try.prog 23 #[.int .i64 no, .agg #[.int .i64 (ws 0), .int .i64 (ws 1), .int .i64 (ws 2), .int .i64 (ws 3), .int .i64 (ws 4), .int .i64 (ws 5)]] W' fun e w' => e = .returned (.pointer none) ∧ Below W'.heap.size W' w') := fun W' => (npen_any no ws W').mono (fun e w' h => ⟨by have := h.1; unfold NewPIs at this; rwa [if_neg hok] at this, h.2⟩)
          clear hok
          go_cut [15, 16] (fun s15 s16 wx => s15 = .pointer none ∧ s16 = .pointer none ∧ Below w.heap.size w wx)
          case first =>
            go_region_held3 (fun w' => w'.cell? ⟨w.heap.size, 0, none⟩ = some (.int .i64 (ws 0)) ∧ w'.cell? ⟨w.heap.size, 1, none⟩ = some (.int .i64 (ws 1)) ∧ w'.cell? ⟨w.heap.size, 2, none⟩ = some (.int .i64 (ws 2)) ∧ w'.cell? ⟨w.heap.size, 3, none⟩ = some (.int .i64 (ws 3)) ∧ w'.cell? ⟨w.heap.size, 4, none⟩ = some (.int .i64 (ws 4)) ∧ w'.cell? ⟨w.heap.size, 5, none⟩ = some (.int .i64 (ws 5)) ∧ Below W.heap.size W w')
              (first | exact HK.out _ (by go_grown))
              (first | (go_at_call 22; refine Calls.mono (HN1.out _) ?_; rintro e w9 ⟨rfl, hb9⟩; have hw9 : Below W.heap.size W w9 := after (by go_grown) hb9 (by simp); have hz9 : W.heap.size ≤ w9.heap.size := hw9.size) | (go_at_call 23; refine Calls.mono (HN2.out _) ?_; rintro e w10 ⟨rfl, hb10⟩; have hw10 : Below W.heap.size W w10 := after (by go_grown) hb10 (by first | assumption | simp); have hz10 : W.heap.size ≤ w10.heap.size := hw10.size))
            all_goals
              go_wp2_with fail
              go_meet
              case rel => exact ⟨rfl, rfl, after HBW.out (by go_grown) HBW.out.size⟩
          case rest =>
            obtain ⟨rfl, rfl, hb3⟩ := hcut
            go_wp2_with fail
            go_ret
            exact ⟨rfl, hb3⟩

open Go.ChangeShapes Go.WideShapes Go.ChangeAt Go.Deep


/-- Five arguments, one ahead of four. -/
theorem five_args {H : Type} {enc : TypeId × Value → H} {P : Program} {w : World} {base : Nat} {spare : Nat → Bool} {held : Bool} {t0 t1 t2 t3 t4 : TypeId} {args : Array Value} {ds : List (DataW H)} {ps : List MemPlace} (h : DataW.TrodAll enc P w base spare held [t0, t1, t2, t3, t4] args.toList ds ps) :
    ∃ v0 v1 v2 v3 v4 d0 d1 d2 d3 d4 p0 p1 p2 p3 p4, args = #[v0, v1, v2, v3, v4] ∧ ds = [d0, d1, d2, d3, d4] ∧ ps = p0 ++ (p1 ++ p2 ++ p3 ++ p4) ∧ DataW.Trod enc P w base spare held t0 v0 d0 p0 ∧ DataW.Trod enc P w base spare held t1 v1 d1 p1 ∧ DataW.Trod enc P w base spare held t2 v2 d2 p2 ∧ DataW.Trod enc P w base spare held t3 v3 d3 p3 ∧ DataW.Trod enc P w base spare held t4 v4 d4 p4 := by
  obtain ⟨v0, vs, d0, ds1, p0, q, ha, rfl, rfl, h0, hr⟩ := trodAll_cons h
  obtain ⟨v1, v2, v3, v4, d1, d2, d3, d4, p1, p2, p3, p4, hv, rfl, rfl, h1, h2, h3, h4⟩ := trodAll_four (args := vs.toArray) (by simpa using hr)
  refine ⟨v0, v1, v2, v3, v4, d0, d1, d2, d3, d4, p0, p1, p2, p3, p4, ?_, rfl, rfl, h0, h1, h2, h3, h4⟩
  have hv' : vs = [v1, v2, v3, v4] := by simpa using congrArg Array.toList hv
  obtain ⟨xs⟩ := args
  have ha' : xs = v0 :: vs := ha
  rw [ha', hv']
theorem five_mk {H : Type} {enc : TypeId × Value → H} {P : Program} {w : World} {base : Nat} {spare : Nat → Bool} {held : Bool} {t0 t1 t2 t3 t4 : TypeId} {v0 v1 v2 v3 v4 : Value} {d0 d1 d2 d3 d4 : DataW H} {p0 p1 p2 p3 p4 : List MemPlace} (h0 : DataW.Trod enc P w base spare held t0 v0 d0 p0) (h1 : DataW.Trod enc P w base spare held t1 v1 d1 p1) (h2 : DataW.Trod enc P w base spare held t2 v2 d2 p2) (h3 : DataW.Trod enc P w base spare held t3 v3 d3 p3) (h4 : DataW.Trod enc P w base spare held t4 v4 d4 p4) :
    DataW.TrodAll enc P w base spare held [t0, t1, t2, t3, t4] [v0, v1, v2, v3, v4] [d0, d1, d2, d3, d4] (p0 ++ (p1 ++ (p2 ++ (p3 ++ p4)))) := ⟨p0, _, h0, trodAll_mk4 h1 h2 h3 h4, rfl⟩

theorem Try.ownKeepDoes : ownKnob Try.prog.godebug = none := by kernel_rfl
theorem Try.laidOutKeepDoes : laidOutB Try.prog = true := by kernel_rfl

set_option maxRecDepth 100000 in
theorem keepDoes_lifted (os : Os) (started : os.Started) (H : Type) (enc : TypeId × Value → H) :
    ReturnsInHanded {} Try.checked os 3 .any (Rows.keepDoesSpec.pre6 enc Try.prog Try.f3 Rows.keepDoesRow.domain false) (Rows.keepDoesSpec.post enc Try.prog Try.f3 false true false false) := by
  refine returnsInHanded_of_change (C := Try.checked) Try.ownKeepDoes started (by kernel_rfl) Try.func3
    (ChangeSpec.witness6 (enc := enc) (C := Try.checked) false ⟨#[], #[.int .i64 0, .agg #[.int .i64 0, .int .i64 0, .int .i64 0, .int .i64 0, .int .i64 0, .int .i64 0], .slice none 0 0, .slice none 0 0, .int .i64 0], []⟩ 8 (by kernel_rfl) (by kernel_rfl) (by kernel_rfl) (by kernel_rfl)) ?_
  intro W base args ds gs before hval0 hW _ _
  have hval : ∀ (j : Nat) t v, Try.f3.params[j]? = some t → args[j]? = some v → Value.okWide Try.prog W .any base t v := hval0
  have hW' := hW
  obtain ⟨p, q, hA0, hV, rfl, hfz, hnd⟩ := hW
  have hA : DataW.TrodAll enc Try.prog W 0 (fun _ => true) true Try.f3.params.toList args.toList ds p := hA0
  rw [Try.params3] at hA hval
  obtain ⟨v0, v1, v2, v3, v4, d0, d1, d2, d3, d4, p0, p1, p2, p3, p4, rfl, rfl, rfl, h0, h1, h2, h3, h4⟩ := five_args hA
  obtain ⟨rfl, rfl⟩ := trodVars_none hV
  have k0 := h0
  have lt0 : ∀ x ∈ p0, x.block < W.heap.size := by obtain ⟨m, hm⟩ := k0; exact DataW.trod_lt m _ _ _ hm
  have k1 := h1
  have lt1 : ∀ x ∈ p1, x.block < W.heap.size := by obtain ⟨m, hm⟩ := k1; exact DataW.trod_lt m _ _ _ hm
  have k2 := h2
  have lt2 : ∀ x ∈ p2, x.block < W.heap.size := by obtain ⟨m, hm⟩ := k2; exact DataW.trod_lt m _ _ _ hm
  have k3 := h3
  have lt3 : ∀ x ∈ p3, x.block < W.heap.size := by obtain ⟨m, hm⟩ := k3; exact DataW.trod_lt m _ _ _ hm
  have k4 := h4
  have lt4 : ∀ x ∈ p4, x.block < W.heap.size := by obtain ⟨m, hm⟩ := k4; exact DataW.trod_lt m _ _ _ hm
  obtain ⟨n, rfl, _, _, wn⟩ := open_int Try.underlying3 (hval 0 3 v0 rfl rfl) h0
  obtain ⟨ws, rfl⟩ := open_world (hval 1 23 v1 rfl rfl) h1
  obtain ⟨a0, l0, c0, rfl⟩ := okWide_slice Try.underlying24 (hval 2 24 v2 rfl rfl)
  obtain ⟨l, hl, hll⟩ := open_recs h2
  obtain ⟨a3, l3, c3, rfl⟩ := okWide_slice Try.underlying24 (hval 3 24 v3 rfl rfl)
  obtain ⟨m, hm, hlm⟩ := open_recs h3
  obtain ⟨n4, rfl, _, _, wn4⟩ := open_int Try.underlying3 (hval 4 3 v4 rfl rfl) h4
  clear hA0 hval0
  refine (kdoes_walk n ws a0 l0 c0 l a3 l3 c3 m n4 W hl hll hm hlm).mono fun e W' ⟨hret, hb⟩ => ?_
  subst hret
  exact ⟨_, rfl, _, _, _, [], _, [], hW', trodAll_mk1 (shut_bool Try.underlying4 true), five_mk (Below.trod Try.laidOutKeepDoes (by kernel_rfl) (of_decide_eq_true (by kernel_rfl)) k0 hb lt0) (Below.trod Try.laidOutKeepDoes (by kernel_rfl) (of_decide_eq_true (by kernel_rfl)) k1 hb lt1) (Below.trod Try.laidOutKeepDoes (by kernel_rfl) (of_decide_eq_true (by kernel_rfl)) k2 hb lt2) (Below.trod Try.laidOutKeepDoes (by kernel_rfl) (of_decide_eq_true (by kernel_rfl)) k3 hb lt3) (Below.trod Try.laidOutKeepDoes (by kernel_rfl) (of_decide_eq_true (by kernel_rfl)) k4 hb lt4), rfl, hb.frame _, fun h => by cases h⟩

theorem keepDoes_holds : Rows.KeepDoesSaid :=
  OpenClaim.holds_of_wide 3 Try.f3 rfl rfl rfl rfl rfl rfl rfl ⟨rfl, rfl, rfl, rfl, rfl⟩ rfl rfl rfl rfl rfl (by kernel_rfl) Try.func3 (by kernel_rfl)
    (of_decide_eq_true (by kernel_rfl)) (by unfold Func.isWrapper; first | (rw [if_pos (by decide +kernel)]; kernel_rfl) | (rw [if_neg (by decide +kernel)]; exact ⟨rfl, rfl⟩))
    (fun os started H enc _ => keepDoes_lifted os started H enc)

#print axioms keepDoes_holds

end Go.Proofs.Ytbgnajcmhmpjlab
