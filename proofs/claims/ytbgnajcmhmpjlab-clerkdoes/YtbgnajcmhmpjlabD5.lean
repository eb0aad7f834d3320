/- For every number, every world, every list of mails and every number: the statement ClerkDoes of the program returns true, and its arguments read as before (no condition). -/
import Derived.Test.YtbgnajcmhmpjlabRows
import Derived.Test.YtbgnajcmhmpjlabD4

/- The walk of ClerkDoes: it answers true, whatever shop, world, mails and number it is given. -/
namespace Go.Proofs.Ytbgnajcmhmpjlab
open Go.RowKit

/-- A clerk and the document's pen beside it, made since w0, apart, outside Z. -/
structure CP (w0 : World) (Z : Nat → Prop) (w : World) (c s : Nat) (no : Int) (ws : Nat → Int) (K L : Kb) : Prop where
  inn : ∃ O1 O2, ClkIn O1 w c no ws K ∧ PenIn O2 w s L ∧ (∀ k, O1 k → ¬ O2 k) ∧ (∀ k, O1 k → w0.heap.size ≤ k ∧ ¬ Z k) ∧ (∀ k, O2 k → w0.heap.size ≤ k ∧ ¬ Z k)
  below : Below w0.heap.size w0 w
  kept : ∀ k, Z k → k < w.heap.size
theorem CP.next {w0 w w1 : World} {Z : Nat → Prop} {c s : Nat} {no : Int} {ws : Nat → Int} {K L : Kb} (h : CP w0 Z w c s no ws K L) (hb : Below w.heap.size w w1) : CP w0 Z w1 c s no ws K L := by
  obtain ⟨O1, O2, h1, h2, h3, h4, h5⟩ := h.inn
  exact ⟨⟨O1, O2, h1.next hb, h2.next hb, h3, h4, h5⟩, after h.below hb h.below.size, fun k hk => Nat.lt_of_lt_of_le (h.kept k hk) hb.size⟩
theorem CP.more {w0 w w1 : World} {Z Z' : Nat → Prop} {c s : Nat} {no : Int} {ws : Nat → Int} {K L : Kb} (h : CP w0 Z w c s no ws K L) (hb : Below w.heap.size w w1) (hZ : ∀ k, Z' k → Z k ∨ (w.heap.size ≤ k ∧ k < w1.heap.size)) : CP w0 Z' w1 c s no ws K L := by
  obtain ⟨O1, O2, h1, h2, h3, h4, h5⟩ := h.inn
  refine ⟨⟨O1, O2, h1.next hb, h2.next hb, h3, fun k hk => ⟨(h4 k hk).1, fun hk' => ?_⟩, fun k hk => ⟨(h5 k hk).1, fun hk' => ?_⟩⟩, after h.below hb h.below.size, fun k hk => ?_⟩
  · rcases hZ k hk' with q | q
    · exact (h4 k hk).2 q
    · have := h1.own k hk
      omega
  · rcases hZ k hk' with q | q
    · exact (h5 k hk).2 q
    · have := h2.own k hk
      omega
  · rcases hZ k hk with q | q
    · exact Nat.lt_of_lt_of_le (h.kept k q) hb.size
    · exact q.2
theorem CP.clk {w0 w : World} {Z : Nat → Prop} {c s : Nat} {no : Int} {ws : Nat → Int} {K L : Kb} (h : CP w0 Z w c s no ws K L) : CLive w0 Z w c no ws K := by
  obtain ⟨O1, O2, h1, h2, h3, h4, h5⟩ := h.inn
  exact ⟨⟨O1, h1, h4⟩, h.below, h.kept⟩
theorem cp_step_c {w0 w w' : World} {Z O1 O2 O' : Nat → Prop} {c s : Nat} {no : Int} {ws : Nat → Int} {K K' L : Kb} (h : CP w0 Z w c s no ws K L) (h2 : PenIn O2 w s L) (h3 : ∀ k, O1 k → ¬ O2 k) (h4 : ∀ k, O1 k → w0.heap.size ≤ k ∧ ¬ Z k) (h5 : ∀ k, O2 k → w0.heap.size ≤ k ∧ ¬ Z k) (k1 : ClkIn O' w' c no ws K') (k2 : Save O1 w w') (k3 : Moved O1 O' w) : CP w0 Z w' c s no ws K' L ∧ Save (fun k => ¬ Z k) w w' :=
  ⟨⟨⟨O', O2, k1, h2.save k2 (fun k hk hk' => h3 k hk' hk), fun k hk hk' => (k3 k hk).elim (fun q => h3 k q hk') (fun q => by have := h2.own k hk'; omega), fun k hk => (k3 k hk).elim (h4 k) (fun q => ⟨Nat.le_trans h.below.size q, fun z => by have := h.kept k z; omega⟩), h5⟩, h.below.trans (k2.below (fun k hk hO => by have := (h4 k hO).1; omega) h.below.size), fun k hk => Nat.lt_of_lt_of_le (h.kept k hk) k2.size⟩, k2.mono (fun k _ hk => (h4 k hk).2)⟩
theorem cp_ans_c {w0 w : World} {Z : Nat → Prop} {c s : Nat} {no : Int} {ws : Nat → Int} {K L : Kb} (m : Ml) (h : CP w0 Z w c s no ws K L) (hG : Good K.A) (hl : K.A.hs.length < 2 ^ 40) (hr : K.rs.length < 2 ^ 40) : Calls Try.prog 43 #[.pointer (some ⟨c, 0, none⟩), .agg #[.int .i64 m.kind, .int .i64 m.deal, .int .i64 m.shop, .int .i64 m.c, .int .i64 m.d, .bool m.yes]] w fun e w' => e = .returned (ansV (ansR no K m)) ∧ CP w0 Z w' c s no ws (ansR no K m).2.2 L ∧ Save (fun k => ¬ Z k) w w' := by
  obtain ⟨O1, O2, h1, h2, h3, h4, h5⟩ := h.inn
  refine (cans_any O1 no ws K c m w h1 hG hl hr).mono ?_
  rintro e w' ⟨he, O', k1, k2, k3⟩
  exact ⟨he, cp_step_c h h2 h3 h4 h5 k1 k2 k3⟩
theorem cp_crash {w0 w : World} {Z : Nat → Prop} {c s : Nat} {no : Int} {ws : Nat → Int} {K L : Kb} (h : CP w0 Z w c s no ws K L) (hG : GoodK (book0 no ws) K) (hok : newOk no ws = true) (hr : K.rs.length < 1000000) : ∃ q, w.cell? ⟨c, 0, none⟩ = some (.pointer (some ⟨q, 0, none⟩)) ∧ c < w.heap.size ∧ ∀ W : World, Below w.heap.size w W → Calls Try.prog 26 #[.pointer (some ⟨q, 0, none⟩)] W fun e w' => e = .returned (.tuple #[]) ∧ CP w0 Z w' c s no ws K L := by
  obtain ⟨O1, O2, h1, h2, h3, h4, h5⟩ := h.inn
  obtain ⟨q, hR, hC⟩ := ccrash_any h1 hG hok hr
  refine ⟨q, hR.c0, hR.lt, fun W hW => (hC W hW).mono ?_⟩
  rintro e w' ⟨he, O', k1, k2, k3⟩
  exact ⟨he, (cp_step_c (h.next hW) (h2.next hW) h3 h4 h5 k1 k2 k3).1⟩
theorem cp_ans_p {w0 w : World} {Z : Nat → Prop} {c s : Nat} {no : Int} {ws : Nat → Int} {K L : Kb} (m : Ml) (h : CP w0 Z w c s no ws K L) (hno : L.A.no = no) (hG : Good L.A) (hl : L.A.hs.length < 1000000) (he : L.A.es.length < 1000000) (hr : L.rs.length ≤ 150) : Calls Try.prog 44 #[.pointer (some ⟨s, 0, none⟩), .agg #[.int .i64 m.kind, .int .i64 m.deal, .int .i64 m.shop, .int .i64 m.c, .int .i64 m.d, .bool m.yes]] w fun e w' => e = .returned (ansV (ansR no L m)) ∧ CP w0 Z w' c s no ws K (ansR no L m).2.2 ∧ Save (fun k => ¬ Z k) w w' := by
  obtain ⟨O1, O2, h1, h2, h3, h4, h5⟩ := h.inn
  subst hno
  refine (pans_any O2 L s m w h2 hG hl he hr).mono ?_
  rintro e w' ⟨he, O', k1, k2, k3⟩
  exact ⟨he, ⟨⟨O1, O', h1.save k2 (fun k hk hk' => h3 k hk hk'), k1, fun k hk hk' => (k3 k hk').elim (fun q => h3 k hk q) (fun q => by have := h1.own k hk; omega), h4, fun k hk => (k3 k hk).elim (h5 k) (fun q => ⟨Nat.le_trans h.below.size q, fun z => by have := h.kept k z; omega⟩)⟩, h.below.trans (k2.below (fun k hk hO => by have := (h5 k hO).1; omega) h.below.size), fun k hk => Nat.lt_of_lt_of_le (h.kept k hk) k2.size⟩, k2.mono (fun k _ hk => (h5 k hk).2)⟩

set_option maxHeartbeats 8000000 in
set_option maxRecDepth 100000 in
theorem cdoes_walk (no : Int) (ws : Nat → Int) (la : Option Addr) (ll lc : Nat) (l : List Ml) (cr : Int) (w : World) (hl : MailsAt w la l) (hll : l.length = ll) :
    Calls Try.prog 9 #[.int .i64 no, .agg #[.int .i64 (ws 0), .int .i64 (ws 1), .int .i64 (ws 2), .int .i64 (ws 3), .int .i64 (ws 4), .int .i64 (ws 5)], .slice la ll lc, .int .i64 cr] w fun e w' => e = .returned (.bool true) ∧ Below w.heap.size w w' := by
  by_cases hbig : 150 < ll
  · have hbig' : (150 : Int) < (ll : Int) := by omega
    clear hl hll hbig
    go_enter Try.func9, Try.ntmps9
    go_wp2_with fail
    refine (cbegun_any _).mono ?_
    rintro e w1 ⟨rfl, hb1⟩
    go_wp2_with fail
    go_ret
    exact ⟨rfl, after (by go_grown) hb1 (by simp)⟩
  · have hbig' : ¬ (150 : Int) < (ll : Int) := by omega
    have HB : Hid (ll ≤ 150) := by show _ ≤ _; omega
    clear hbig
    go_enter Try.func9, Try.ntmps9
    go_wp2_with fail
    refine (cbegun_any _).mono ?_
    rintro e w1 ⟨rfl, hb1⟩
    have HT : Hid (MailsAt w la l) := hl
    have hX := (box_new6 w ws 23).next hb1
    have hb2 : Below w.heap.size w w1 := after (by go_grown) hb1 (by simp)
    clear hb1 hl
    go_upto_region 5 with fail
    generalize w1 = W at hX hb2 ⊢
    have HBW : Hid (Below w.heap.size w W) := hb2
    have HK : Hid (∀ w', Below W.heap.size W w' → w'.cell? ⟨w.heap.size, 0, none⟩ = some (.int .i64 (ws 0)) ∧ w'.cell? ⟨w.heap.size, 1, none⟩ = some (.int .i64 (ws 1)) ∧ w'.cell? ⟨w.heap.size, 2, none⟩ = some (.int .i64 (ws 2)) ∧ w'.cell? ⟨w.heap.size, 3, none⟩ = some (.int .i64 (ws 3)) ∧ w'.cell? ⟨w.heap.size, 4, none⟩ = some (.int .i64 (ws 4)) ∧ w'.cell? ⟨w.heap.size, 5, none⟩ = some (.int .i64 (ws 5)) ∧ Below W.heap.size W w') := fun w' hb => by
      have h := hX.next hb
      exact ⟨h.2 0 _ rfl, h.2 1 _ rfl, h.2 2 _ rfl, h.2 3 _ rfl, h.2 4 _ rfl, h.2 5 _ rfl, hb⟩
    clear hX hb2
    by_cases hok : newOk no ws = true
    · have HOk : Hid (newOk no ws = true) := hok
      have HN1 : Hid (∀ W' : World, Calls Try.prog 42 #[.int .i64 no, .agg #[.int .i64 (ws 0), .int .i64 (ws 1), .int .i64 (ws 2), .int .i64 (ws 3), .int .i64 (ws 4), .int .i64 (ws 5)]] W' fun e w' => (∃ q O, e = .returned (.pointer (some ⟨q, 0, none⟩)) ∧ ClkIn O w' q no ws ⟨book0 no ws, []⟩ ∧ ∀ k, O k → W'.heap.size ≤ k) ∧ Below W'.heap.size W' w') := fun W' => (cnew_any no ws W').mono (fun e w' h => ⟨by have := h.1; unfold NewCIs at this; rwa [if_pos hok] at this, h.2⟩)
      have HN2 : Hid (∀ W' : World, Calls Try.prog 23 #[.int .i64 no, .agg #[.int .i64 (ws 0), .int .i64 (ws 1), .int .i64 (ws 2), .int .i64 (ws 3), .int .i64 (ws 4), .int .i64 (ws 5)]] W' fun e w' => (∃ s O, e = .returned (.pointer (some ⟨s, 0, none⟩)) ∧ PenIn O w' s ⟨book0 no ws, []⟩ ∧ ∀ k, O k → W'.heap.size ≤ k) ∧ Below W'.heap.size W' w') := fun W' => (npen_any no ws W').mono (fun e w' h => ⟨by have := h.1; unfold NewPIs at this; rwa [if_pos hok] at this, h.2⟩)
      have HG0 : Hid (GoodK (book0 no ws) ⟨book0 no ws, []⟩) := goodK_new (good_new hok) rfl rfl
      clear hok
      go_cut [9, 10] (fun s6 s7 wx => ∃ c s, s6 = .pointer (some ⟨c, 0, none⟩) ∧ s7 = .pointer (some ⟨s, 0, none⟩) ∧ CP w (fun _ => False) wx c s no ws ⟨book0 no ws, []⟩ ⟨book0 no ws, []⟩)
      case first =>
        go_region_held3 (fun w' => w'.cell? ⟨w.heap.size, 0, none⟩ = some (.int .i64 (ws 0)) ∧ w'.cell? ⟨w.heap.size, 1, none⟩ = some (.int .i64 (ws 1)) ∧ w'.cell? ⟨w.heap.size, 2, none⟩ = some (.int .i64 (ws 2)) ∧ w'.cell? ⟨w.heap.size, 3, none⟩ = some (.int .i64 (ws 3)) ∧ w'.cell? ⟨w.heap.size, 4, none⟩ = some (.int .i64 (ws 4)) ∧ w'.cell? ⟨w.heap.size, 5, none⟩ = some (.int .i64 (ws 5)) ∧ Below W.heap.size W w')
          (first | exact HK.out _ (by go_grown))
          (first | (go_at_call 42; refine Calls.mono (HN1.out _) ?_; rintro e w9 ⟨⟨q, O1, rfl, hI9, hO9⟩, hb9⟩; have HI9 : Hid (ClkIn O1 w9 q no ws ⟨book0 no ws, []⟩) := hI9; have HO9 : Hid (∀ k, O1 k → W.heap.size ≤ k) := (fun k hk => Nat.le_trans (by simp) (hO9 k hk)); clear hI9 hO9; have hw9 : Below W.heap.size W w9 := after (by go_grown) hb9 (by simp); have hz9 : W.heap.size ≤ w9.heap.size := hw9.size) | (go_at_call 23; refine Calls.mono (HN2.out _) ?_; rintro e w10 ⟨⟨s, O2, rfl, hI10, hO10⟩, hb10⟩; have HI10 : Hid (PenIn O2 w10 s ⟨book0 no ws, []⟩) := hI10; have HO10 : Hid (∀ k, O2 k → w9.heap.size ≤ k) := (fun k hk => Nat.le_trans (by simp) (hO10 k hk)); clear hI10 hO10; have hv10 : Below w9.heap.size w9 w10 := after (by go_grown) hb10 (by simp); have hw10 : Below W.heap.size W w10 := after (by go_grown) hb10 (by first | assumption | simp); have hz10 : W.heap.size ≤ w10.heap.size := hw10.size))
        all_goals
          go_wp2_with fail
          go_meet
          case rel =>
            have hwW := HBW.out.size
            exact ⟨q, s, rfl, rfl, ⟨O1, O2, HI9.out.next hv10, HI10.out, fun k h1 h2 => by have := HI9.out.own k h1; have := HO10.out k h2; omega, fun k hk => ⟨Nat.le_trans hwW (HO9.out k hk), fun q => q⟩, fun k hk => ⟨Nat.le_trans hwW (Nat.le_trans hz9 (HO10.out k hk)), fun q => q⟩⟩, after HBW.out hw10 hwW, fun _ q => q.elim⟩
      case rest =>
        obtain ⟨c, s, rfl, rfl, hCP⟩ := hcut
        clear HK HN1 HN2 HBW
        go_wp2_with fail
        go_loopg [11] ll (fun g s11 wr => ∃ (k : Nat) (K : Kb), k ≤ ll ∧ g = ll - k ∧ s11 = .int .i64 k ∧ CP w (fun _ => False) wr c s no ws K K ∧ Hid (GoodK (book0 no ws) K) ∧ Hid (K.rs.length ≤ k))
        case atStart => exact ⟨0, _, Nat.zero_le _, rfl, rfl, hCP, HG0, Nat.le_refl _⟩
        case round =>
          obtain ⟨k, K, hk, rfl, rfl, hP1, HG, HL⟩ := hrel
          clear hCP HG0
          by_cases hlt : k < ll
          · obtain ⟨x, hkx⟩ : ∃ x, l[k]? = some x := ⟨_, List.getElem?_eq_getElem (by omega)⟩
            obtain ⟨bl, ol, rfl, hbl, hcell⟩ := HT.out k x hkx
            have HKx : Hid (∀ w', Below w.heap.size w w' → w'.cell? ⟨bl, ol + k * 6, none⟩ = some (.int .i64 x.kind) ∧ w'.cell? ⟨bl, ol + k * 6 + 1, none⟩ = some (.int .i64 x.deal) ∧ w'.cell? ⟨bl, ol + k * 6 + 2, none⟩ = some (.int .i64 x.shop) ∧ w'.cell? ⟨bl, ol + k * 6 + 3, none⟩ = some (.int .i64 x.c) ∧ w'.cell? ⟨bl, ol + k * 6 + 4, none⟩ = some (.int .i64 x.d) ∧ w'.cell? ⟨bl, ol + k * 6 + 5, none⟩ = some (.bool x.yes)) := fun w' hb => by
              have hy : ∀ j v, x.cells[j]? = some v → w'.cell? ⟨bl, ol + k * 6 + j, none⟩ = some v := fun j v hj => (hb.cell (p := ⟨bl, _, none⟩) hbl).trans (hcell j v hj)
              exact ⟨hy 0 _ rfl, hy 1 _ rfl, hy 2 _ rfl, hy 3 _ rfl, hy 4 _ rfl, hy 5 _ rfl⟩
            have j0 : (0 : Int) ≤ (k : Int) := by omega
            have j1 : (k : Int) < (ll : Int) := by omega
            have HKN : Hid (k < ll) := hlt
            have HLen : Hid (K.A.hs.length ≤ 150 ∧ K.A.es.length ≤ 150 ∧ K.rs.length ≤ 150) := by
              have := HG.out.hl
              have := HG.out.el
              have := HL.out
              have := HB.out
              exact ⟨by omega, by omega, by omega⟩
            have HG2 : Hid (GoodK (book0 no ws) (ansR no K x).2.2) := goodK_ans HG.out no x
            have HL2 : Hid ((ansR no K x).2.2.rs.length ≤ k + 1) := by have := ans_len no K x; have := HL.out; show _ ≤ _; omega
            have HLen2 : Hid ((ansR no K x).2.2.A.hs.length ≤ 151 ∧ (ansR no K x).2.2.rs.length ≤ 151) := by
              have := HG2.out.hl
              have := HL2.out
              have := HKN.out
              have := HB.out
              exact ⟨by omega, by omega⟩
            have HA1 : Hid (Calls Try.prog 43 #[.pointer (some ⟨c, 0, none⟩), .agg #[.int .i64 x.kind, .int .i64 x.deal, .int .i64 x.shop, .int .i64 x.c, .int .i64 x.d, .bool x.yes]] wr fun e w' => e = .returned (ansV (ansR no K x)) ∧ CP w (fun _ => False) w' c s no ws (ansR no K x).2.2 K) := (cp_ans_c x hP1 HG.out.good (by have := HLen.out; omega) (by have := HLen.out; omega)).mono (fun e w' h => ⟨h.1, h.2.1⟩)
            have HA2 : Hid (∀ (Z : Nat → Prop) (W2 : World), CP w Z W2 c s no ws (ansR no K x).2.2 K → Calls Try.prog 44 #[.pointer (some ⟨s, 0, none⟩), .agg #[.int .i64 x.kind, .int .i64 x.deal, .int .i64 x.shop, .int .i64 x.c, .int .i64 x.d, .bool x.yes]] W2 fun e w' => e = .returned (ansV (ansR no K x)) ∧ CP w Z w' c s no ws (ansR no K x).2.2 (ansR no K x).2.2 ∧ Save (fun k => ¬ Z k) W2 w') := fun Z W2 h1 => cp_ans_p x h1 HG.out.no HG.out.good (by have := HLen.out; omega) (by have := HLen.out; omega) (by have := HLen.out; omega)
            have HP1 : Hid (Below w.heap.size w wr) := hP1.below
            clear hcell hkx hk hlt hbl hP1
            generalize ansR no K x = rr at *
            obtain ⟨a, z, K2⟩ := rr
            unfold ansV mlV at HA1 HA2
            dsimp only at *
            obtain ⟨p0, p1, p2, p3, p4, p5⟩ := HKx.out wr HP1.out
            go_wp2_with fail
            refine Calls.mono HA1.out ?_
            rintro e w3 ⟨rfl, hP3⟩
            clear p0 p1 p2 p3 p4 p5 HA1 HP1
            go_upto_region 12 with fail
            have hA := MlBox.new w3 a 71
            have hbn : Below w3.heap.size w3 (w3.alloc (.cells #[.int .i64 a.kind, .int .i64 a.deal, .int .i64 a.shop, .int .i64 a.c, .int .i64 a.d, .bool a.yes] 71)) := (Below.refl _ _).alloc (Nat.le_refl _) _
            have hP4 : CP w (fun b => b = w3.heap.size) (w3.alloc (.cells #[.int .i64 a.kind, .int .i64 a.deal, .int .i64 a.shop, .int .i64 a.c, .int .i64 a.d, .bool a.yes] 71)) c s no ws K2 K := hP3.more hbn (fun b e => .inr (by subst e; exact ⟨Nat.le_refl _, hA.lt⟩))
            generalize (w3.alloc (.cells #[.int .i64 a.kind, .int .i64 a.deal, .int .i64 a.shop, .int .i64 a.c, .int .i64 a.d, .bool a.yes] 71)) = W4 at hA hP4 hbn ⊢
            generalize w3.heap.size = ba at hA hP4 ⊢
            clear hP3 hbn
            obtain ⟨p0, p1, p2, p3, p4, p5⟩ := HKx.out W4 hP4.below
            go_wp2_with fail
            refine Calls.mono (HA2.out _ W4 hP4) ?_
            rintro e w5 ⟨rfl, hP5, hS5⟩
            have hA5 := hA.save hS5 (fun e => e rfl)
            clear p0 p1 p2 p3 p4 p5 hS5 hA hP4 HA2
            go_upto_region 13 with fail
            have hbn : Below w5.heap.size w5 (w5.alloc (.cells #[.int .i64 a.kind, .int .i64 a.deal, .int .i64 a.shop, .int .i64 a.c, .int .i64 a.d, .bool a.yes] 71)) := (Below.refl _ _).alloc (Nat.le_refl _) _
            have hA6 := hA5.next hbn
            have hB6 := MlBox.new w5 a 71
            have hP6 := hP5.more (Z' := fun _ => False) hbn (fun _ q => q.elim)
            generalize (w5.alloc (.cells #[.int .i64 a.kind, .int .i64 a.deal, .int .i64 a.shop, .int .i64 a.c, .int .i64 a.d, .bool a.yes] 71)) = W6 at hA6 hB6 hP6 hbn ⊢
            generalize w5.heap.size = bb at hB6 ⊢
            clear hP5 hbn hA5
            obtain ⟨xl, x0, x1, x2, x3, x4, x5, xf⟩ := hA6
            obtain ⟨yl, y0, y1, y2, y3, y4, y5, yf⟩ := hB6
            have hqm : ∀ W : World, (Op.equalIn 10000 71 (.agg #[.int .i64 a.kind, .int .i64 a.deal, .int .i64 a.shop, .int .i64 a.c, .int .i64 a.d, .bool a.yes]) (.agg #[.int .i64 a.kind, .int .i64 a.deal, .int .i64 a.shop, .int .i64 a.c, .int .i64 a.d, .bool a.yes])).run Try.prog W = .ok true W := fun W => by rw [eqMl, eqM_iff.2 rfl]
            by_cases hcr : (k : Int) = cr
            · subst hcr
              obtain ⟨q, k0, hcl, hC⟩ := cp_crash hP6 HG2.out HOk.out (by have := HLen2.out; omega)
              have HC : Hid (∀ W : World, Below W6.heap.size W6 W → Calls Try.prog 26 #[.pointer (some ⟨q, 0, none⟩)] W fun e w' => e = .returned (.tuple #[]) ∧ CP w (fun _ => False) w' c s no ws K2 K2) := hC
              clear hC hP6
              go_wp2_with fail
              refine Calls.mono (HC.out _ (Below.refl _ _)) ?_
              rintro e wz ⟨rfl, hPz⟩
              clear HC k0 hcl x0 x1 x2 x3 x4 x5 xf xl y0 y1 y2 y3 y4 y5 yf yl
              go_upto_region 17 with fail
              go_cut [124] (fun s151 wx => s151 = .bool false ∧ Below wz.heap.size wz wx)
              case first =>
                obtain ⟨q, cc0, hcl, hKL⟩ := hPz.clk.keeper
                obtain ⟨p, c0, hql, hLs⟩ := hKL.shop
                obtain ⟨O1, O2, _, hPn, _⟩ := hPz.inn
                obtain ⟨Ob, q2, rv, hRp, hBi, _, _, hrl, _⟩ := hPn.raw
                obtain ⟨gl, capl, rfl, hSl, _⟩ := steps_of_own hrl
                obtain ⟨hv, ov, dv, hRw, hrow, _⟩ := hBi.raw
                obtain ⟨ga, cap, rfl, hH, _⟩ := holds_of_own hrow
                have hsl := hRp.lt
                have hbl2 := hRw.lt
                have HK : Hid (∀ w', Below wz.heap.size wz w' → w'.cell? ⟨c, 0, none⟩ = some (.pointer (some ⟨q, 0, none⟩)) ∧ w'.cell? ⟨q, 0, none⟩ = some (.pointer (some ⟨p, 0, none⟩)) ∧ w'.cell? ⟨s, 0, none⟩ = some (.pointer (some ⟨q2, 0, none⟩)) ∧ w'.cell? ⟨s, 1, none⟩ = some (.slice gl K2.rs.length capl) ∧ w'.cell? ⟨q2, 3, none⟩ = some (.slice ga K2.A.hs.length cap) ∧ Below wz.heap.size wz w') := fun w' hb => ⟨((bcell hb).1 _ _ hcl).trans cc0, ((bcell hb).1 _ _ hql).trans c0, ((bcell hb).1 _ _ hsl).trans hRp.c0, ((bcell hb).1 _ _ hsl).trans hRp.c1, ((bcell hb).1 _ _ hbl2).trans hRw.c3, hb⟩
                have HC1 : Hid (∀ W : World, Below wz.heap.size wz W → Calls Try.prog 18 #[.pointer (some ⟨p, 0, none⟩)] W fun e w' => e = .returned (.agg #[.int .i64 (cnt6 K2.A 0), .int .i64 (cnt6 K2.A 1), .int .i64 (cnt6 K2.A 2), .int .i64 (cnt6 K2.A 3), .int .i64 (cnt6 K2.A 4), .int .i64 (cnt6 K2.A 5)]) ∧ Below W.heap.size W w') := fun W hW => (counts_live (hLs.next hW)).mono (fun e w' h => ⟨h.1, h.2.2⟩)
                have HC2 : Hid (∀ W : World, Below wz.heap.size wz W → Calls Try.prog 19 #[.pointer (some ⟨q2, 0, none⟩)] W fun e w' => e = .returned (.agg #[.int .i64 (cnt6 K2.A 0), .int .i64 (cnt6 K2.A 1), .int .i64 (cnt6 K2.A 2), .int .i64 (cnt6 K2.A 3), .int .i64 (cnt6 K2.A 4), .int .i64 (cnt6 K2.A 5)]) ∧ Below W.heap.size W w') := fun W hW => bcounts_any Ob K2.A q2 W (hBi.next hW) HG2.out.good (by have := HLen2.out; omega)
                have HC3 : Hid (∀ W : World, Below wz.heap.size wz W → Calls Try.prog 21 #[.pointer (some ⟨p, 0, none⟩)] W fun e w' => (∃ gh cap, e = .returned (.slice gh K2.A.hs.length cap) ∧ HoldsAt w' gh K2.A.hs) ∧ Below W.heap.size W w') := fun W hW => (holds_live (hLs.next hW) (by have := HLen2.out; omega)).mono (fun e w' h => by
                  obtain ⟨⟨gh, capb, e1, e2, _⟩, _, e3⟩ := h
                  exact ⟨⟨gh, capb, e1, e2⟩, e3⟩)
                have HC4 : Hid (∀ (W W' : World) (gh : Option Addr) (capb : Nat), Below wz.heap.size wz W → HoldsAt W gh K2.A.hs → Below W.heap.size W W' → Calls Try.prog 20 #[.slice gh K2.A.hs.length capb, .slice ga K2.A.hs.length cap] W' fun e w' => e = .returned (.bool true) ∧ Below W'.heap.size W' w') := fun W W' gh capb hW hB hW' => (sameHolds_any gh ga _ _ capb cap K2.A.hs K2.A.hs W' (hB.below hW' (Nat.le_refl _)) ((hH.below hW (Nat.le_refl _)).below hW' (Nat.le_refl _)) rfl rfl (by have := HLen2.out; omega)).mono (fun e w' h => ⟨by rw [h.1]; exact ret_bool (decide_eq_true rfl), h.2⟩)
                have HC5 : Hid (∀ W : World, Below wz.heap.size wz W → Calls Try.prog 28 #[.pointer (some ⟨q, 0, none⟩)] W fun e w' => (∃ gc cap, e = .returned (.slice gc K2.rs.length cap) ∧ StepsAt w' gc K2.rs) ∧ Below W.heap.size W w') := fun W hW => (recs_live (hKL.next hW) (by have := HLen2.out; omega)).mono (fun e w' h => by
                  obtain ⟨⟨gc, capc, e1, e2, _⟩, _, e3⟩ := h
                  exact ⟨⟨gc, capc, e1, e2⟩, e3⟩)
                have HC6 : Hid (∀ (W W' : World) (gc : Option Addr) (capc : Nat), Below wz.heap.size wz W → StepsAt W gc K2.rs → Below W.heap.size W W' → Calls Try.prog 27 #[.slice gc K2.rs.length capc, .slice gl K2.rs.length capl] W' fun e w' => e = .returned (.bool true) ∧ Below W'.heap.size W' w') := fun W W' gc capc hW hB hW' => (sameRecs_any gc gl _ _ capc capl K2.rs K2.rs W' (hB.below hW' (Nat.le_refl _)) ((hSl.below hW (Nat.le_refl _)).below hW' (Nat.le_refl _)) rfl rfl (by have := HLen2.out; omega)).mono (fun e w' h => by
                  obtain ⟨⟨b, e1, e2⟩, e3⟩ := h
                  exact ⟨by rw [e1, e2.2 rfl], e3⟩)
                have hq1 : ∀ W : World, (Op.equalIn 10000 36 (.agg #[.int .i64 (cnt6 K2.A 0), .int .i64 (cnt6 K2.A 1), .int .i64 (cnt6 K2.A 2), .int .i64 (cnt6 K2.A 3), .int .i64 (cnt6 K2.A 4), .int .i64 (cnt6 K2.A 5)]) (.agg #[.int .i64 (cnt6 K2.A 0), .int .i64 (cnt6 K2.A 1), .int .i64 (cnt6 K2.A 2), .int .i64 (cnt6 K2.A 3), .int .i64 (cnt6 K2.A 4), .int .i64 (cnt6 K2.A 5)])).run Try.prog W = .ok true W := fun W => by rw [eqC]; simp
                clear hLs hKL hPn hRp hBi hrl hSl hRw hrow hH c0 cc0 hPz
                go_region_held3 (fun w' => w'.cell? ⟨c, 0, none⟩ = some (.pointer (some ⟨q, 0, none⟩)) ∧ w'.cell? ⟨q, 0, none⟩ = some (.pointer (some ⟨p, 0, none⟩)) ∧ w'.cell? ⟨s, 0, none⟩ = some (.pointer (some ⟨q2, 0, none⟩)) ∧ w'.cell? ⟨s, 1, none⟩ = some (.slice gl K2.rs.length capl) ∧ w'.cell? ⟨q2, 3, none⟩ = some (.slice ga K2.A.hs.length cap) ∧ Below wz.heap.size wz w')
                  (first | exact HK.out _ (by go_grown))
                  (first | (go_at_call 18; refine Calls.mono (HC1.out _ (by go_grown)) ?_; rintro e w9 ⟨rfl, hb9⟩; have hw9 : Below wz.heap.size wz w9 := after (by go_grown) hb9 (by simp); have hz9 : wz.heap.size ≤ w9.heap.size := hw9.size) | (go_at_call 19; refine Calls.mono (HC2.out _ (by go_grown)) ?_; rintro e w10 ⟨rfl, hb10⟩; have hw10 : Below wz.heap.size wz w10 := after hw9 hb10 hz9; have hz10 : wz.heap.size ≤ w10.heap.size := hw10.size) | (go_at_call 21; refine Calls.mono (HC3.out _ (by go_grown)) ?_; rintro e w11 ⟨⟨gh, capb, rfl, hAB⟩, hb11⟩; have HAB : Hid (HoldsAt w11 gh K2.A.hs) := hAB; clear hAB; have hw11 : Below wz.heap.size wz w11 := after hw10 hb11 hz10; have hz11 : wz.heap.size ≤ w11.heap.size := hw11.size) | (go_at_call 20; refine Calls.mono (HC4.out w11 _ gh capb hw11 HAB.out (by go_grown)) ?_; rintro e w12 ⟨rfl, hb12⟩; have hw12 : Below wz.heap.size wz w12 := after hw11 hb12 hz11; have hz12 : wz.heap.size ≤ w12.heap.size := hw12.size) | (go_at_call 28; refine Calls.mono (HC5.out _ (by go_grown)) ?_; rintro e w13 ⟨⟨gc, capc, rfl, hAC⟩, hb13⟩; have HAC : Hid (StepsAt w13 gc K2.rs) := hAC; clear hAC; have hw13 : Below wz.heap.size wz w13 := after hw12 hb13 hz12; have hz13 : wz.heap.size ≤ w13.heap.size := hw13.size) | (go_at_call 27; refine Calls.mono (HC6.out w13 _ gc capc hw13 HAC.out (by go_grown)) ?_; rintro e w14 ⟨rfl, hb14⟩; have hw14 : Below wz.heap.size wz w14 := after hw13 hb14 hz13; have hz14 : wz.heap.size ≤ w14.heap.size := hw14.size))
                all_goals
                  go_wp2_with fail
                  go_meet
                  case rel => exact ⟨rfl, by go_grown⟩
              case rest =>
                obtain ⟨rfl, hbz⟩ := hcut
                have hP9 := hPz.next hbz
                clear hPz hbz
                go_wp2_with fail
                go_roundg (ll - (k + 1))
                case measure => have := HKN.out; omega
                case rel => exact ⟨k + 1, K2, HKN.out, rfl, by simp, hP9, HG2, HL2⟩
            · have hcr' : ((k : Int) == cr) = false := by simpa using hcr
              clear hcr
              go_upto_region 17 with fail
              clear x0 x1 x2 x3 x4 x5 xf xl y0 y1 y2 y3 y4 y5 yf yl
              have hPz := hP6
              clear hP6
              generalize W6 = wz at *
              go_cut [124] (fun s151 wx => s151 = .bool false ∧ Below wz.heap.size wz wx)
              case first =>
                obtain ⟨q, cc0, hcl, hKL⟩ := hPz.clk.keeper
                obtain ⟨p, c0, hql, hLs⟩ := hKL.shop
                obtain ⟨O1, O2, _, hPn, _⟩ := hPz.inn
                obtain ⟨Ob, q2, rv, hRp, hBi, _, _, hrl, _⟩ := hPn.raw
                obtain ⟨gl, capl, rfl, hSl, _⟩ := steps_of_own hrl
                obtain ⟨hv, ov, dv, hRw, hrow, _⟩ := hBi.raw
                obtain ⟨ga, cap, rfl, hH, _⟩ := holds_of_own hrow
                have hsl := hRp.lt
                have hbl2 := hRw.lt
                have HK : Hid (∀ w', Below wz.heap.size wz w' → w'.cell? ⟨c, 0, none⟩ = some (.pointer (some ⟨q, 0, none⟩)) ∧ w'.cell? ⟨q, 0, none⟩ = some (.pointer (some ⟨p, 0, none⟩)) ∧ w'.cell? ⟨s, 0, none⟩ = some (.pointer (some ⟨q2, 0, none⟩)) ∧ w'.cell? ⟨s, 1, none⟩ = some (.slice gl K2.rs.length capl) ∧ w'.cell? ⟨q2, 3, none⟩ = some (.slice ga K2.A.hs.length cap) ∧ Below wz.heap.size wz w') := fun w' hb => ⟨((bcell hb).1 _ _ hcl).trans cc0, ((bcell hb).1 _ _ hql).trans c0, ((bcell hb).1 _ _ hsl).trans hRp.c0, ((bcell hb).1 _ _ hsl).trans hRp.c1, ((bcell hb).1 _ _ hbl2).trans hRw.c3, hb⟩
                have HC1 : Hid (∀ W : World, Below wz.heap.size wz W → Calls Try.prog 18 #[.pointer (some ⟨p, 0, none⟩)] W fun e w' => e = .returned (.agg #[.int .i64 (cnt6 K2.A 0), .int .i64 (cnt6 K2.A 1), .int .i64 (cnt6 K2.A 2), .int .i64 (cnt6 K2.A 3), .int .i64 (cnt6 K2.A 4), .int .i64 (cnt6 K2.A 5)]) ∧ Below W.heap.size W w') := fun W hW => (counts_live (hLs.next hW)).mono (fun e w' h => ⟨h.1, h.2.2⟩)
                have HC2 : Hid (∀ W : World, Below wz.heap.size wz W → Calls Try.prog 19 #[.pointer (some ⟨q2, 0, none⟩)] W fun e w' => e = .returned (.agg #[.int .i64 (cnt6 K2.A 0), .int .i64 (cnt6 K2.A 1), .int .i64 (cnt6 K2.A 2), .int .i64 (cnt6 K2.A 3), .int .i64 (cnt6 K2.A 4), .int .i64 (cnt6 K2.A 5)]) ∧ Below W.heap.size W w') := fun W hW => bcounts_any Ob K2.A q2 W (hBi.next hW) HG2.out.good (by have := HLen2.out; omega)
                have HC3 : Hid (∀ W : World, Below wz.heap.size wz W → Calls Try.prog 21 #[.pointer (some ⟨p, 0, none⟩)] W fun e w' => (∃ gh cap, e = .returned (.slice gh K2.A.hs.length cap) ∧ HoldsAt w' gh K2.A.hs) ∧ Below W.heap.size W w') := fun W hW => (holds_live (hLs.next hW) (by have := HLen2.out; omega)).mono (fun e w' h => by
                  obtain ⟨⟨gh, capb, e1, e2, _⟩, _, e3⟩ := h
                  exact ⟨⟨gh, capb, e1, e2⟩, e3⟩)
                have HC4 : Hid (∀ (W W' : World) (gh : Option Addr) (capb : Nat), Below wz.heap.size wz W → HoldsAt W gh K2.A.hs → Below W.heap.size W W' → Calls Try.prog 20 #[.slice gh K2.A.hs.length capb, .slice ga K2.A.hs.length cap] W' fun e w' => e = .returned (.bool true) ∧ Below W'.heap.size W' w') := fun W W' gh capb hW hB hW' => (sameHolds_any gh ga _ _ capb cap K2.A.hs K2.A.hs W' (hB.below hW' (Nat.le_refl _)) ((hH.below hW (Nat.le_refl _)).below hW' (Nat.le_refl _)) rfl rfl (by have := HLen2.out; omega)).mono (fun e w' h => ⟨by rw [h.1]; exact ret_bool (decide_eq_true rfl), h.2⟩)
                have HC5 : Hid (∀ W : World, Below wz.heap.size wz W → Calls Try.prog 28 #[.pointer (some ⟨q, 0, none⟩)] W fun e w' => (∃ gc cap, e = .returned (.slice gc K2.rs.length cap) ∧ StepsAt w' gc K2.rs) ∧ Below W.heap.size W w') := fun W hW => (recs_live (hKL.next hW) (by have := HLen2.out; omega)).mono (fun e w' h => by
                  obtain ⟨⟨gc, capc, e1, e2, _⟩, _, e3⟩ := h
                  exact ⟨⟨gc, capc, e1, e2⟩, e3⟩)
                have HC6 : Hid (∀ (W W' : World) (gc : Option Addr) (capc : Nat), Below wz.heap.size wz W → StepsAt W gc K2.rs → Below W.heap.size W W' → Calls Try.prog 27 #[.slice gc K2.rs.length capc, .slice gl K2.rs.length capl] W' fun e w' => e = .returned (.bool true) ∧ Below W'.heap.size W' w') := fun W W' gc capc hW hB hW' => (sameRecs_any gc gl _ _ capc capl K2.rs K2.rs W' (hB.below hW' (Nat.le_refl _)) ((hSl.below hW (Nat.le_refl _)).below hW' (Nat.le_refl _)) rfl rfl (by have := HLen2.out; omega)).mono (fun e w' h => by
                  obtain ⟨⟨b, e1, e2⟩, e3⟩ := h
                  exact ⟨by rw [e1, e2.2 rfl], e3⟩)
                have hq1 : ∀ W : World, (Op.equalIn 10000 36 (.agg #[.int .i64 (cnt6 K2.A 0), .int .i64 (cnt6 K2.A 1), .int .i64 (cnt6 K2.A 2), .int .i64 (cnt6 K2.A 3), .int .i64 (cnt6 K2.A 4), .int .i64 (cnt6 K2.A 5)]) (.agg #[.int .i64 (cnt6 K2.A 0), .int .i64 (cnt6 K2.A 1), .int .i64 (cnt6 K2.A 2), .int .i64 (cnt6 K2.A 3), .int .i64 (cnt6 K2.A 4), .int .i64 (cnt6 K2.A 5)])).run Try.prog W = .ok true W := fun W => by rw [eqC]; simp
                clear hLs hKL hPn hRp hBi hrl hSl hRw hrow hH c0 cc0 hPz
                go_region_held3 (fun w' => w'.cell? ⟨c, 0, none⟩ = some (.pointer (some ⟨q, 0, none⟩)) ∧ w'.cell? ⟨q, 0, none⟩ = some (.pointer (some ⟨p, 0, none⟩)) ∧ w'.cell? ⟨s, 0, none⟩ = some (.pointer (some ⟨q2, 0, none⟩)) ∧ w'.cell? ⟨s, 1, none⟩ = some (.slice gl K2.rs.length capl) ∧ w'.cell? ⟨q2, 3, none⟩ = some (.slice ga K2.A.hs.length cap) ∧ Below wz.heap.size wz w')
                  (first | exact HK.out _ (by go_grown))
                  (first | (go_at_call 18; refine Calls.mono (HC1.out _ (by go_grown)) ?_; rintro e w9 ⟨rfl, hb9⟩; have hw9 : Below wz.heap.size wz w9 := after (by go_grown) hb9 (by simp); have hz9 : wz.heap.size ≤ w9.heap.size := hw9.size) | (go_at_call 19; refine Calls.mono (HC2.out _ (by go_grown)) ?_; rintro e w10 ⟨rfl, hb10⟩; have hw10 : Below wz.heap.size wz w10 := after hw9 hb10 hz9; have hz10 : wz.heap.size ≤ w10.heap.size := hw10.size) | (go_at_call 21; refine Calls.mono (HC3.out _ (by go_grown)) ?_; rintro e w11 ⟨⟨gh, capb, rfl, hAB⟩, hb11⟩; have HAB : Hid (HoldsAt w11 gh K2.A.hs) := hAB; clear hAB; have hw11 : Below wz.heap.size wz w11 := after hw10 hb11 hz10; have hz11 : wz.heap.size ≤ w11.heap.size := hw11.size) | (go_at_call 20; refine Calls.mono (HC4.out w11 _ gh capb hw11 HAB.out (by go_grown)) ?_; rintro e w12 ⟨rfl, hb12⟩; have hw12 : Below wz.heap.size wz w12 := after hw11 hb12 hz11; have hz12 : wz.heap.size ≤ w12.heap.size := hw12.size) | (go_at_call 28; refine Calls.mono (HC5.out _ (by go_grown)) ?_; rintro e w13 ⟨⟨gc, capc, rfl, hAC⟩, hb13⟩; have HAC : Hid (StepsAt w13 gc K2.rs) := hAC; clear hAC; have hw13 : Below wz.heap.size wz w13 := after hw12 hb13 hz12; have hz13 : wz.heap.size ≤ w13.heap.size := hw13.size) | (go_at_call 27; refine Calls.mono (HC6.out w13 _ gc capc hw13 HAC.out (by go_grown)) ?_; rintro e w14 ⟨rfl, hb14⟩; have hw14 : Below wz.heap.size wz w14 := after hw13 hb14 hz13; have hz14 : wz.heap.size ≤ w14.heap.size := hw14.size))
                all_goals
                  go_wp2_with fail
                  go_meet
                  case rel => exact ⟨rfl, by go_grown⟩
              case rest =>
                obtain ⟨rfl, hbz⟩ := hcut
                have hP9 := hPz.next hbz
                clear hPz hbz
                go_wp2_with fail
                go_roundg (ll - (k + 1))
                case measure => have := HKN.out; omega
                case rel => exact ⟨k + 1, K2, HKN.out, rfl, by simp, hP9, HG2, HL2⟩
          · go_wp2_with fail
            go_ret
            exact ⟨rfl, hP1.below⟩
    · have HOk : Hid (newOk no ws = false) := by show _ = _; simpa using hok
      have HN1 : Hid (∀ W' : World, Calls Try.prog 42 #[.int .i64 no, .agg #[.int .i64 (ws 0), .int .i64 (ws 1), .int .i64 (ws 2), .int .i64 (ws 3), .int .i64 (ws 4), .int .i64 (ws 5)]] W' fun e w' => e = .returned (.pointer none) ∧ Below W'.heap.size W' w') := fun W' => (cnew_any no ws W').mono (fun e w' h => ⟨by have := h.1; unfold NewCIs at this; rwa [if_neg hok] at this, h.2⟩)
      have HN2 : Hid (∀ W' : World, Calls Try.prog 23 #[.int .i64 no, .agg #[.int .i64 (ws 0), .int .i64 (ws 1), .int .i64 (ws 2), .int .i64 (ws 3), .int .i64 (ws 4), .int .i64 (ws 5)]] W' fun e w' => e = .returned (.pointer none) ∧ Below W'.heap.size W' w') := fun W' => (npen_any no ws W').mono (fun e w' h => ⟨by have := h.1; unfold NewPIs at this; rwa [if_neg hok] at this, h.2⟩)
      clear hok
      go_cut [9, 10] (fun s6 s7 wx => s6 = .pointer none ∧ s7 = .pointer none ∧ Below w.heap.size w wx)
      case first =>
        go_region_held3 (fun w' => w'.cell? ⟨w.heap.size, 0, none⟩ = some (.int .i64 (ws 0)) ∧ w'.cell? ⟨w.heap.size, 1, none⟩ = some (.int .i64 (ws 1)) ∧ w'.cell? ⟨w.heap.size, 2, none⟩ = some (.int .i64 (ws 2)) ∧ w'.cell? ⟨w.heap.size, 3, none⟩ = some (.int .i64 (ws 3)) ∧ w'.cell? ⟨w.heap.size, 4, none⟩ = some (.int .i64 (ws 4)) ∧ w'.cell? ⟨w.heap.size, 5, none⟩ = some (.int .i64 (ws 5)) ∧ Below W.heap.size W w')
          (first | exact HK.out _ (by go_grown))
          (first | (go_at_call 42; refine Calls.mono (HN1.out _) ?_; rintro e w9 ⟨rfl, hb9⟩; have hw9 : Below W.heap.size W w9 := after (by go_grown) hb9 (by simp); have hz9 : W.heap.size ≤ w9.heap.size := hw9.size) | (go_at_call 23; refine Calls.mono (HN2.out _) ?_; rintro e w10 ⟨rfl, hb10⟩; have hw10 : Below W.heap.size W w10 := after (by go_grown) hb10 (by first | assumption | simp); have hz10 : W.heap.size ≤ w10.heap.size := hw10.size))
        all_goals
          go_wp2_with fail
          go_meet
          case rel => exact ⟨rfl, rfl, after HBW.out (by go_grown) HBW.out.size⟩
      case rest =>
        obtain ⟨rfl, rfl, hb3⟩ := hcut
        go_wp2_with fail
        go_ret
        exact ⟨rfl, hb3⟩

end Go.Proofs.Ytbgnajcmhmpjlab

namespace Go.Proofs.Ytbgnajcmhmpjlab
open Go.ChangeShapes Go.WideShapes Go.ChangeAt Go.RowKit Go.Deep

theorem Try.ownClerkDoes : ownKnob Try.prog.godebug = none := by kernel_rfl
theorem Try.laidOutClerkDoes : laidOutB Try.prog = true := by kernel_rfl

set_option maxRecDepth 100000 in
theorem clerkDoes_lifted (os : Os) (started : os.Started) (H : Type) (enc : TypeId × Value → H) :
    ReturnsInHanded {} Try.checked os 9 .any (Rows.clerkDoesSpec.pre6 enc Try.prog Try.f9 Rows.clerkDoesRow.domain false) (Rows.clerkDoesSpec.post enc Try.prog Try.f9 false true false false) := by
  refine returnsInHanded_of_change (C := Try.checked) Try.ownClerkDoes started (by kernel_rfl) Try.func9
    (ChangeSpec.witness6 (enc := enc) (C := Try.checked) false ⟨#[], #[.int .i64 0, .agg #[.int .i64 0, .int .i64 0, .int .i64 0, .int .i64 0, .int .i64 0, .int .i64 0], .slice none 0 0, .int .i64 0], []⟩ 8 (by kernel_rfl) (by kernel_rfl) (by kernel_rfl) (by kernel_rfl)) ?_
  intro W base args ds gs before hval0 hW _ _
  have hval : ∀ (j : Nat) t v, Try.f9.params[j]? = some t → args[j]? = some v → Value.okWide Try.prog W .any base t v := hval0
  have hW' := hW
  obtain ⟨p, q, hA0, hV, rfl, hfz, hnd⟩ := hW
  have hA : DataW.TrodAll enc Try.prog W 0 (fun _ => true) true Try.f9.params.toList args.toList ds p := hA0
  rw [Try.params9] at hA hval
  obtain ⟨v0, v1, v2, v3, d0, d1, d2, d3, p0, p1, p2, p3, rfl, rfl, rfl, h0, h1, h2, h3⟩ := trodAll_four hA
  obtain ⟨rfl, rfl⟩ := trodVars_none hV
  have k0 := h0
  have lt0 : ∀ x ∈ p0, x.block < W.heap.size := by obtain ⟨m, hm⟩ := k0; exact DataW.trod_lt m _ _ _ hm
  have k1 := h1
  have lt1 : ∀ x ∈ p1, x.block < W.heap.size := by obtain ⟨m, hm⟩ := k1; exact DataW.trod_lt m _ _ _ hm
  have k2 := h2
  have lt2 : ∀ x ∈ p2, x.block < W.heap.size := by obtain ⟨m, hm⟩ := k2; exact DataW.trod_lt m _ _ _ hm
  have k3 := h3
  have lt3 : ∀ x ∈ p3, x.block < W.heap.size := by obtain ⟨m, hm⟩ := k3; exact DataW.trod_lt m _ _ _ hm
  obtain ⟨n, rfl, _, _, wn⟩ := open_int Try.underlying3 (hval 0 3 v0 rfl rfl) h0
  obtain ⟨ws, rfl⟩ := open_world (hval 1 23 v1 rfl rfl) h1
  obtain ⟨a0, l0, c0, rfl⟩ := okWide_slice Try.underlying66 (hval 2 66 v2 rfl rfl)
  obtain ⟨l, hl, hll⟩ := open_mails h2
  obtain ⟨n3, rfl, _, _, wn3⟩ := open_int Try.underlying3 (hval 3 3 v3 rfl rfl) h3
  clear hA0 hval0
  refine (cdoes_walk n ws a0 l0 c0 l n3 W hl hll).mono fun e W' ⟨hret, hb⟩ => ?_
  subst hret
  exact ⟨_, rfl, _, _, _, [], _, [], hW', trodAll_mk1 (shut_bool Try.underlying4 true), trodAll_mk4 (Below.trod Try.laidOutClerkDoes (by kernel_rfl) (of_decide_eq_true (by kernel_rfl)) k0 hb lt0) (Below.trod Try.laidOutClerkDoes (by kernel_rfl) (of_decide_eq_true (by kernel_rfl)) k1 hb lt1) (Below.trod Try.laidOutClerkDoes (by kernel_rfl) (of_decide_eq_true (by kernel_rfl)) k2 hb lt2) (Below.trod Try.laidOutClerkDoes (by kernel_rfl) (of_decide_eq_true (by kernel_rfl)) k3 hb lt3), rfl, hb.frame _, fun h => by cases h⟩

theorem clerkDoes_holds : Rows.ClerkDoesSaid :=
  OpenClaim.holds_of_wide 9 Try.f9 rfl rfl rfl rfl rfl rfl rfl ⟨rfl, rfl, rfl, rfl, rfl⟩ rfl rfl rfl rfl rfl (by kernel_rfl) Try.func9 (by kernel_rfl)
    (of_decide_eq_true (by kernel_rfl)) (by unfold Func.isWrapper; first | (rw [if_pos (by decide +kernel)]; kernel_rfl) | (rw [if_neg (by decide +kernel)]; exact ⟨rfl, rfl⟩))
    (fun os started H enc _ => clerkDoes_lifted os started H enc)

#print axioms clerkDoes_holds

end Go.Proofs.Ytbgnajcmhmpjlab
