/- The contract of slices.Delete of one mail from a row of one's own. -/
import Derived.Test.YtbgnajcmhmpjlabMSend
import Derived.Laws.OwnMore
namespace Go.Proofs.Ytbgnajcmhmpjlab
open Go.RowKit

def zeros6 (n : Nat) : List Value := (Builtin.zeroCells (Value.agg #[.int .i64 0, .int .i64 0, .int .i64 0, .int .i64 0, .int .i64 0, .bool false]).cells n).toList
theorem zeros6_length (n : Nat) : (zeros6 n).length = n * 6 := by
  unfold zeros6
  rw [Array.length_toList, size_zeroCells]
  rfl
theorem zeros6_one (n : Nat) : ∀ v ∈ zeros6 n, v.oneCell' = true := by
  intro v hv
  unfold zeros6 at hv
  simp only [Builtin.zeroCells, Array.toList_map, List.mem_map] at hv
  obtain ⟨i, _, rfl⟩ := hv
  have h : i % 6 = 0 ∨ i % 6 = 1 ∨ i % 6 = 2 ∨ i % 6 = 3 ∨ i % 6 = 4 ∨ i % 6 = 5 := by omega
  show Value.oneCell' (#[Value.int .i64 0, .int .i64 0, .int .i64 0, .int .i64 0, .int .i64 0, .bool false][i % 6]!) = true
  rcases h with h | h | h | h | h | h <;> rw [h] <;> rfl
/-- 'clear' of a part of a row of mails. -/
theorem run_clear6 (w : World) (ty : TypeId) (b o n c : Nat) (hc : ∀ j, j < n * 6 → (w.cell? ⟨b, o + j, none⟩).isSome = true) (hf : ∀ j, j < n * 6 → w.frozen? ⟨b, o + j, none⟩ = false) :
    (Builtin.clear_ #[66] ty #[.slice (some ⟨b, o, none⟩) n c]).run Try.prog w = .ok (.tuple #[]) (w.setCells b o (zeros6 n)) := by
  have hst := run_storeCells_cells (P := Try.prog) b o (zeros6 n) 0 w (by rw [zeros6_length]; simpa using hc) (by rw [zeros6_length]; simpa using hf) (zeros6_one n)
  simp only [Nat.add_zero] at hst
  unfold zeros6 at hst ⊢
  cases n with
  | zero => simp [Builtin.clear_, run_underlying Try.underlying66, Builtin.zeroCells, World.setCells]
  | succ m => simp [Builtin.clear_, run_underlying Try.underlying66, hst]

theorem step_append_fits {P : Program} {w : World} {ops : Array Oper} {o : Oper} {a : Act} {K : Act → World → Prop} {Q : Exit → Act → World → Prop} {E : Prop} (hgd : o.guard = none) (s x : Operand) (t : TypeId)
    (ho : o.op = .call { callee := .builtin .append, args := #[s, x], argTypes := #[t, t] })
    (base : Nat) (e : TypeId) (i : TypeInfo) (size : Nat) (ht : P.underlying t = some (.slice e)) (hi : P.info? e = some i) (hsize : i.size = size)
    (g n cap : Nat) (xs : List Value) (hs : a.eval s = .slice (some ⟨g, 0, none⟩) n cap) (hown : w.ownsRow base e size (.slice (some ⟨g, 0, none⟩) n cap) n xs)
    (ad : Addr) (m c : Nat) (news : List Value) (hx : a.eval x = .slice (some ad) m c) (hl : news.length = m * size) (hnews : ∀ j u, news[j]? = some u → w.cell? (ad.add j) = some u) (h1 : ∀ u ∈ news, u.oneCell' = true)
    (hroom : n + m ≤ cap) (q : Nat) (hq : n + m = q)
    (h : ∀ w', w'.ownsRow base e size (.slice (some ⟨g, 0, none⟩) q cap) q (xs ++ news) → w.grownBy w' (some g) → K (a.put o.dst (.slice (some ⟨g, 0, none⟩) q cap)) w') : if Region.wanted o (yielded ops a.tmps) = true then Oper.wp P o a w K Q else E := by
  subst hq
  have hw : Region.wanted o (yielded ops a.tmps) = true := by simp [Region.wanted, hgd]
  rw [if_pos hw]
  obtain ⟨w', hr, h2, h3⟩ := run_append_fits (P := P) w base t o.type e i size ht hi hsize g n cap xs hown ad m c news hl hnews h1 hroom
  unfold Oper.wp execOp
  simp only [ho, resolve, invoke, builtin, Sem.run_bind, Sem.run_pure, Result.andThen_ok, List.map_toArray, List.map_cons, List.map_nil, hs, hx, hr]
  exact h w' h2 h3

/-- The first k elements of a row of one's own. -/
theorem own_take {w : World} {B e g n cap k : Nat} {l : List Ml} (h : w.ownsRow B e 6 (.slice (some ⟨g, 0, none⟩) n cap) n (flat6 l)) (hn : l.length = n) (hk : k ≤ n) : w.ownsRow B e 6 (.slice (some ⟨g, 0, none⟩) k cap) k (flat6 (l.take k)) := by
  obtain ⟨h1, h2, h3, h4, h5⟩ := own_row h
  refine row_own h2 h1 (by omega) h4 (by rw [flat6_length, List.length_take]; congr 1; omega) (fun j u hj => h5 j u ?_)
  have e : flat6 l = flat6 (l.take k) ++ flat6 (l.drop k) := by rw [← flat6_append, List.take_append_drop]
  rw [e, List.getElem?_append_left (List.getElem?_eq_some_iff.1 hj).1]
  exact hj
/-- The cells of what stands behind the first k. -/
theorem cells_drop {w : World} {g k : Nat} {l : List Ml} (h : ∀ j u, (flat6 l)[j]? = some u → w.cell? ⟨g, j, none⟩ = some u) (hk : k ≤ l.length) : ∀ j u, (flat6 (l.drop k))[j]? = some u → w.cell? ((⟨g, k * 6, none⟩ : Addr).add j) = some u := by
  intro j u hj
  have ha : (⟨g, k * 6, none⟩ : Addr).add j = ⟨g, k * 6 + j, none⟩ := by unfold Addr.add; split <;> simp_all
  rw [ha]
  refine h _ _ ?_
  have e : flat6 l = flat6 (l.take k) ++ flat6 (l.drop k) := by rw [← flat6_append, List.take_append_drop]
  have hl : (flat6 (l.take k)).length = k * 6 := by rw [flat6_length, List.length_take, Nat.min_eq_left hk]
  rw [e, List.getElem?_append_right (by omega), hl, show k * 6 + j - k * 6 = j by omega]
  exact hj

/-- What stands behind the row's length is cleared. -/
theorem own_clear {w : World} {B e g n cap : Nat} {l : List Ml} (zs : List Value) (h : w.ownsRow B e 6 (.slice (some ⟨g, 0, none⟩) n cap) n (flat6 l)) : (w.setCells g (n * 6) zs).ownsRow B e 6 (.slice (some ⟨g, 0, none⟩) n cap) n (flat6 l) := by
  obtain ⟨h1, h2, h3, h4, h5⟩ := own_row h
  refine row_own (Row.setCells g _ _ _ h2) h1 h3 h4 h.1 (fun t u hu => ?_)
  have ht : t < n * 6 := by rw [← h.1]; exact (List.getElem?_eq_some_iff.1 hu).1
  rw [World.cell?_setCells_out g _ _ _ _ (fun _ _ => .inl ht)]
  exact h5 t u hu
set_option maxHeartbeats 4000000 in
theorem pdel_any (B : Nat) (l : List Ml) (k g cap n : Nat) (hn : l.length = n) (hk : k < n) (w : World) (hown : w.ownsRow B 71 6 (.slice (some ⟨g, 0, none⟩) n cap) n (flat6 l)) (hl : n < 1000) :
    Calls Try.prog 70 #[.slice (some ⟨g, 0, none⟩) n cap, .int .i64 (k : Int), .int .i64 ((k : Int) + 1)] w fun e w' => e = .returned (.slice (some ⟨g, 0, none⟩) (n - 1) cap) ∧ w'.ownsRow B 71 6 (.slice (some ⟨g, 0, none⟩) (n - 1) cap) (n - 1) (flat6 (l.eraseIdx k)) ∧ Save (fun b => b = g) w w' := by
  obtain ⟨i0, hi, hz0, hz1, hz2⟩ := info_parts infoMail
  obtain ⟨hB, hrow, hnc, hcm, hcell⟩ := own_row hown
  have HO : Hid (w.ownsRow B 71 6 (.slice (some ⟨g, 0, none⟩) n cap) n (flat6 l)) := hown
  have HC : Hid _ := hcell
  have HCm : Hid _ := hcm
  have k0 : (0 : Int) ≤ (k : Int) := by omega
  have k1 : (k : Int) < (n : Int) := by omega
  have k2 : (k : Int) + 1 ≤ (n : Int) := by omega
  have k3 : (n : Int) ≤ (cap : Int) := by omega
  have k4 : (n : Int) < 1000 := by omega
  have k5 : k + 1 ≤ n := hk
  have k9 : (0 : Int) ≤ (k : Int) + 1 := by omega
  have k6 : k ≤ n := by omega
  have k7 : k + 1 ≤ cap := by omega
  have k8 : k ≤ cap := by omega
  have hne : ((k : Int) == (k : Int) + 1) = false := by rw [beq_eq_false_iff_ne]; omega
  have hgl := hrow.lt
  clear hown hcell hcm
  go_enter Try.func70, Try.ntmps70
  go_upto_region 5 with fail
  have HT : Hid (w.ownsRow B 71 6 (.slice (some ⟨g, 0, none⟩) k cap) k (flat6 (l.take k))) := own_take HO.out hn k6
  have HD : Hid _ := cells_drop HC.out (show k + 1 ≤ l.length by omega)
  have HDl : Hid ((flat6 (l.drop (k + 1))).length = (n - (k + 1)) * 6) := by show _ = _; rw [flat6_length, List.length_drop, hn]
  by_cases hcap : cap = k + 1
  · obtain rfl : n = k + 1 := by omega
    subst hcap
    have kk : (k : Int) ≤ (k : Int) + 1 := by omega
    go_region_law
      (first | (refine step_append_fits (by rfl) (.tmp 22) (.tmp 25) 66 (by rfl) B 71 i0 6 Try.underlying66 hi hz1 g k (k + 1) (flat6 (l.take k)) (by rfl) (own_next HT.out (by go_grown)) ⟨g, 0, none⟩ 0 0 [] (by rfl) rfl (fun j u hj => by simp at hj) (fun u hu => by simp at hu) (by omega) k (by omega) ?_; intro w8 hown8 hgrow8))
    all_goals
      have hd0 : l.drop (k + 1) = [] := List.drop_of_length_le (by omega)
      have hown9 : w8.ownsRow B 71 6 (.slice (some ⟨g, 0, none⟩) k (k + 1)) k (flat6 (l.eraseIdx k)) := by rw [erase_split, flat6_append, hd0]; exact hown8
      have hS8 : Save (fun b => b = g) w w8 := (Save.of_below (by go_grown)).grown hgrow8 (fun k e _ => (Option.some.inj e).symm)
      obtain ⟨_, hrow8, _, _, _⟩ := own_row hown9
      have HO8 : Hid (w8.ownsRow B 71 6 (.slice (some ⟨g, 0, none⟩) k (k + 1)) k (flat6 (l.eraseIdx k))) := hown9
      clear hown8 hown9 hgrow8 HT HD HDl HO HC hd0
      have hx1 : ∀ ty, (Builtin.clear_ #[66] ty #[.slice (some ⟨g, k * 6, none⟩) 1 1]).run Try.prog w8 = .ok (.tuple #[]) (w8.setCells g (k * 6) (zeros6 1)) := fun ty => run_clear6 w8 ty g (k * 6) _ _ (fun t ht => hrow8.some (by omega)) (fun t ht => hrow8.loose _)
      go_wp2_with fail
      go_ret
      exact ⟨rfl, own_clear _ HO8.out, Save.setCells (O := fun b => b = g) g (fun _ => rfl) _ _ _ hS8⟩
  · go_region_law
      (first | (refine step_append_fits (by rfl) (.tmp 22) (.tmp 25) 66 (by rfl) B 71 i0 6 Try.underlying66 hi hz1 g k cap (flat6 (l.take k)) (by rfl) (own_next HT.out (by go_grown)) ⟨g, (k + 1) * 6, none⟩ (n - (k + 1)) (cap - (k + 1)) (flat6 (l.drop (k + 1))) (by rfl) HDl.out HD.out (flat6_one _) (by omega) (n - 1) (by omega) ?_; intro w8 hown8 hgrow8))
    all_goals
      have hown9 : w8.ownsRow B 71 6 (.slice (some ⟨g, 0, none⟩) (n - 1) cap) (n - 1) (flat6 (l.eraseIdx k)) := by rw [erase_split, flat6_append]; exact hown8
      have hS8 : Save (fun b => b = g) w w8 := (Save.of_below (by go_grown)).grown hgrow8 (fun k e _ => (Option.some.inj e).symm)
      obtain ⟨_, hrow8, _, _, _⟩ := own_row hown9
      have HO8 : Hid (w8.ownsRow B 71 6 (.slice (some ⟨g, 0, none⟩) (n - 1) cap) (n - 1) (flat6 (l.eraseIdx k))) := hown9
      clear hown8 hown9 hgrow8 HT HD HDl HO HC
      have hx1 : ∀ ty, (Builtin.clear_ #[66] ty #[.slice (some ⟨g, (n - 1) * 6, none⟩) (n - (n - 1)) (cap - (n - 1))]).run Try.prog w8 = .ok (.tuple #[]) (w8.setCells g ((n - 1) * 6) (zeros6 (n - (n - 1)))) := fun ty => run_clear6 w8 ty g ((n - 1) * 6) _ _ (fun t ht => hrow8.some (by omega)) (fun t ht => hrow8.loose _)
      have n1 : n - 1 ≤ n := by omega
      have n2 : n - 1 ≤ cap := by omega
      have n3 : ¬ cap = n - 1 := by omega
      have n4 : ((n - 1 : Nat) : Int) ≤ (n : Int) := by omega
      have n5 : (0 : Int) ≤ ((n - 1 : Nat) : Int) := by omega
      have n6 : ((n - 1 : Nat) : Int) ≤ (cap : Int) := by omega
      go_wp2_with fail
      go_ret
      exact ⟨rfl, own_clear _ HO8.out, Save.setCells (O := fun b => b = g) g (fun _ => rfl) _ _ _ hS8⟩

end Go.Proofs.Ytbgnajcmhmpjlab
