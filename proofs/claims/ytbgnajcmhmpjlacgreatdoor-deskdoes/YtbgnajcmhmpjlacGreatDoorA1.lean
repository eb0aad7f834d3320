/- What Hold and End answer, way by way, and the laws of it that the statements ask: plain arithmetic. -/
import Derived.Test.YtbgnajcmhmpjlacGreatDoorA0
set_option maxRecDepth 100000
set_option maxHeartbeats 100000000
namespace Go.Proofs.YtbgnajcmhmpjlacGreatDoor
open Go.RowKit
def hC (v o i n:Int):Int:=if both v o i n=0 then (if n<0 then (if v<o - n then 5 else 0) else (if 100<v+(i+n) then 6 else 0)) else both v o i n
def hV (v o i n:Int):Int:=if hC v o i n=0 then v else 0
def hO (v o i n:Int):Int:=if hC v o i n=0 then (if n<0 then o - n else o) else 0
def hI (v o i n:Int):Int:=if hC v o i n=0 then (if n<0 then i else i+n) else 0
def eC (v o i n:Int):Int:=if both v o i n=0 then (if n<0 then (if o+n<0 then 7 else 0) else (if i - n<0 then 7 else 0)) else both v o i n
def eV (v o i n:Int) (d:Bool):Int:=if eC v o i n=0 then (if d=true then v+n else v) else 0
def eO (v o i n:Int):Int:=if eC v o i n=0 then (if n<0 then o+n else o) else 0
def eI (v o i n:Int):Int:=if eC v o i n=0 then (if n<0 then i else i - n) else 0
theorem both_ok {v o i n:Int} (h:both v o i n=0):chk v o i=0∧dlt n=0:=by
 unfold both at h
 split at h
 ·exact ⟨‹_›,h⟩
 ·exact absurd h ‹_›
theorem hold_less (v o i n:Int) (w:World) (h1:0<=v) (h2:v<=100) (h3:0<=o) (h4:o<=v) (h5:0<=i) (h6:v+i<=100) (h7:n<0) (h8: -100<=n) (h9:o - n<=v):
 Calls Tryz.prog 195 #[.agg #[.int .i64 v,.int .i64 o,.int .i64 i],.int .i64 n] w fun e w'=>e=.returned (.tuple #[.agg #[.int .i64 v,.int .i64 (o - n),.int .i64 i],.int .i64 0])∧Below w.heap.size w w':=by
 go_enter Tryz.func195,Tryz.ntmps195
 go_wp2
 exact bodyPost_ret (v:=.tuple #[.agg #[.int .i64 v,.int .i64 (o - n),.int .i64 i],.int .i64 0]) (by simp [results,Tryz.results195,go_sem]) rfl ⟨rfl,by go_grown⟩
theorem hold_short (v o i n:Int) (w:World) (h1:0<=v) (h2:v<=100) (h3:0<=o) (h4:o<=v) (h5:0<=i) (h6:v+i<=100) (h7:n<0) (h8: -100<=n) (h9:v<o - n):
 Calls Tryz.prog 195 #[.agg #[.int .i64 v,.int .i64 o,.int .i64 i],.int .i64 n] w fun e w'=>e=.returned (.tuple #[.agg #[.int .i64 0,.int .i64 0,.int .i64 0],.int .i64 5])∧Below w.heap.size w w':=by
 go_enter Tryz.func195,Tryz.ntmps195
 go_wp2
 exact bodyPost_ret (v:=.tuple #[.agg #[.int .i64 0,.int .i64 0,.int .i64 0],.int .i64 5]) (by simp [results,Tryz.results195,go_sem]) rfl ⟨rfl,by go_grown⟩
theorem hold_more (v o i n:Int) (w:World) (h1:0<=v) (h2:v<=100) (h3:0<=o) (h4:o<=v) (h5:0<=i) (h6:v+i<=100) (h7:0<n) (h8:n<=100) (h9:v+(i+n)<=100):
 Calls Tryz.prog 195 #[.agg #[.int .i64 v,.int .i64 o,.int .i64 i],.int .i64 n] w fun e w'=>e=.returned (.tuple #[.agg #[.int .i64 v,.int .i64 o,.int .i64 (i+n)],.int .i64 0])∧Below w.heap.size w w':=by
 go_enter Tryz.func195,Tryz.ntmps195
 go_wp2
 exact bodyPost_ret (v:=.tuple #[.agg #[.int .i64 v,.int .i64 o,.int .i64 (i+n)],.int .i64 0]) (by simp [results,Tryz.results195,go_sem]) rfl ⟨rfl,by go_grown⟩
theorem hold_full (v o i n:Int) (w:World) (h1:0<=v) (h2:v<=100) (h3:0<=o) (h4:o<=v) (h5:0<=i) (h6:v+i<=100) (h7:0<n) (h8:n<=100) (h9:100<v+(i+n)):
 Calls Tryz.prog 195 #[.agg #[.int .i64 v,.int .i64 o,.int .i64 i],.int .i64 n] w fun e w'=>e=.returned (.tuple #[.agg #[.int .i64 0,.int .i64 0,.int .i64 0],.int .i64 6])∧Below w.heap.size w w':=by
 go_enter Tryz.func195,Tryz.ntmps195
 go_wp2
 exact bodyPost_ret (v:=.tuple #[.agg #[.int .i64 0,.int .i64 0,.int .i64 0],.int .i64 6]) (by simp [results,Tryz.results195,go_sem]) rfl ⟨rfl,by go_grown⟩
theorem held_less (v o i n:Int) (w:World) (h1:0<=v) (h2:v<=100) (h3:0<=o) (h4:o<=v) (h5:0<=i) (h6:v+i<=100) (h7:n<0) (h8: -100<=n) (h9:o - n<=v):
 Calls Tryz.prog 151 #[.agg #[.int .i64 v,.int .i64 o,.int .i64 i],.int .i64 n] w fun e w'=>e=.returned (.tuple #[.agg #[.int .i64 v,.int .i64 (o - n),.int .i64 i],.int .i64 0])∧Below w.heap.size w w':=by
 go_enter Tryz.func151,Tryz.ntmps151
 go_wp2
 exact bodyPost_ret (v:=.tuple #[.agg #[.int .i64 v,.int .i64 (o - n),.int .i64 i],.int .i64 0]) (by simp [results,Tryz.results151,go_sem]) rfl ⟨rfl,by go_grown⟩
theorem held_short (v o i n:Int) (w:World) (h1:0<=v) (h2:v<=100) (h3:0<=o) (h4:o<=v) (h5:0<=i) (h6:v+i<=100) (h7:n<0) (h8: -100<=n) (h9:v<o - n):
 Calls Tryz.prog 151 #[.agg #[.int .i64 v,.int .i64 o,.int .i64 i],.int .i64 n] w fun e w'=>e=.returned (.tuple #[.agg #[.int .i64 0,.int .i64 0,.int .i64 0],.int .i64 5])∧Below w.heap.size w w':=by
 go_enter Tryz.func151,Tryz.ntmps151
 go_wp2
 exact bodyPost_ret (v:=.tuple #[.agg #[.int .i64 0,.int .i64 0,.int .i64 0],.int .i64 5]) (by simp [results,Tryz.results151,go_sem]) rfl ⟨rfl,by go_grown⟩
theorem held_more (v o i n:Int) (w:World) (h1:0<=v) (h2:v<=100) (h3:0<=o) (h4:o<=v) (h5:0<=i) (h6:v+i<=100) (h7:0<n) (h8:n<=100) (h9:v+(i+n)<=100):
 Calls Tryz.prog 151 #[.agg #[.int .i64 v,.int .i64 o,.int .i64 i],.int .i64 n] w fun e w'=>e=.returned (.tuple #[.agg #[.int .i64 v,.int .i64 o,.int .i64 (i+n)],.int .i64 0])∧Below w.heap.size w w':=by
 go_enter Tryz.func151,Tryz.ntmps151
 go_wp2
 exact bodyPost_ret (v:=.tuple #[.agg #[.int .i64 v,.int .i64 o,.int .i64 (i+n)],.int .i64 0]) (by simp [results,Tryz.results151,go_sem]) rfl ⟨rfl,by go_grown⟩
theorem held_full (v o i n:Int) (w:World) (h1:0<=v) (h2:v<=100) (h3:0<=o) (h4:o<=v) (h5:0<=i) (h6:v+i<=100) (h7:0<n) (h8:n<=100) (h9:100<v+(i+n)):
 Calls Tryz.prog 151 #[.agg #[.int .i64 v,.int .i64 o,.int .i64 i],.int .i64 n] w fun e w'=>e=.returned (.tuple #[.agg #[.int .i64 0,.int .i64 0,.int .i64 0],.int .i64 6])∧Below w.heap.size w w':=by
 go_enter Tryz.func151,Tryz.ntmps151
 go_wp2
 exact bodyPost_ret (v:=.tuple #[.agg #[.int .i64 0,.int .i64 0,.int .i64 0],.int .i64 6]) (by simp [results,Tryz.results151,go_sem]) rfl ⟨rfl,by go_grown⟩
theorem end_less_true (v o i n:Int) (w:World) (h1:0<=v) (h2:v<=100) (h3:0<=o) (h4:o<=v) (h5:0<=i) (h6:v+i<=100) (h7:n<0) (h8: -100<=n) (h9:0<=o+n):
 Calls Tryz.prog 193 #[.agg #[.int .i64 v,.int .i64 o,.int .i64 i],.int .i64 n,.bool true] w fun e w'=>e=.returned (.tuple #[.agg #[.int .i64 (v+n),.int .i64 (o+n),.int .i64 i],.int .i64 0])∧Below w.heap.size w w':=by
 go_enter Tryz.func193,Tryz.ntmps193
 go_wp2
 exact bodyPost_ret (v:=.tuple #[.agg #[.int .i64 (v+n),.int .i64 (o+n),.int .i64 i],.int .i64 0]) (by simp [results,Tryz.results193,go_sem]) rfl ⟨rfl,by go_grown⟩
theorem end_more_true (v o i n:Int) (w:World) (h1:0<=v) (h2:v<=100) (h3:0<=o) (h4:o<=v) (h5:0<=i) (h6:v+i<=100) (h7:0<n) (h8:n<=100) (h9:0<=i - n):
 Calls Tryz.prog 193 #[.agg #[.int .i64 v,.int .i64 o,.int .i64 i],.int .i64 n,.bool true] w fun e w'=>e=.returned (.tuple #[.agg #[.int .i64 (v+n),.int .i64 o,.int .i64 (i - n)],.int .i64 0])∧Below w.heap.size w w':=by
 go_enter Tryz.func193,Tryz.ntmps193
 go_wp2
 exact bodyPost_ret (v:=.tuple #[.agg #[.int .i64 (v+n),.int .i64 o,.int .i64 (i - n)],.int .i64 0]) (by simp [results,Tryz.results193,go_sem]) rfl ⟨rfl,by go_grown⟩
theorem end_less_false (v o i n:Int) (w:World) (h1:0<=v) (h2:v<=100) (h3:0<=o) (h4:o<=v) (h5:0<=i) (h6:v+i<=100) (h7:n<0) (h8: -100<=n) (h9:0<=o+n):
 Calls Tryz.prog 193 #[.agg #[.int .i64 v,.int .i64 o,.int .i64 i],.int .i64 n,.bool false] w fun e w'=>e=.returned (.tuple #[.agg #[.int .i64 v,.int .i64 (o+n),.int .i64 i],.int .i64 0])∧Below w.heap.size w w':=by
 go_enter Tryz.func193,Tryz.ntmps193
 go_wp2
 exact bodyPost_ret (v:=.tuple #[.agg #[.int .i64 v,.int .i64 (o+n),.int .i64 i],.int .i64 0]) (by simp [results,Tryz.results193,go_sem]) rfl ⟨rfl,by go_grown⟩
theorem end_more_false (v o i n:Int) (w:World) (h1:0<=v) (h2:v<=100) (h3:0<=o) (h4:o<=v) (h5:0<=i) (h6:v+i<=100) (h7:0<n) (h8:n<=100) (h9:0<=i - n):
 Calls Tryz.prog 193 #[.agg #[.int .i64 v,.int .i64 o,.int .i64 i],.int .i64 n,.bool false] w fun e w'=>e=.returned (.tuple #[.agg #[.int .i64 v,.int .i64 o,.int .i64 (i - n)],.int .i64 0])∧Below w.heap.size w w':=by
 go_enter Tryz.func193,Tryz.ntmps193
 go_wp2
 exact bodyPost_ret (v:=.tuple #[.agg #[.int .i64 v,.int .i64 o,.int .i64 (i - n)],.int .i64 0]) (by simp [results,Tryz.results193,go_sem]) rfl ⟨rfl,by go_grown⟩
theorem end_noless (v o i n:Int) (d:Bool) (w:World) (h1:0<=v) (h2:v<=100) (h3:0<=o) (h4:o<=v) (h5:0<=i) (h6:v+i<=100) (h7:n<0) (h8: -100<=n) (h9:o+n<0):
 Calls Tryz.prog 193 #[.agg #[.int .i64 v,.int .i64 o,.int .i64 i],.int .i64 n,.bool d] w fun e w'=>e=.returned (.tuple #[.agg #[.int .i64 0,.int .i64 0,.int .i64 0],.int .i64 7])∧Below w.heap.size w w':=by
 go_enter Tryz.func193,Tryz.ntmps193
 go_wp2
 exact bodyPost_ret (v:=.tuple #[.agg #[.int .i64 0,.int .i64 0,.int .i64 0],.int .i64 7]) (by simp [results,Tryz.results193,go_sem]) rfl ⟨rfl,by go_grown⟩
theorem end_nomore (v o i n:Int) (d:Bool) (w:World) (h1:0<=v) (h2:v<=100) (h3:0<=o) (h4:o<=v) (h5:0<=i) (h6:v+i<=100) (h7:0<n) (h8:n<=100) (h9:i - n<0):
 Calls Tryz.prog 193 #[.agg #[.int .i64 v,.int .i64 o,.int .i64 i],.int .i64 n,.bool d] w fun e w'=>e=.returned (.tuple #[.agg #[.int .i64 0,.int .i64 0,.int .i64 0],.int .i64 7])∧Below w.heap.size w w':=by
 go_enter Tryz.func193,Tryz.ntmps193
 go_wp2
 exact bodyPost_ret (v:=.tuple #[.agg #[.int .i64 0,.int .i64 0,.int .i64 0],.int .i64 7]) (by simp [results,Tryz.results193,go_sem]) rfl ⟨rfl,by go_grown⟩
theorem hold_no (v o i n:Int) (w:World) (hx:(both v o i n != 0)=true):
 Calls Tryz.prog 195 #[.agg #[.int .i64 v,.int .i64 o,.int .i64 i],.int .i64 n] w fun e w'=>e=.returned (.tuple #[.agg #[.int .i64 0,.int .i64 0,.int .i64 0],.int .i64 (both v o i n)])∧Below w.heap.size w w':=by
 go_enter Tryz.func195,Tryz.ntmps195
 go_wp2_with (go_at_call 196;refine (both_any _ _ _ _ _).mono ?_;rintro e w1 ⟨rfl,hb1⟩;obtain ⟨hc1,hf1⟩:=bcell hb1)
 have hw1:Below w.heap.size w w1:=after (by go_grown) hb1 (by simp;omega)
 exact bodyPost_ret (v:=.tuple #[.agg #[.int .i64 0,.int .i64 0,.int .i64 0],.int .i64 (both v o i n)]) (by simp [results,Tryz.results195,go_sem,hc1]) rfl ⟨rfl,by go_grown⟩
theorem end_no (v o i n:Int) (d:Bool) (w:World) (hx:(both v o i n != 0)=true):
 Calls Tryz.prog 193 #[.agg #[.int .i64 v,.int .i64 o,.int .i64 i],.int .i64 n,.bool d] w fun e w'=>e=.returned (.tuple #[.agg #[.int .i64 0,.int .i64 0,.int .i64 0],.int .i64 (both v o i n)])∧Below w.heap.size w w':=by
 go_enter Tryz.func193,Tryz.ntmps193
 go_wp2_with (go_at_call 196;refine (both_any _ _ _ _ _).mono ?_;rintro e w1 ⟨rfl,hb1⟩;obtain ⟨hc1,hf1⟩:=bcell hb1)
 have hw1:Below w.heap.size w w1:=after (by go_grown) hb1 (by simp;omega)
 exact bodyPost_ret (v:=.tuple #[.agg #[.int .i64 0,.int .i64 0,.int .i64 0],.int .i64 (both v o i n)]) (by simp [results,Tryz.results193,go_sem,hc1]) rfl ⟨rfl,by go_grown⟩
theorem held_no1 (v o i n:Int) (w:World) (hx:(chk v o i != 0)=true):
 Calls Tryz.prog 151 #[.agg #[.int .i64 v,.int .i64 o,.int .i64 i],.int .i64 n] w fun e w'=>e=.returned (.tuple #[.agg #[.int .i64 0,.int .i64 0,.int .i64 0],.int .i64 (chk v o i)])∧Below w.heap.size w w':=by
 go_enter Tryz.func151,Tryz.ntmps151
 go_wp2_with (go_at_call 164;refine (countFault_any _ _ _ _).mono ?_;rintro e w1 ⟨rfl,hb1⟩;obtain ⟨hc1,hf1⟩:=bcell hb1)
 have hw1:Below w.heap.size w w1:=after (by go_grown) hb1 (by simp;omega)
 exact bodyPost_ret (v:=.tuple #[.agg #[.int .i64 0,.int .i64 0,.int .i64 0],.int .i64 (chk v o i)]) (by simp [results,Tryz.results151,go_sem,hc1]) rfl ⟨rfl,by go_grown⟩
theorem held_no2 (v o i n:Int) (w:World) (hx:(chk v o i != 0)=false) (hy:(dlt n != 0)=true):
 Calls Tryz.prog 151 #[.agg #[.int .i64 v,.int .i64 o,.int .i64 i],.int .i64 n] w fun e w'=>e=.returned (.tuple #[.agg #[.int .i64 0,.int .i64 0,.int .i64 0],.int .i64 (dlt n)])∧Below w.heap.size w w':=by
 go_enter Tryz.func151,Tryz.ntmps151
 go_wp2_with (first | (go_at_call 164;refine (countFault_any _ _ _ _).mono ?_;rintro e w1 ⟨rfl,hb1⟩;obtain ⟨hc1,hf1⟩:=bcell hb1) | (go_at_call 149;refine (deltaFault_any _ _).mono ?_;rintro e w2 ⟨rfl,hw2⟩;subst w2))
 have hw1:Below w.heap.size w w1:=after (by go_grown) hb1 (by simp;omega)
 exact bodyPost_ret (v:=.tuple #[.agg #[.int .i64 0,.int .i64 0,.int .i64 0],.int .i64 (dlt n)]) (by simp [results,Tryz.results151,go_sem,hc1]) rfl ⟨rfl,by go_grown⟩
theorem both_cases (v o i n:Int):(chk v o i ≠ 0∧both v o i n=chk v o i)∨(chk v o i=0∧dlt n ≠ 0∧both v o i n=dlt n)∨(both v o i n=0∧(0<=v∧v<=100∧0<=o∧o<=v∧0<=i∧v+i<=100)∧n ≠ 0∧-100<=n∧n<=100):=by
 by_cases h:chk v o i=0
 ·by_cases h':dlt n=0
  ·exact Or.inr (Or.inr ⟨by unfold both;rw [if_pos h,h'],chk_ok h,dlt_ok h'⟩)
  ·exact Or.inr (Or.inl ⟨h,h',by unfold both;rw [if_pos h]⟩)
 ·exact Or.inl ⟨h,by unfold both;rw [if_neg h]⟩
theorem bne_of {a b:Int} (h:a ≠ b):(a != b)=true:=by simpa using h
theorem bne_self (a b:Int) (h:a=b):(a != b)=false:=by simp [h]
theorem hold_vals (v o i n:Int):
 (both v o i n ≠ 0∧hC v o i n=both v o i n∧hV v o i n=0∧hO v o i n=0∧hI v o i n=0)
 ∨(both v o i n=0∧n<0∧v<o - n∧hC v o i n=5∧hV v o i n=0∧hO v o i n=0∧hI v o i n=0)
 ∨(both v o i n=0∧n<0∧o - n<=v∧hC v o i n=0∧hV v o i n=v∧hO v o i n=o - n∧hI v o i n=i)
 ∨(both v o i n=0∧0<=n∧100<v+(i+n)∧hC v o i n=6∧hV v o i n=0∧hO v o i n=0∧hI v o i n=0)
 ∨(both v o i n=0∧0<=n∧v+(i+n)<=100∧hC v o i n=0∧hV v o i n=v∧hO v o i n=o∧hI v o i n=i+n):=by
 by_cases hb:both v o i n=0
 ·by_cases hn:n<0
  ·by_cases hs:v<o - n
   ·exact Or.inr (Or.inl ⟨hb,hn,hs,by simp [hC,hb,hn,hs],by simp [hV,hC,hb,hn,hs],by simp [hO,hC,hb,hn,hs],by simp [hI,hC,hb,hn,hs]⟩)
   ·exact Or.inr (Or.inr (Or.inl ⟨hb,hn,by omega,by simp [hC,hb,hn,hs],by simp [hV,hC,hb,hn,hs],by simp [hO,hC,hb,hn,hs],by simp [hI,hC,hb,hn,hs]⟩))
  ·by_cases hs:100<v+(i+n)
   ·exact Or.inr (Or.inr (Or.inr (Or.inl ⟨hb,by omega,hs,by simp [hC,hb,hn,hs],by simp [hV,hC,hb,hn,hs],by simp [hO,hC,hb,hn,hs],by simp [hI,hC,hb,hn,hs]⟩)))
   ·exact Or.inr (Or.inr (Or.inr (Or.inr ⟨hb,by omega,by omega,by simp [hC,hb,hn,hs],by simp [hV,hC,hb,hn,hs],by simp [hO,hC,hb,hn,hs],by simp [hI,hC,hb,hn,hs]⟩)))
 ·exact Or.inl ⟨hb,by simp [hC,hb],by simp [hV,hC,hb],by simp [hO,hC,hb],by simp [hI,hC,hb]⟩
theorem end_vals (v o i n:Int) (d:Bool):
 (both v o i n ≠ 0∧eC v o i n=both v o i n∧eV v o i n d=0∧eO v o i n=0∧eI v o i n=0)
 ∨(both v o i n=0∧n<0∧o+n<0∧eC v o i n=7∧eV v o i n d=0∧eO v o i n=0∧eI v o i n=0)
 ∨(both v o i n=0∧n<0∧0<=o+n∧eC v o i n=0∧eV v o i n d=(if d=true then v+n else v)∧eO v o i n=o+n∧eI v o i n=i)
 ∨(both v o i n=0∧0<=n∧i - n<0∧eC v o i n=7∧eV v o i n d=0∧eO v o i n=0∧eI v o i n=0)
 ∨(both v o i n=0∧0<=n∧0<=i - n∧eC v o i n=0∧eV v o i n d=(if d=true then v+n else v)∧eO v o i n=o∧eI v o i n=i - n):=by
 by_cases hb:both v o i n=0
 ·by_cases hn:n<0
  ·by_cases hs:o+n<0
   ·exact Or.inr (Or.inl ⟨hb,hn,hs,by simp [eC,hb,hn,hs],by simp [eV,eC,hb,hn,hs],by simp [eO,eC,hb,hn,hs],by simp [eI,eC,hb,hn,hs]⟩)
   ·exact Or.inr (Or.inr (Or.inl ⟨hb,hn,by omega,by simp [eC,hb,hn,hs],by simp [eV,eC,hb,hn,hs],by simp [eO,eC,hb,hn,hs],by simp [eI,eC,hb,hn,hs]⟩))
  ·by_cases hs:i - n<0
   ·exact Or.inr (Or.inr (Or.inr (Or.inl ⟨hb,by omega,hs,by simp [eC,hb,hn,hs],by simp [eV,eC,hb,hn,hs],by simp [eO,eC,hb,hn,hs],by simp [eI,eC,hb,hn,hs]⟩)))
   ·exact Or.inr (Or.inr (Or.inr (Or.inr ⟨hb,by omega,by omega,by simp [eC,hb,hn,hs],by simp [eV,eC,hb,hn,hs],by simp [eO,eC,hb,hn,hs],by simp [eI,eC,hb,hn,hs]⟩)))
 ·exact Or.inl ⟨hb,by simp [eC,hb],by simp [eV,eC,hb],by simp [eO,eC,hb],by simp [eI,eC,hb]⟩
theorem hold_any (v o i n:Int) (w:World):
 Calls Tryz.prog 195 #[.agg #[.int .i64 v,.int .i64 o,.int .i64 i],.int .i64 n] w fun e w'=>e=.returned (.tuple #[.agg #[.int .i64 (hV v o i n),.int .i64 (hO v o i n),.int .i64 (hI v o i n)],.int .i64 (hC v o i n)])∧Below w.heap.size w w':=by
 rcases hold_vals v o i n with ⟨hb,e1,e2,e3,e4⟩ | ⟨hb,hn,hs,e1,e2,e3,e4⟩ | ⟨hb,hn,hs,e1,e2,e3,e4⟩ | ⟨hb,hn,hs,e1,e2,e3,e4⟩ | ⟨hb,hn,hs,e1,e2,e3,e4⟩
 ·rw [e1,e2,e3,e4];exact hold_no v o i n w (bne_of hb)
 all_goals
  obtain ⟨k1,k2⟩:=both_ok hb
  obtain ⟨a1,a2,a3,a4,a5,a6⟩:=chk_ok k1
  obtain ⟨b1,b2,b3⟩:=dlt_ok k2
  rw [e1,e2,e3,e4]
 ·exact hold_short v o i n w a1 a2 a3 a4 a5 a6 hn b2 hs
 ·exact hold_less v o i n w a1 a2 a3 a4 a5 a6 hn b2 hs
 ·exact hold_full v o i n w a1 a2 a3 a4 a5 a6 (by omega) b3 hs
 ·exact hold_more v o i n w a1 a2 a3 a4 a5 a6 (by omega) b3 hs
theorem held_any (v o i n:Int) (w:World):
 Calls Tryz.prog 151 #[.agg #[.int .i64 v,.int .i64 o,.int .i64 i],.int .i64 n] w fun e w'=>e=.returned (.tuple #[.agg #[.int .i64 (hV v o i n),.int .i64 (hO v o i n),.int .i64 (hI v o i n)],.int .i64 (hC v o i n)])∧Below w.heap.size w w':=by
 rcases hold_vals v o i n with ⟨hb,e1,e2,e3,e4⟩ | ⟨hb,hn,hs,e1,e2,e3,e4⟩ | ⟨hb,hn,hs,e1,e2,e3,e4⟩ | ⟨hb,hn,hs,e1,e2,e3,e4⟩ | ⟨hb,hn,hs,e1,e2,e3,e4⟩
 ·rw [e1,e2,e3,e4]
  rcases both_cases v o i n with ⟨k1,k2⟩ | ⟨k1,k2,k3⟩ | ⟨k1,_⟩
  ·rw [k2];exact held_no1 v o i n w (bne_of k1)
  ·rw [k3];exact held_no2 v o i n w (bne_self _ _ k1) (bne_of k2)
  ·exact absurd k1 hb
 all_goals
  obtain ⟨k1,k2⟩:=both_ok hb
  obtain ⟨a1,a2,a3,a4,a5,a6⟩:=chk_ok k1
  obtain ⟨b1,b2,b3⟩:=dlt_ok k2
  rw [e1,e2,e3,e4]
 ·exact held_short v o i n w a1 a2 a3 a4 a5 a6 hn b2 hs
 ·exact held_less v o i n w a1 a2 a3 a4 a5 a6 hn b2 hs
 ·exact held_full v o i n w a1 a2 a3 a4 a5 a6 (by omega) b3 hs
 ·exact held_more v o i n w a1 a2 a3 a4 a5 a6 (by omega) b3 hs
theorem end_any (v o i n:Int) (d:Bool) (w:World):
 Calls Tryz.prog 193 #[.agg #[.int .i64 v,.int .i64 o,.int .i64 i],.int .i64 n,.bool d] w fun e w'=>e=.returned (.tuple #[.agg #[.int .i64 (eV v o i n d),.int .i64 (eO v o i n),.int .i64 (eI v o i n)],.int .i64 (eC v o i n)])∧Below w.heap.size w w':=by
 rcases end_vals v o i n d with ⟨hb,e1,e2,e3,e4⟩ | ⟨hb,hn,hs,e1,e2,e3,e4⟩ | ⟨hb,hn,hs,e1,e2,e3,e4⟩ | ⟨hb,hn,hs,e1,e2,e3,e4⟩ | ⟨hb,hn,hs,e1,e2,e3,e4⟩
 ·rw [e1,e2,e3,e4];exact end_no v o i n d w (bne_of hb)
 all_goals
  obtain ⟨k1,k2⟩:=both_ok hb
  obtain ⟨a1,a2,a3,a4,a5,a6⟩:=chk_ok k1
  obtain ⟨b1,b2,b3⟩:=dlt_ok k2
  rw [e1,e2,e3,e4]
 ·exact end_noless v o i n d w a1 a2 a3 a4 a5 a6 hn b2 hs
 ·cases d
  ·exact end_less_false v o i n w a1 a2 a3 a4 a5 a6 hn b2 hs
  ·exact end_less_true v o i n w a1 a2 a3 a4 a5 a6 hn b2 hs
 ·exact end_nomore v o i n d w a1 a2 a3 a4 a5 a6 (by omega) b3 hs
 ·cases d
  ·exact end_more_false v o i n w a1 a2 a3 a4 a5 a6 (by omega) b3 hs
  ·exact end_more_true v o i n w a1 a2 a3 a4 a5 a6 (by omega) b3 hs
def HoldIs (v o i n a b c k:Int):Prop:=∀w:World,Calls Tryz.prog 195 #[.agg #[.int .i64 v,.int .i64 o,.int .i64 i],.int .i64 n] w fun e w'=>e=.returned (.tuple #[.agg #[.int .i64 a,.int .i64 b,.int .i64 c],.int .i64 k])∧Below w.heap.size w w'
def EndIs (v o i n:Int) (d:Bool) (a b c k:Int):Prop:=∀w:World,Calls Tryz.prog 193 #[.agg #[.int .i64 v,.int .i64 o,.int .i64 i],.int .i64 n,.bool d] w fun e w'=>e=.returned (.tuple #[.agg #[.int .i64 a,.int .i64 b,.int .i64 c],.int .i64 k])∧Below w.heap.size w w'
theorem holdIs (v o i n:Int):HoldIs v o i n (hV v o i n) (hO v o i n) (hI v o i n) (hC v o i n):=fun w=>hold_any v o i n w
theorem endIs (v o i n:Int) (d:Bool):EndIs v o i n d (eV v o i n d) (eO v o i n) (eI v o i n) (eC v o i n):=fun w=>end_any v o i n d w
theorem both_of {v o i n:Int} (h:chk v o i=0) (h':dlt n=0):both v o i n=0:=by unfold both;rw [if_pos h,h']
theorem endIs_less {v o i n:Int} (d:Bool) (hb:both v o i n=0) (hn:n<0) (h:0<=o+n):EndIs v o i n d (if d=true then v+n else v) (o+n) i 0:=by
 have h':¬o+n<0:=by omega
 have H:=endIs v o i n d
 simpa [eV,eO,eI,eC,hb,hn,h'] using H
theorem endIs_more {v o i n:Int} (d:Bool) (hb:both v o i n=0) (hn:0<=n) (h:0<=i - n):EndIs v o i n d (if d=true then v+n else v) o (i - n) 0:=by
 have h':¬i - n<0:=by omega
 have hn':¬n<0:=by omega
 have H:=endIs v o i n d
 simpa [eV,eO,eI,eC,hb,hn',h'] using H
theorem hold_zero {v o i n:Int} (h:hC v o i n=0):(0<=v∧v<=100∧0<=o∧o<=v∧0<=i∧v+i<=100)∧n ≠ 0∧-100<=n∧n<=100∧
 ((n<0∧o - n<=v∧hV v o i n=v∧hO v o i n=o - n∧hI v o i n=i)∨(0<n∧v+(i+n)<=100∧hV v o i n=v∧hO v o i n=o∧hI v o i n=i+n)):=by
 rcases hold_vals v o i n with ⟨hb,e1,e2,e3,e4⟩ | ⟨hb,hn,hs,e1,e2,e3,e4⟩ | ⟨hb,hn,hs,e1,e2,e3,e4⟩ | ⟨hb,hn,hs,e1,e2,e3,e4⟩ | ⟨hb,hn,hs,e1,e2,e3,e4⟩
 ·omega
 ·omega
 ·obtain ⟨k1,k2⟩:=both_ok hb
  obtain ⟨b1,b2,b3⟩:=dlt_ok k2
  exact ⟨chk_ok k1,b1,b2,b3,Or.inl ⟨hn,hs,e2,e3,e4⟩⟩
 ·omega
 ·obtain ⟨k1,k2⟩:=both_ok hb
  obtain ⟨b1,b2,b3⟩:=dlt_ok k2
  exact ⟨chk_ok k1,b1,b2,b3,Or.inr ⟨by omega,hs,e2,e3,e4⟩⟩
end Go.Proofs.YtbgnajcmhmpjlacGreatDoor
