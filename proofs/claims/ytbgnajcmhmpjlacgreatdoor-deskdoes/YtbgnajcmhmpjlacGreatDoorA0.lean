/- The plain mathematics of package plan: what its functions answer, as functions on integers and lists of them. No program is named here. -/
import Derived.WalkKit
import Derived.Test.YtbgnajcmhmpjlacGreatDoorRows
import Derived.WalkSpells
import Derived.Handy
set_option maxRecDepth 100000
set_option maxHeartbeats 100000000
namespace Go.Proofs.YtbgnajcmhmpjlacGreatDoor
open Go.RowKit
def chk (v o i:Int):Int:=if v<0 then 1 else if 100<v then 1 else if o<0 then 5 else if v<o then 5 else if i<0 then 6 else if 100 - v<i then 6 else 0
def dlt (n:Int):Int:=if n=0 then 2 else if n< -100 then 1 else if 100<n then 1 else 0
theorem chk_ok {v o i:Int} (h:chk v o i=0):0<=v∧v<=100∧0<=o∧o<=v∧0<=i∧v+i<=100:=by
 unfold chk at h
 repeat' split at h
 all_goals omega
theorem chk_of {v o i:Int} (h1:0<=v) (h2:v<=100) (h3:0<=o) (h4:o<=v) (h5:0<=i) (h6:v+i<=100):chk v o i=0:=by
 unfold chk
 repeat' split
 all_goals omega
theorem dlt_ok {n:Int} (h:dlt n=0):n ≠ 0∧-100<=n∧n<=100:=by
 unfold dlt at h
 repeat' split at h
 all_goals omega
theorem bcell {W w1:World} (hb:Below W.heap.size W w1):(∀b o,b<W.heap.size->w1.cell? ⟨b,o,none⟩=W.cell? ⟨b,o,none⟩)∧(∀b o,b<W.heap.size->w1.frozen? ⟨b,o,none⟩=W.frozen? ⟨b,o,none⟩):=
 ⟨fun b o h=>hb.cell (p:=⟨b,o,none⟩) h,fun b o h=>hb.frozen (p:=⟨b,o,none⟩) h⟩
theorem after {B:Nat} {w W w1:World} (h:Below B w W) (hb:Below W.heap.size W w1) (hB:B<=W.heap.size):Below B w w1:=h.trans (hb.mono hB)
theorem loose {W w1:World} (b:Nat) (hb:Below W.heap.size W w1) (hlt:b<W.heap.size) (hf:∀k,W.frozen? ⟨b,k,none⟩=false):∀k,w1.frozen? ⟨b,k,none⟩=false:=fun k=>((bcell hb).2 _ _ hlt).trans (hf k)
theorem ret_int {k:IntKind} {a b:Int} (h:a=b):Ending.returned (.int k a)=.returned (.int k b):=by rw [h]
theorem check_any (v o i:Int) (w:World):
 Calls Tryz.prog 98 #[.agg #[.int .i64 v,.int .i64 o,.int .i64 i]] w fun e w'=>e=.returned (.int .i64 (chk v o i))∧Below w.heap.size w w':=by
 go_enter Tryz.func98,Tryz.ntmps98
 go_wp2
 all_goals
  go_ret
  exact ⟨ret_int (by unfold chk;repeat' split
                     all_goals omega),by go_grown⟩
theorem countFault_any (v o i:Int) (w:World):
 Calls Tryz.prog 164 #[.agg #[.int .i64 v,.int .i64 o,.int .i64 i]] w fun e w'=>e=.returned (.int .i64 (chk v o i))∧Below w.heap.size w w':=by
 go_enter Tryz.func164,Tryz.ntmps164
 go_wp2
 all_goals
  go_ret
  exact ⟨ret_int (by unfold chk;repeat' split
                     all_goals omega),by go_grown⟩
theorem dlt_zero {n:Int} (h:(n == 0)=true):2=dlt n:=by
 have e:n=0:=by simpa using h
 unfold dlt;rw [if_pos e]
theorem dlt_ne {n:Int} (h:(n == 0)=false):dlt n=if n< -100 then 1 else if 100<n then 1 else 0:=by
 have e:¬n=0:=by simpa using h
 unfold dlt;rw [if_neg e]
theorem delta_any (n:Int) (w:World):
 Calls Tryz.prog 173 #[.int .i64 n] w fun e w'=>e=.returned (.int .i64 (dlt n))∧w'=w:=by
 go_enter Tryz.func173,Tryz.ntmps173
 go_wp2
 all_goals
  go_ret
  refine ⟨ret_int ?_,rfl⟩
  first
   | exact dlt_zero ‹_›
   | (rw [dlt_ne ‹_›];repeat' split
      all_goals omega)
theorem deltaFault_any (n:Int) (w:World):
 Calls Tryz.prog 149 #[.int .i64 n] w fun e w'=>e=.returned (.int .i64 (dlt n))∧w'=w:=by
 go_enter Tryz.func149,Tryz.ntmps149
 go_wp2
 all_goals
  go_ret
  refine ⟨ret_int ?_,rfl⟩
  first
   | exact dlt_zero ‹_›
   | (rw [dlt_ne ‹_›];repeat' split
      all_goals omega)
def both (v o i n:Int):Int:=if chk v o i=0 then dlt n else chk v o i
theorem both_any (v o i n:Int) (w:World):
 Calls Tryz.prog 196 #[.agg #[.int .i64 v,.int .i64 o,.int .i64 i],.int .i64 n] w fun e w'=>e=.returned (.int .i64 (both v o i n))∧Below w.heap.size w w':=by
 by_cases hc:chk v o i=0
 ·have hb:both v o i n=dlt n:=by unfold both;rw [if_pos hc]
  rw [hb]
  have hx:(chk v o i != 0)=false:=by simp [hc]
  clear hb hc
  go_enter Tryz.func196,Tryz.ntmps196
  go_wp2_with (first | (go_at_call 98;refine (check_any _ _ _ _).mono ?_;rintro e w1 ⟨rfl,hb1⟩) | (go_at_call 173;refine (delta_any _ _).mono ?_;rintro e w' ⟨rfl,rfl⟩))
  go_ret
  exact ⟨rfl,((Below.refl _ _).alloc (Nat.le_refl _) _).trans (hb1.mono (by simp))⟩
 ·have hb:both v o i n=chk v o i:=by unfold both;rw [if_neg hc]
  rw [hb]
  have hx:(chk v o i != 0)=true:=by simpa using hc
  clear hb hc
  go_enter Tryz.func196,Tryz.ntmps196
  go_wp2_with (first | (go_at_call 98;refine (check_any _ _ _ _).mono ?_;rintro e w1 ⟨rfl,hb1⟩))
  go_ret
  exact ⟨rfl,((Below.refl _ _).alloc (Nat.le_refl _) _).trans (hb1.mono (by simp))⟩
def shp (c:Int):Int:=if c<0 then -1 else if 6<=c then -1 else c / 2
def wnt (c d:Int):Int:=if shp c<0 then 1 else dlt d
theorem shp_neg {c:Int}:shp c<0 ↔ (c<0∨6<=c):=by
 unfold shp
 repeat' split
 all_goals omega
theorem shp_eq {c:Int} (h0:0<=c) (h1:c<6):shp c=c / 2:=by
 unfold shp
 rw [if_neg (by omega),if_neg (by omega)]
theorem shp_lt (c:Int):shp c<3:=by
 unfold shp
 repeat' split
 all_goals omega
theorem wnt_ok {c d:Int} (h:wnt c d=0):0<=c∧c<6∧dlt d=0:=by
 unfold wnt at h
 split at h
 ·omega
 ·rename_i k
  rw [shp_neg] at k
  exact ⟨by omega,by omega,h⟩
def scanW (p:List (Int × Int)):List (Int × Int)->Int × Int
 | []=>(0,0)
 | x :: r=>if wnt x.1 x.2=0 then (if p.any (fun y=>y.1 == x.1)=true then (4,(p.length:Int)) else scanW (p++[x]) r) else (wnt x.1 x.2,(p.length:Int))
def chkW (l:List (Int × Int)):Int × Int:=if l.length=0 then (2,-1) else if 4<l.length then (3,-1) else scanW [] l
def morV (v d:Int):Int:=if v<0 then 0 else if 100<v then 0 else if v+d<0 then 0 else if 100<v+d then 0 else v+d
def morC (v d:Int):Int:=if v<0 then 1 else if 100<v then 1 else if v+d<0 then 5 else if 100<v+d then 6 else 0
def upd (ws:Nat->Int) (k:Nat) (v:Int):Nat->Int:=fun j=>if j=k then v else ws j
def noW:Nat->Int:=fun _=>0
def runW (ws:Nat->Int) (i:Nat):List (Int × Int)->(Nat->Int) × Int × Int
 | []=>(ws,0,0)
 | x :: r=>if morC (ws x.1.toNat) x.2=0 then runW (upd ws x.1.toNat (morV (ws x.1.toNat) x.2)) (i+1) r else (noW,morC (ws x.1.toNat) x.2,(i:Int))
def appW (ws:Nat->Int) (l:List (Int × Int)):(Nat->Int) × Int × Int:=if (chkW l).1=0 then runW ws 0 l else (noW,(chkW l).1,(chkW l).2)
theorem drop_cons {α:Type} {l:List α} {k:Nat} {x:α} (h:l[k]?=some x):l.drop k=x :: l.drop (k+1):=by
 obtain ⟨hk,rfl⟩:=List.getElem?_eq_some_iff.1 h
 exact List.drop_eq_getElem_cons hk
theorem take_snoc {α:Type} {l:List α} {k:Nat} {x:α} (h:l[k]?=some x):l.take (k+1)=l.take k++[x]:=by
 obtain ⟨hk,rfl⟩:=List.getElem?_eq_some_iff.1 h
 exact (List.take_append_getElem hk).symm
theorem scan_bad {l:List (Int × Int)} {k:Nat} {c d:Int} (h:l[k]?=some (c,d)) (hw:wnt c d ≠ 0):scanW (l.take k) (l.drop k)=(wnt c d,(k:Int)):=by
 have hk:=(List.getElem?_eq_some_iff.1 h).1
 rw [drop_cons h,scanW,if_neg hw,List.length_take,Nat.min_eq_left (by omega)]
theorem scan_twice {l:List (Int × Int)} {k:Nat} {c d:Int} (h:l[k]?=some (c,d)) (hw:wnt c d=0) (ht:(l.take k).any (fun y=>y.1 == c)=true):scanW (l.take k) (l.drop k)=(4,(k:Int)):=by
 have hk:=(List.getElem?_eq_some_iff.1 h).1
 rw [drop_cons h,scanW,if_pos hw,if_pos ht,List.length_take,Nat.min_eq_left (by omega)]
theorem scan_next {l:List (Int × Int)} {k:Nat} {c d:Int} (h:l[k]?=some (c,d)) (hw:wnt c d=0) (ht:(l.take k).any (fun y=>y.1 == c)=false):scanW (l.take k) (l.drop k)=scanW (l.take (k+1)) (l.drop (k+1)):=by
 rw [drop_cons h,scanW,if_pos hw,if_neg (by rw [ht];decide),take_snoc h]
theorem any_next {l:List (Int × Int)} {k:Nat} {c d:Int} (h:l[k]?=some (c,d)) (j:Int):(l.take (k+1)).any (fun y=>y.1 == j)=((l.take k).any (fun y=>y.1 == j) || c == j):=by
 rw [take_snoc h];simp
theorem scan_ok {l:List (Int × Int)}:∀{p:List (Int × Int)},(scanW p l).1=0->(∀x∈l,wnt x.1 x.2=0)∧l.Pairwise (fun x y=>x.1 ≠ y.1)∧(∀x∈p,∀y∈l,x.1 ≠ y.1):=by
 induction l with
 | nil=>intro p _;exact ⟨by simp,.nil,by simp⟩
 | cons x r ih=>
   intro p h
   rw [scanW] at h
   split at h
   ·rename_i hw
    split at h
    ·simp at h
    ·rename_i ha
     obtain ⟨i1,i2,i3⟩:=ih h
     have ha':∀y∈p,y.1 ≠ x.1:=fun y hy e=>ha (List.any_eq_true.2 ⟨y,hy,by simp [e]⟩)
     refine ⟨?_,?_,?_⟩
     ·intro y hy
      rcases List.mem_cons.1 hy with rfl | hy
      ·exact hw
      ·exact i1 y hy
     ·exact List.Pairwise.cons (fun y hy=>i3 x (by simp) y hy) i2
     ·intro z hz y hy
      rcases List.mem_cons.1 hy with rfl | hy
      ·exact ha' z hz
      ·exact i3 z (by simp [hz]) y hy
   ·rename_i hw
    exact absurd h hw
theorem ok_scan {l:List (Int × Int)}:∀{p:List (Int × Int)},(∀x∈l,wnt x.1 x.2=0)->l.Pairwise (fun x y=>x.1 ≠ y.1)->(∀x∈p,∀y∈l,x.1 ≠ y.1)->scanW p l=(0,0):=by
 induction l with
 | nil=>intro p _ _ _;rfl
 | cons x r ih=>
   intro p h1 h2 h3
   rw [scanW,if_pos (h1 x (by simp)),if_neg,ih (fun y hy=>h1 y (by simp [hy])) (List.pairwise_cons.1 h2).2]
   ·intro z hz y hy
    rcases List.mem_append.1 hz with hz | hz
    ·exact h3 z hz y (by simp [hy])
    ·rw [List.mem_singleton.1 hz]
     exact (List.pairwise_cons.1 h2).1 y hy
   ·intro ha
    obtain ⟨y,hy,e⟩:=List.any_eq_true.1 ha
    exact h3 y hy x (by simp) (by simpa using e)
structure Fit (l:List (Int × Int)):Prop where
 pos:0<l.length
 few:l.length<=4
 each:∀x∈l,wnt x.1 x.2=0
 apart:l.Pairwise (fun x y=>x.1 ≠ y.1)
theorem fit_iff {l:List (Int × Int)}:(chkW l).1=0 ↔ Fit l:=by
 constructor
 ·intro h
  unfold chkW at h
  split at h
  ·simp at h
  ·split at h
   ·simp at h
   ·obtain ⟨a,b,_⟩:=scan_ok h
    exact ⟨by omega,by omega,a,b⟩
 ·intro h
  unfold chkW
  have:=h.pos
  have:=h.few
  rw [if_neg (by omega),if_neg (by omega),ok_scan h.each h.apart (by simp)]
theorem Fit.at {l:List (Int × Int)} (h:Fit l) {k:Nat} {c d:Int} (hk:l[k]?=some (c,d)):0<=c∧c<6∧d ≠ 0∧-100<=d∧d<=100:=by
 obtain ⟨a,b,e⟩:=wnt_ok (h.each (c,d) (List.mem_of_getElem? hk))
 obtain ⟨e1,e2,e3⟩:=dlt_ok e
 exact ⟨a,b,e1,e2,e3⟩
theorem run_bad {l:List (Int × Int)} {k:Nat} {ws:Nat->Int} {n:Nat} {d:Int} (h:l[k]?=some ((n:Int),d)) (hw:morC (ws n) d ≠ 0):runW ws k (l.drop k)=(noW,morC (ws n) d,(k:Int)):=by
 rw [drop_cons h,runW]
 exact if_neg hw
theorem run_next {l:List (Int × Int)} {k:Nat} {ws:Nat->Int} {n:Nat} {d:Int} (h:l[k]?=some ((n:Int),d)) (hw:morC (ws n) d=0):runW ws k (l.drop k)=runW (upd ws n (morV (ws n) d)) (k+1) (l.drop (k+1)):=by
 rw [drop_cons h,runW]
 exact if_pos hw
def WantsAt (w:World) (la:Option Addr) (l:List (Int × Int)):Prop:=∀k c d,l[k]?=some (c,d)->∃b off,la=some ⟨b,off,none⟩∧b<w.heap.size∧w.cell? ⟨b,off+k * 2,none⟩=some (.int .i64 c)∧w.cell? ⟨b,off+k * 2+1,none⟩=some (.int .i64 d)
theorem WantsAt.below {w w':World} {B:Nat} {la:Option Addr} {l:List (Int × Int)} (h:WantsAt w la l) (hb:Below B w w') (hB:w.heap.size<=B):WantsAt w' la l:=by
 intro k c d hk
 obtain ⟨b,off,e,hlt,h0,h1⟩:=h k c d hk
 have hb':b<B:=by omega
 refine ⟨b,off,e,?_,(hb.cell (p:=⟨b,off+k * 2,none⟩) hb').trans h0,(hb.cell (p:=⟨b,off+k * 2+1,none⟩) hb').trans h1⟩
 have:=hb.size
 omega
end Go.Proofs.YtbgnajcmhmpjlacGreatDoor
