/- The contract of broker's Crash. -/
import Derived.IntWalk
import Derived.Deep.RegionLaw
import Derived.BigQuiet
import Derived.Deep.LoopGhost
import Derived.Deep.RegionHeld3
import Derived.BigRegion
import Derived.Test.YtbgnajcmhmpjlacGreatDoorA0
import Derived.Test.YtbgnajcmhmpjlacGreatDoorA2
import Derived.Test.YtbgnajcmhmpjlacGreatDoorA4
import Derived.Test.YtbgnajcmhmpjlacGreatDoorS0
import Derived.Test.YtbgnajcmhmpjlacGreatDoorA5
set_option maxRecDepth 100000
set_option maxHeartbeats 100000000
namespace Go.Proofs.YtbgnajcmhmpjlacGreatDoor
open Go.RowKit
def dOf:List (Int × Int)->Nat->Int
 | [],_=>0
 | x :: r,j=>(if x.1=(j:Int) then x.2 else 0)+dOf r j
def plusW (ws:Nat->Int) (l:List (Int × Int)):Nat->Int:=fun j=>ws j+dOf l j
theorem mor_ok {v d:Int} (h:morC v d=0):0<=v∧v<=100∧0<=v+d∧v+d<=100∧morV v d=v+d:=by
 unfold morC at h
 unfold morV
 repeat' split at h
 all_goals first | omega | (refine ⟨by omega,by omega,by omega,by omega,?_⟩;repeat' split
                            all_goals omega)
theorem mor_of {v d:Int} (h0:0<=v) (h1:v<=100) (h2:0<=v+d) (h3:v+d<=100):morC v d=0:=by
 unfold morC
 repeat' split
 all_goals omega
theorem dOf_none {l:List (Int × Int)} {j:Nat} (h:∀x∈l,x.1 ≠ (j:Int)):dOf l j=0:=by
 induction l with
 | nil=>rfl
 | cons x r ih=>rw [dOf,if_neg (h x (by simp)),ih (fun y hy=>h y (by simp [hy]))];rfl
theorem dOf_one {l:List (Int × Int)} {j:Nat} {x:Int × Int} (hp:l.Pairwise (fun x y=>x.1 ≠ y.1)) (hx:x∈l) (e:x.1=(j:Int)):dOf l j=x.2:=by
 induction l with
 | nil=>simp at hx
 | cons y r ih=>
   have hp':=List.pairwise_cons.1 hp
   rw [dOf]
   rcases List.mem_cons.1 hx with rfl | hx
   ·rw [if_pos e,dOf_none (fun z hz ez=>hp'.1 z hz (by rw [e,ez]))];omega
   ·rw [if_neg (fun ey=>hp'.1 x hx (by rw [e,ey])),ih hp'.2 hx];omega
theorem run_code {l:List (Int × Int)}:∀{ws:Nat->Int} {i:Nat},(∀x∈l,0<=x.1)->l.Pairwise (fun x y=>x.1 ≠ y.1)->(∀x∈l,morC (ws x.1.toNat) x.2=0)->runW ws i l=(plusW ws l,0,0):=by
 induction l with
 | nil=>intro ws i _ _ _;rw [runW];congr 1;funext j;simp [plusW,dOf]
 | cons x r ih=>
   intro ws i h0 hp hm
   have hp':=List.pairwise_cons.1 hp
   have hx:=hm x (by simp)
   obtain ⟨_,_,_,_,hv⟩:=mor_ok hx
   rw [runW,if_pos hx,hv,ih (fun y hy=>h0 y (by simp [hy])) hp'.2]
   ·congr 1
    funext j
    have:=h0 x (by simp)
    unfold plusW upd
    rw [dOf]
    by_cases e:j=x.1.toNat
    ·rw [if_pos e,if_pos (by omega),e];omega
    ·rw [if_neg e,if_neg (by omega)];omega
   ·intro y hy
    have q:=hm y (by simp [hy])
    have h1:=h0 x (by simp)
    have h2:=h0 y (by simp [hy])
    have h3:=hp'.1 y hy
    unfold upd
    rw [if_neg (by omega)]
    exact q
structure Can (ws:Nat->Int) (l:List (Int × Int)):Prop where
 fit:Fit l
 each:∀x∈l,morC (ws x.1.toNat) x.2=0
theorem Fit.nonneg {l:List (Int × Int)} (h:Fit l):∀x∈l,0<=x.1:=fun x hx=>(wnt_ok (h.each x hx)).1
theorem app_can {ws:Nat->Int} {l:List (Int × Int)} (h:Can ws l):appW ws l=(plusW ws l,0,0):=by
 unfold appW
 rw [if_pos (fit_iff.2 h.fit),run_code h.fit.nonneg h.fit.apart h.each]
def bk (x:Int × Int):Int × Int:=(x.1,IntKind.i64.wrap (-x.2))
theorem shopsL_mem {l:List (Int × Int)} {a:Int}:a∈shopsL l ↔ ∃n:Nat,a=(n:Int)∧n<3∧stands l (n:Int)=true:=by
 unfold shopsL shopsTo
 rw [List.mem_map]
 constructor
 ·rintro ⟨n,hn,rfl⟩
  obtain ⟨h1,h2⟩:=List.mem_filter.1 hn
  exact ⟨n,rfl,by simpa using h1,h2⟩
 ·rintro ⟨n,rfl,h1,h2⟩
  exact ⟨n,List.mem_filter.2 ⟨by simpa using h1,h2⟩,rfl⟩
structure Dl where
 w:List (Int × Int)
 st:Int
 yes:List Int
 ov:List Int
structure Bok where
 L:List Dl
 ord:List Int
def dealAt (B:Bok) (n:Int):Option Dl:=if n<0 then none else B.L[n.toNat]?
def stR (B:Bok) (n:Int):Int:=match dealAt B n with
 | some D=>D.st
 | none=> -1
def wantsR (B:Bok) (n:Int):List (Int × Int):=match dealAt B n with
 | some D=>D.w
 | none=>[]
def putD (B:Bok) (n:Int) (D:Dl):Bok:={ B with L:=B.L.set n.toNat D }
def beginR (B:Bok) (l:List (Int × Int)):Int × Int × Bok:=if (chkW l).1=0 then (if 8<=B.L.length then (0,6,B) else ((B.L.length:Int),0,{ B with L:=B.L++[⟨l,0,[],[]⟩] })) else (0,(chkW l).1,B)
def quitR (B:Bok) (n:Int):Int × Bok:=match dealAt B n with
 | none=>(7,B)
 | some D=>if D.st=0 then (0,putD B n { D with st:=2 }) else (8,B)
def wantAt (l:List (Int × Int)) (c d:Int):Option Nat:=l.findIdx? (fun x=>x.1 == c && x.2 == d)
def addI (l:List Int) (i:Int):List Int:=if i∈l then l else l++[i]
def hearR (B:Bok) (m:Ml):Bok:=match dealAt B m.deal with
 | none=>B
 | some D=>if D.st=0 then (if m.kind=2∧shp m.c=m.shop then (match wantAt D.w m.c m.d with
    | none=>B
    | some i=>if m.yes=true then (if (addI D.yes i).length=D.w.length then { putD B m.deal { D with yes:=addI D.yes i,st:=1 } with ord:=B.ord++[m.deal] } else putD B m.deal { D with yes:=addI D.yes i }) else putD B m.deal { D with st:=2 }) else B)
   else (if m.kind=4∧m.shop∈shopsL D.w∧m.shop ∉ D.ov then putD B m.deal { D with ov:=D.ov++[m.shop] } else B)
def asksR (n:Int) (yes:List Int):Nat->List (Int × Int)->List Ml
 | _,[]=>[]
 | k,x :: r=>if (k:Int)∈yes then asksR n yes (k+1) r else ⟨1,n,shp x.1,x.1,x.2,false⟩ :: asksR n yes (k+1) r
def endsR (n:Int) (D:Dl):List Ml:=((shopsL D.w).filter (fun s=>decide (s ∉ D.ov))).map (fun s=>⟨3,n,s,0,0,D.st == 1⟩)
def dueD (n:Int) (D:Dl):List Ml:=if D.st=0 then asksR n D.yes 0 D.w else endsR n D
def duesR:Nat->List Dl->List Ml
 | _,[]=>[]
 | k,D :: r=>dueD (k:Int) D++duesR (k+1) r
def dueR (B:Bok):List Ml:=duesR 0 B.L
def crashD (D:Dl):Dl:={ D with st:=if D.st=0 then 2 else D.st,yes:=[],ov:=[] }
def crashR (B:Bok):Bok:={ B with L:=B.L.map crashD }
theorem dealAt_nat (B:Bok) (k:Nat):dealAt B (k:Int)=B.L[k]?:=by
 unfold dealAt
 rw [if_neg (by omega)]
 rfl
theorem dealAt_some {B:Bok} {n:Int} {D:Dl} (h:dealAt B n=some D):∃k:Nat,n=(k:Int)∧k<B.L.length∧B.L[k]?=some D:=by
 unfold dealAt at h
 split at h
 ·cases h
 ·exact ⟨n.toNat,by omega,(List.getElem?_eq_some_iff.1 h).1,h⟩
theorem dealAt_mem {B:Bok} {n:Int} {D:Dl} (h:dealAt B n=some D):D∈B.L:=by
 obtain ⟨k,_,_,hk⟩:=dealAt_some h
 exact List.mem_of_getElem? hk
theorem mem_dealAt {B:Bok} {D:Dl} (h:D∈B.L):∃k:Nat,k<B.L.length∧dealAt B (k:Int)=some D:=by
 obtain ⟨k,hk,e⟩:=List.getElem_of_mem h
 exact ⟨k,hk,by rw [dealAt_nat,List.getElem?_eq_getElem hk,e]⟩
theorem dealAt_put {B:Bok} {n:Int} {D0:Dl} (h:dealAt B n=some D0) (D:Dl) (j:Int):dealAt (putD B n D) j=if j=n then some D else dealAt B j:=by
 obtain ⟨k,rfl,hk,_⟩:=dealAt_some h
 unfold dealAt putD
 simp only [Int.toNat_natCast]
 by_cases e:j=(k:Int)
 ·subst e
  rw [if_pos rfl,if_neg (by omega)]
  simp [hk]
 ·rw [if_neg e]
  by_cases hj:j<0
  ·rw [if_pos hj,if_pos hj]
  ·rw [if_neg hj,if_neg hj,List.getElem?_set_ne (by omega)]
theorem put_ord (B:Bok) (n:Int) (D:Dl):(putD B n D).ord=B.ord:=rfl
theorem put_len (B:Bok) (n:Int) (D:Dl):(putD B n D).L.length=B.L.length:=by simp [putD]
theorem stR_some {B:Bok} {n:Int} {D:Dl} (h:dealAt B n=some D):stR B n=D.st:=by unfold stR;rw [h]
theorem wantsR_some {B:Bok} {n:Int} {D:Dl} (h:dealAt B n=some D):wantsR B n=D.w:=by unfold wantsR;rw [h]
theorem wantAt_some {l:List (Int × Int)} {c d:Int} {i:Nat} (h:wantAt l c d=some i):l[i]?=some (c,d):=by
 unfold wantAt at h
 obtain ⟨hi,hp,_⟩:=List.findIdx?_eq_some_iff_getElem.1 h
 rw [List.getElem?_eq_getElem hi]
 simp only [Bool.and_eq_true,beq_iff_eq] at hp
 congr 1
 exact Prod.ext hp.1 hp.2
theorem wantAt_none {l:List (Int × Int)} {c d:Int} (h:wantAt l c d=none):(c,d) ∉ l:=by
 unfold wantAt at h
 rw [List.findIdx?_eq_none_iff] at h
 intro hm
 have:=h _ hm
 simp at this
theorem hearR_cases (B:Bok) (m:Ml):hearR B m=B∨
 (∃(D:Dl) (i:Nat),dealAt B m.deal=some D∧D.st=0∧m.kind=2∧shp m.c=m.shop∧D.w[i]?=some (m.c,m.d)∧((m.yes=false∧hearR B m=putD B m.deal { D with st:=2 })∨(m.yes=true∧(addI D.yes i).length ≠ D.w.length∧hearR B m=putD B m.deal { D with yes:=addI D.yes i })∨(m.yes=true∧(addI D.yes i).length=D.w.length∧hearR B m={ putD B m.deal { D with yes:=addI D.yes i,st:=1 } with ord:=B.ord++[m.deal] })))∨
 (∃D:Dl,dealAt B m.deal=some D∧D.st ≠ 0∧m.kind=4∧m.shop∈shopsL D.w∧m.shop ∉ D.ov∧hearR B m=putD B m.deal { D with ov:=D.ov++[m.shop] }):=by
 unfold hearR
 cases hd:dealAt B m.deal with
 | none=>exact .inl rfl
 | some D=>
   simp only
   by_cases h0:D.st=0
   ·rw [if_pos h0]
    by_cases h1:m.kind=2∧shp m.c=m.shop
    ·rw [if_pos h1]
     cases hw:wantAt D.w m.c m.d with
     | none=>exact .inl rfl
     | some i=>
       simp only
       right;left
       refine ⟨D,i,rfl,h0,h1.1,h1.2,wantAt_some hw,?_⟩
       cases hy:m.yes with
       | false=>left;exact ⟨rfl,by simp⟩
       | true=>
         right
         by_cases hl:(addI D.yes i).length=D.w.length
         ·right;exact ⟨rfl,hl,by rw [if_pos rfl,if_pos hl]⟩
         ·left;exact ⟨rfl,hl,by rw [if_pos rfl,if_neg hl]⟩
    ·rw [if_neg h1];exact .inl rfl
   ·rw [if_neg h0]
    by_cases h1:m.kind=4∧m.shop∈shopsL D.w∧m.shop ∉ D.ov
    ·rw [if_pos h1]
     right;right
     exact ⟨D,rfl,h0,h1.1,h1.2.1,h1.2.2,rfl⟩
    ·rw [if_neg h1];exact .inl rfl
theorem addI_mem {l:List Int} {i j:Int}:j∈addI l i ↔ j∈l∨j=i:=by
 unfold addI
 split
 ·rename_i h
  constructor
  ·exact .inl
  ·rintro (h1 | rfl)
   ·exact h1
   ·exact h
 ·simp
theorem addI_nodup {l:List Int} (h:l.Nodup) (i:Int):(addI l i).Nodup:=by
 unfold addI
 split
 ·exact h
 ·rename_i hi
  refine List.nodup_append.2 ⟨h,by simp,?_⟩
  intro a ha b hb
  rw [List.mem_singleton.1 hb]
  intro e
  subst e
  exact hi ha
theorem length_le_of_below:∀{k:Nat} {l:List Int},l.Nodup->(∀x∈l,0<=x∧x<(k:Int))->l.length<=k:=by
 intro k
 induction k with
 | zero=>
   intro l _ hb
   cases l with
   | nil=>simp
   | cons x r=>have:=hb x (by simp);omega
 | succ k ih=>
   intro l hn hb
   have h1:=ih (l:=l.erase (k:Int)) (hn.erase _) (fun x hx=>by
    have hx':=List.mem_of_mem_erase hx
    have h2:=hb x hx'
    have:x ≠ (k:Int):=fun e=>by subst e;exact (List.Nodup.not_mem_erase hn) hx
    omega)
   have h2:=List.length_erase (a:=(k:Int)) (l:=l)
   split at h2 <;> omega
theorem all_of_length {l:List Int} {k:Nat} (hn:l.Nodup) (hb:∀x∈l,0<=x∧x<(k:Int)) (hl:l.length=k):∀i:Nat,i<k->(i:Int)∈l:=by
 induction k generalizing l with
 | zero=>intro i hi;omega
 | succ k ih=>
   have hk:(k:Int)∈l:=by
    apply Classical.byContradiction
    intro hk
    have hb':∀x∈l,0<=x∧x<(k:Int):=fun x hx=>by
     have h1:=hb x hx
     have:x ≠ (k:Int):=fun e=>hk (e ▸ hx)
     omega
    have:=length_le_of_below hn hb'
    omega
   intro i hi
   by_cases e:i=k
   ·rw [e];exact hk
   ·have h1:=ih (l:=l.erase (k:Int)) (hn.erase _) (fun x hx=>by
     have hx':=List.mem_of_mem_erase hx
     have h2:=hb x hx'
     have:x ≠ (k:Int):=fun e=>by subst e;exact (List.Nodup.not_mem_erase hn) hx
     omega) (by rw [List.length_erase_of_mem hk,hl];omega) i (by omega)
    exact List.mem_of_mem_erase h1
structure DV where
 w:Value
 y:Value
 o:Value
def DV.all (v:DV):List Value:=[v.w,v.y,v.o]
def flatD:List Dl->List DV->List Value
 | D :: r,v :: s=>v.w :: .int .i64 D.st :: v.y :: v.o :: flatD r s
 | _,_=>[]
theorem flatD_length:∀{L:List Dl} {V:List DV},V.length=L.length->(flatD L V).length=L.length * 4
 | [],[],_=>rfl
 | D :: r,v :: s,h=>by
   have h':s.length=r.length:=by simpa using h
   simp only [flatD,List.length_cons,flatD_length h']
   omega
theorem flatD_at:∀{L:List Dl} {V:List DV} {k:Nat} {D:Dl} {v:DV},L[k]?=some D->V[k]?=some v->(flatD L V)[k * 4]?=some v.w∧(flatD L V)[k * 4+1]?=some (.int .i64 D.st)∧(flatD L V)[k * 4+2]?=some v.y∧(flatD L V)[k * 4+3]?=some v.o
 | E :: r,u :: s,0,D,v,h1,h2=>by
   obtain rfl:E=D:=by simpa using h1
   obtain rfl:u=v:=by simpa using h2
   exact ⟨rfl,rfl,rfl,rfl⟩
 | E :: r,u :: s,k+1,D,v,h1,h2=>by
   obtain ⟨a,b,c,d⟩:=flatD_at (L:=r) (V:=s) (k:=k) (by simpa using h1) (by simpa using h2)
   refine ⟨?_,?_,?_,?_⟩
   ·rw [show (k+1) * 4=k * 4+4 by omega];simpa [flatD] using a
   ·rw [show (k+1) * 4+1=k * 4+1+4 by omega];simpa [flatD] using b
   ·rw [show (k+1) * 4+2=k * 4+2+4 by omega];simpa [flatD] using c
   ·rw [show (k+1) * 4+3=k * 4+3+4 by omega];simpa [flatD] using d
theorem flatD_snoc:∀{L:List Dl} {V:List DV} (D:Dl) (v:DV),V.length=L.length->flatD (L++[D]) (V++[v])=flatD L V++[v.w,.int .i64 D.st,v.y,v.o]
 | [],[],_,_,_=>rfl
 | E :: r,u :: s,D,v,h=>by
   have h':s.length=r.length:=by simpa using h
   simp only [List.cons_append,flatD,flatD_snoc D v h']
theorem flatD_st:∀{L:List Dl} {V:List DV} {k:Nat} {D:Dl} (x:Int),V.length=L.length->L[k]?=some D->flatD (L.set k { D with st:=x }) V=(flatD L V).set (k * 4+1) (.int .i64 x)
 | E :: r,u :: s,0,D,x,_,h=>by
   obtain rfl:E=D:=by simpa using h
   rfl
 | E :: r,u :: s,k+1,D,x,hl,h=>by
   have:=flatD_st (L:=r) (V:=s) (k:=k) (D:=D) x (by simpa using hl) (by simpa using h)
   rw [show (k+1) * 4+1=k * 4+1+4 by omega]
   simp only [List.set_cons_succ,flatD,this]
theorem flatD_yes:∀{L:List Dl} {V:List DV} {k:Nat} {D:Dl} {v:DV} (l:List Int) (u:Value),V.length=L.length->L[k]?=some D->V[k]?=some v->flatD (L.set k { D with yes:=l }) (V.set k { v with y:=u })=(flatD L V).set (k * 4+2) u
 | E :: r,t :: s,0,D,v,l,u,_,h,h2=>by
   obtain rfl:E=D:=by simpa using h
   obtain rfl:t=v:=by simpa using h2
   rfl
 | E :: r,t :: s,k+1,D,v,l,u,hl,h,h2=>by
   have:=flatD_yes (L:=r) (V:=s) (k:=k) (D:=D) (v:=v) l u (by simpa using hl) (by simpa using h) (by simpa using h2)
   rw [show (k+1) * 4+2=k * 4+2+4 by omega]
   simp only [List.set_cons_succ,flatD,this]
theorem flatD_ov:∀{L:List Dl} {V:List DV} {k:Nat} {D:Dl} {v:DV} (l:List Int) (u:Value),V.length=L.length->L[k]?=some D->V[k]?=some v->flatD (L.set k { D with ov:=l }) (V.set k { v with o:=u })=(flatD L V).set (k * 4+3) u
 | E :: r,t :: s,0,D,v,l,u,_,h,h2=>by
   obtain rfl:E=D:=by simpa using h
   obtain rfl:t=v:=by simpa using h2
   rfl
 | E :: r,t :: s,k+1,D,v,l,u,hl,h,h2=>by
   have:=flatD_ov (L:=r) (V:=s) (k:=k) (D:=D) (v:=v) l u (by simpa using hl) (by simpa using h) (by simpa using h2)
   rw [show (k+1) * 4+3=k * 4+3+4 by omega]
   simp only [List.set_cons_succ,flatD,this]
theorem own_set {w:World} {B e s n g cap i:Nat} {xs:List Value} (h:w.ownsRow B e s (.slice (some ⟨g,0,none⟩) n cap) n xs) (hi:i<xs.length) (u:Value):(w.setCell ⟨g,i,none⟩ u).ownsRow B e s (.slice (some ⟨g,0,none⟩) n cap) n (xs.set i u):=by
 obtain ⟨hB,hr,hc,hm,hx⟩:=own_row h
 refine row_own (hr.setCell _ _) hB hc hm (by simpa using h.1) (fun j v hj=>?_)
 by_cases q:j=i
 ·subst q
  rw [List.getElem?_set_self hi] at hj
  obtain rfl:=Option.some.inj hj
  exact cell_set_same (hx j _ (List.getElem?_eq_getElem hi))
 ·rw [List.getElem?_set_ne (by omega)] at hj
  exact (cell_set_off q).trans (hx j v hj)
def ApartV (l:List Value):Prop:=l.Pairwise (fun u v=>∀k,u.ownBlock=some k->v.ownBlock ≠ some k)
structure BokRaw (tD tW tI:TypeId) (w:World) (q o:Nat) (B:Bok) (rv ov:Value) (V:List DV):Prop where
 len:V.length=B.L.length
 c0:w.cell? ⟨q,o,none⟩=some rv
 c1:w.cell? ⟨q,o+1,none⟩=some ov
 row:w.ownsRow (q+1) tD 4 rv B.L.length (flatD B.L V)
 ord:w.ownsRow (q+1) tI 1 ov B.ord.length (B.ord.map (Value.int .i64))
 deal:∀(k:Nat) (D:Dl) (v:DV),B.L[k]?=some D->V[k]?=some v->w.ownsRow (q+1) tW 2 v.w D.w.length (flat D.w)∧w.ownsRow (q+1) tI 1 v.y D.yes.length (D.yes.map (Value.int .i64))∧w.ownsRow (q+1) tI 1 v.o D.ov.length (D.ov.map (Value.int .i64))
 apart:ApartV (rv :: ov :: V.flatMap DV.all)
structure BokIn (tD tW tI:TypeId) (O:Nat->Prop) (w:World) (q o:Nat) (B:Bok):Prop where
 own:∀k,O k->k<w.heap.size
 mine:O q
 loose:∀k,w.frozen? ⟨q,k,none⟩=false
 raw:∃(rv ov:Value) (V:List DV),BokRaw tD tW tI w q o B rv ov V∧∀u∈rv :: ov :: V.flatMap DV.all,∀k,u.ownBlock=some k->O k
theorem BokIn.lt {tD tW tI:TypeId} {O:Nat->Prop} {w:World} {q o:Nat} {B:Bok} (h:BokIn tD tW tI O w q o B):q<w.heap.size:=h.own q h.mine
theorem mem_all {V:List DV} {k:Nat} {v:DV} (h:V[k]?=some v):v.w∈V.flatMap DV.all∧v.y∈V.flatMap DV.all∧v.o∈V.flatMap DV.all:=by
 have hm:=List.mem_of_getElem? h
 refine ⟨List.mem_flatMap.2 ⟨v,hm,?_⟩,List.mem_flatMap.2 ⟨v,hm,?_⟩,List.mem_flatMap.2 ⟨v,hm,?_⟩⟩ <;> simp [DV.all]
theorem BokRaw.save {tD tW tI:TypeId} {O':Nat->Prop} {w w1:World} {q o:Nat} {B:Bok} {rv ov:Value} {V:List DV} (h:BokRaw tD tW tI w q o B rv ov V) (hl:q<w.heap.size) (hb:Save O' w w1) (hq:¬O' q) (out:∀u∈rv :: ov :: V.flatMap DV.all,∀k,u.ownBlock=some k->¬O' k):BokRaw tD tW tI w1 q o B rv ov V:=by
 refine ⟨h.len,(hb.cell (p:=⟨q,o,none⟩) hl hq).trans h.c0,(hb.cell (p:=⟨q,o+1,none⟩) hl hq).trans h.c1,own_save h.row hb (out rv (by simp)),own_save h.ord hb (out ov (by simp)),fun k D v hD hv=>?_,h.apart⟩
 obtain ⟨a,b,c⟩:=h.deal k D v hD hv
 obtain ⟨m1,m2,m3⟩:=mem_all hv
 exact ⟨own_save a hb (out _ (by simp [m1])),own_save b hb (out _ (by simp [m2])),own_save c hb (out _ (by simp [m3]))⟩
theorem BokIn.save {tD tW tI:TypeId} {O O':Nat->Prop} {w w1:World} {q o:Nat} {B:Bok} (h:BokIn tD tW tI O w q o B) (hb:Save O' w w1) (hn:∀k,O k->¬O' k):BokIn tD tW tI O w1 q o B:=by
 obtain ⟨rv,ov,V,h1,h7⟩:=h.raw
 have hl:=h.lt
 have hq:=hn q h.mine
 exact ⟨fun k hk=>Nat.lt_of_lt_of_le (h.own k hk) hb.size,h.mine,fun k=>(hb.frozen (p:=⟨q,k,none⟩) hl hq).trans (h.loose k),rv,ov,V,h1.save hl hb hq (fun u hu k hk=>hn k (h7 u hu k hk)),h7⟩
theorem BokIn.next {tD tW tI:TypeId} {O:Nat->Prop} {w w1:World} {q o:Nat} {B:Bok} (h:BokIn tD tW tI O w q o B) (hb:Below w.heap.size w w1):BokIn tD tW tI O w1 q o B:=
 h.save (O':=fun _=>False) (.of_below hb) (fun _ _ q=>q)
theorem all_y:∀{V:List DV} {k:Nat} {v:DV} (u:Value),V[k]?=some v->(V.set k { v with y:=u }).flatMap DV.all=(V.flatMap DV.all).set (k * 3+1) u∧(V.flatMap DV.all)[k * 3+1]?=some v.y
 | t :: s,0,v,u,h=>by
   obtain rfl:t=v:=by simpa using h
   exact ⟨rfl,rfl⟩
 | t :: s,k+1,v,u,h=>by
   obtain ⟨a,b⟩:=all_y (V:=s) (k:=k) u (by simpa using h)
   rw [show (k+1) * 3+1=k * 3+1+3 by omega]
   refine ⟨?_,?_⟩
   ·simp only [List.set_cons_succ,List.flatMap_cons,a,DV.all,List.cons_append,List.nil_append]
   ·simpa [DV.all] using b
theorem all_o:∀{V:List DV} {k:Nat} {v:DV} (u:Value),V[k]?=some v->(V.set k { v with o:=u }).flatMap DV.all=(V.flatMap DV.all).set (k * 3+2) u∧(V.flatMap DV.all)[k * 3+2]?=some v.o
 | t :: s,0,v,u,h=>by
   obtain rfl:t=v:=by simpa using h
   exact ⟨rfl,rfl⟩
 | t :: s,k+1,v,u,h=>by
   obtain ⟨a,b⟩:=all_o (V:=s) (k:=k) u (by simpa using h)
   rw [show (k+1) * 3+2=k * 3+2+3 by omega]
   refine ⟨?_,?_⟩
   ·simp only [List.set_cons_succ,List.flatMap_cons,a,DV.all,List.cons_append,List.nil_append]
   ·simpa [DV.all] using b
theorem apart_set {l:List Value} {i:Nat} {u u':Value} (h:ApartV l) (hi:l[i]?=some u) (hu:∀k,u'.ownBlock=some k->u.ownBlock=some k∨∀v∈l,v.ownBlock ≠ some k):ApartV (l.set i u'):=by
 obtain ⟨hi',rfl⟩:=List.getElem?_eq_some_iff.1 hi
 unfold ApartV
 rw [List.pairwise_iff_getElem]
 intro a b ha hb hab k h1 h2
 have ha':a<l.length:=by simpa using ha
 have hb':b<l.length:=by simpa using hb
 have hp:=List.pairwise_iff_getElem.1 h
 rw [List.getElem_set] at h1 h2
 by_cases ea:i=a
 ·rw [if_pos ea] at h1
  rw [if_neg (by omega)] at h2
  rcases hu k h1 with q | q
  ·subst ea
   exact hp i b hi' hb' hab k q h2
  ·exact q _ (List.getElem_mem hb') h2
 ·rw [if_neg ea] at h1
  by_cases eb:i=b
  ·rw [if_pos eb] at h2
   rcases hu k h2 with q | q
   ·subst eb
    exact hp a i ha' hi' hab k h1 q
   ·exact q _ (List.getElem_mem ha') h1
  ·rw [if_neg eb] at h2
   exact hp a b ha' hb' hab k h1 h2
theorem apart_more {l m:List Value} (h:ApartV l) (hm:ApartV m) (hn:∀u∈m,∀k,u.ownBlock=some k->∀v∈l,v.ownBlock ≠ some k):ApartV (l++m):=
 List.pairwise_append.2 ⟨h,hm,fun v hv u hu k h1 h2=>hn u hu k h2 v hv h1⟩
theorem apart_at {l:List Value} {i j:Nat} {u v:Value} (h:ApartV l) (hi:l[i]?=some u) (hj:l[j]?=some v) (hij:i ≠ j):∀k,u.ownBlock=some k->v.ownBlock ≠ some k:=by
 obtain ⟨hi',rfl⟩:=List.getElem?_eq_some_iff.1 hi
 obtain ⟨hj',rfl⟩:=List.getElem?_eq_some_iff.1 hj
 have hp:=List.pairwise_iff_getElem.1 h
 intro k h1 h2
 rcases Nat.lt_or_gt_of_ne hij with q | q
 ·exact hp i j hi' hj' q k h1 h2
 ·exact hp j i hj' hi' q k h2 h1
theorem all_w:∀{V:List DV} {k:Nat} {v:DV},V[k]?=some v->(V.flatMap DV.all)[k * 3]?=some v.w
 | t :: s,0,v,h=>by
   obtain rfl:t=v:=by simpa using h
   rfl
 | t :: s,k+1,v,h=>by
   have:=all_w (V:=s) (k:=k) (v:=v) (by simpa using h)
   rw [show (k+1) * 3=k * 3+3 by omega]
   simpa [DV.all] using this
theorem at_w {rv ov:Value} {V:List DV} {k:Nat} {v:DV} (h:V[k]?=some v):(rv :: ov :: V.flatMap DV.all)[k * 3+2]?=some v.w:=by
 simpa using all_w h
theorem at_y {rv ov:Value} {V:List DV} {k:Nat} {v:DV} (h:V[k]?=some v):(rv :: ov :: V.flatMap DV.all)[k * 3+1+2]?=some v.y:=by
 simpa using (all_y v.y h).2
theorem at_o {rv ov:Value} {V:List DV} {k:Nat} {v:DV} (h:V[k]?=some v):(rv :: ov :: V.flatMap DV.all)[k * 3+2+2]?=some v.o:=by
 simpa using (all_o v.o h).2
theorem BokRaw.other {tD tW tI:TypeId} {w:World} {q o g n cap:Nat} {B:Bok} {ov:Value} {V:List DV} (h:BokRaw tD tW tI w q o B (.slice (some ⟨g,0,none⟩) n cap) ov V):∀u∈ov :: V.flatMap DV.all,∀k,u.ownBlock=some k->k ≠ g:=by
 intro u hu k hk e
 have h1:=(List.pairwise_cons.1 h.apart).1 u hu g rfl
 exact h1 (by rw [hk,e])
theorem BokRaw.st {tD tW tI:TypeId} {w:World} {q o g n cap k:Nat} {B:Bok} {ov:Value} {V:List DV} {D:Dl} (h:BokRaw tD tW tI w q o B (.slice (some ⟨g,0,none⟩) n cap) ov V) (hl:q<w.heap.size) (hk:B.L[k]?=some D) (x:Int):BokRaw tD tW tI (w.setCell ⟨g,k * 4+1,none⟩ (.int .i64 x)) q o (putD B (k:Int) { D with st:=x }) (.slice (some ⟨g,0,none⟩) n cap) ov V:=by
 have hn:B.L.length=n:=by
  rcases h.row.2 with ⟨e1,e0⟩ | ⟨g',cap',cur,e1,_⟩
  ·cases e1
  ·simp only [Value.slice.injEq] at e1;omega
 subst hn
 obtain ⟨hB,_⟩:=own_row h.row
 have hkl:=(List.getElem?_eq_some_iff.1 hk).1
 have hS:Save (fun b=>b=g) w (w.setCell ⟨g,k * 4+1,none⟩ (.int .i64 x)):=Save.setCell (O:=fun b=>b=g) (Save.refl _ _) (p:=⟨g,k * 4+1,none⟩) (fun _=>rfl) _
 have hq:¬q=g:=by omega
 have out:=h.other
 have e1:(putD B (k:Int) { D with st:=x }).L=B.L.set k { D with st:=x }:=by simp [putD]
 refine ⟨by rw [put_len];exact h.len,(hS.cell (p:=⟨q,o,none⟩) hl hq).trans h.c0,(hS.cell (p:=⟨q,o+1,none⟩) hl hq).trans h.c1,?_,own_save h.ord hS (fun j hj=>out _ (by simp) j hj),fun j E v hE hv=>?_,h.apart⟩
 ·rw [e1,List.length_set,flatD_st x h.len hk]
  exact own_set h.row (by rw [flatD_length h.len];omega) _
 ·have hE':∃E',B.L[j]?=some E'∧E.w=E'.w∧E.yes=E'.yes∧E.ov=E'.ov:=by
   rw [e1] at hE
   by_cases ej:k=j
   ·subst ej
    rw [List.getElem?_set_self hkl] at hE
    obtain rfl:=Option.some.inj hE
    exact ⟨D,hk,rfl,rfl,rfl⟩
   ·rw [List.getElem?_set_ne ej] at hE
    exact ⟨E,hE,rfl,rfl,rfl⟩
  obtain ⟨E',hE',q1,q2,q3⟩:=hE'
  obtain ⟨a,b,c⟩:=h.deal j E' v hE' hv
  obtain ⟨m1,m2,m3⟩:=mem_all hv
  rw [q1,q2,q3]
  exact ⟨own_save a hS (out _ (by simp [m1])),own_save b hS (out _ (by simp [m2])),own_save c hS (out _ (by simp [m3]))⟩
theorem BokRaw.yes {tD tW tI:TypeId} {w w8:World} {q o g n cap k:Nat} {B:Bok} {ov v8:Value} {V:List DV} {D:Dl} {v:DV} {l:List Int} (h:BokRaw tD tW tI w q o B (.slice (some ⟨g,0,none⟩) n cap) ov V) (hl:q<w.heap.size) (hall:∀u∈(.slice (some ⟨g,0,none⟩) n cap:Value) :: ov :: V.flatMap DV.all,∀j,u.ownBlock=some j->j<w.heap.size) (hk:B.L[k]?=some D) (hv:V[k]?=some v)
 (h8:Save (fun b=>v.y.ownBlock=some b) w w8) (hr8:w8.ownsRow (q+1) tI 1 v8 l.length (l.map (Value.int .i64))) (hw8:∀j,v8.ownBlock=some j->v.y.ownBlock=some j∨w.heap.size<=j):
 BokRaw tD tW tI (w8.setCell ⟨g,k * 4+2,none⟩ v8) q o (putD B (k:Int) { D with yes:=l }) (.slice (some ⟨g,0,none⟩) n cap) ov (V.set k { v with y:=v8 }):=by
 have hn:B.L.length=n:=by
  rcases h.row.2 with ⟨e1,e0⟩ | ⟨g',cap',cur,e1,_⟩
  ·cases e1
  ·simp only [Value.slice.injEq] at e1;omega
 subst hn
 obtain ⟨hB,_⟩:=own_row h.row
 have hkl:=(List.getElem?_eq_some_iff.1 hk).1
 have hvl:=(List.getElem?_eq_some_iff.1 hv).1
 have hS:Save (fun b=>b=g) w8 (w8.setCell ⟨g,k * 4+2,none⟩ v8):=Save.setCell (O:=fun b=>b=g) (Save.refl _ _) (p:=⟨g,k * 4+2,none⟩) (fun _=>rfl) _
 have hq:¬q=g:=by omega
 have out:=h.other
 have hvy:=(mem_all hv).2.1
 have hgl:g<w.heap.size:=hall (.slice (some ⟨g,0,none⟩) B.L.length cap) List.mem_cons_self g rfl
 have hqy:¬v.y.ownBlock=some q:=fun e=>by
  have hr:=(h.deal k D v hk hv).2.1
  have:=(hr.lt q e).1
  omega
 have hgy:¬v.y.ownBlock=some g:=fun e=>out v.y (by simp [hvy]) g e rfl
 have hl8:q<w8.heap.size:=Nat.lt_of_lt_of_le hl h8.size
 have h8g:v8.ownBlock ≠ some g:=fun e=>(hw8 g e).elim hgy (fun q=>by omega)
 have e1:(putD B (k:Int) { D with yes:=l }).L=B.L.set k { D with yes:=l }:=by simp [putD]
 have far:∀{i:Nat} {u:Value},((.slice (some ⟨g,0,none⟩) B.L.length cap:Value) :: ov :: V.flatMap DV.all)[i]?=some u->i ≠ k * 3+1+2->∀j,u.ownBlock=some j->¬v.y.ownBlock=some j:=fun {i u} hi hne j h1 h2=>apart_at h.apart hi (at_y hv) hne j h1 h2
 refine ⟨by rw [put_len,List.length_set];exact h.len,(hS.cell (p:=⟨q,o,none⟩) hl8 hq).trans ((h8.cell (p:=⟨q,o,none⟩) hl hqy).trans h.c0),(hS.cell (p:=⟨q,o+1,none⟩) hl8 hq).trans ((h8.cell (p:=⟨q,o+1,none⟩) hl hqy).trans h.c1),?_,own_save (own_save h.ord h8 (fun j hj=>far (i:=1) rfl (by omega) j hj)) hS (fun j hj=>out _ (by simp) j hj),fun j E u hE hu=>?_,?_⟩
 ·rw [e1,List.length_set,flatD_yes l v8 h.len hk hv]
  exact own_set (own_save h.row h8 (fun j hj=>far (i:=0) rfl (by omega) j hj)) (by rw [flatD_length h.len];omega) _
 ·rw [e1] at hE
  by_cases ej:k=j
  ·subst ej
   rw [List.getElem?_set_self hkl] at hE
   rw [List.getElem?_set_self hvl] at hu
   obtain rfl:=Option.some.inj hE
   obtain rfl:=Option.some.inj hu
   obtain ⟨a,b,c⟩:=h.deal k D v hk hv
   obtain ⟨m1,m2,m3⟩:=mem_all hv
   refine ⟨own_save (own_save a h8 (fun i hi=>far (at_w hv) (by omega) i hi)) hS (out _ (by simp [m1])),own_save hr8 hS (fun i hi e=>h8g (by rw [hi,e])),own_save (own_save c h8 (fun i hi=>far (at_o hv) (by omega) i hi)) hS (out _ (by simp [m3]))⟩
  ·rw [List.getElem?_set_ne ej] at hE hu
   obtain ⟨a,b,c⟩:=h.deal j E u hE hu
   obtain ⟨m1,m2,m3⟩:=mem_all hu
   exact ⟨own_save (own_save a h8 (fun i hi=>far (at_w hu) (by omega) i hi)) hS (out _ (by simp [m1])),own_save (own_save b h8 (fun i hi=>far (at_y hu) (by omega) i hi)) hS (out _ (by simp [m2])),own_save (own_save c h8 (fun i hi=>far (at_o hu) (by omega) i hi)) hS (out _ (by simp [m3]))⟩
 ·have e2:=(all_y v8 hv).1
  show ApartV (_ :: ov :: (V.set k { v with y:=v8 }).flatMap DV.all)
  rw [e2]
  have:=apart_set h.apart (at_y hv) (u':=v8) (fun j hj=>(hw8 j hj).imp id (fun q u hu e=>by have:=hall u hu j e;omega))
  simpa using this
theorem BokRaw.ov' {tD tW tI:TypeId} {w w8:World} {q o g n cap k:Nat} {B:Bok} {ov v8:Value} {V:List DV} {D:Dl} {v:DV} {l:List Int} (h:BokRaw tD tW tI w q o B (.slice (some ⟨g,0,none⟩) n cap) ov V) (hl:q<w.heap.size) (hall:∀u∈(.slice (some ⟨g,0,none⟩) n cap:Value) :: ov :: V.flatMap DV.all,∀j,u.ownBlock=some j->j<w.heap.size) (hk:B.L[k]?=some D) (hv:V[k]?=some v)
 (h8:Save (fun b=>v.o.ownBlock=some b) w w8) (hr8:w8.ownsRow (q+1) tI 1 v8 l.length (l.map (Value.int .i64))) (hw8:∀j,v8.ownBlock=some j->v.o.ownBlock=some j∨w.heap.size<=j):
 BokRaw tD tW tI (w8.setCell ⟨g,k * 4+3,none⟩ v8) q o (putD B (k:Int) { D with ov:=l }) (.slice (some ⟨g,0,none⟩) n cap) ov (V.set k { v with o:=v8 }):=by
 have hn:B.L.length=n:=by
  rcases h.row.2 with ⟨e1,e0⟩ | ⟨g',cap',cur,e1,_⟩
  ·cases e1
  ·simp only [Value.slice.injEq] at e1;omega
 subst hn
 obtain ⟨hB,_⟩:=own_row h.row
 have hkl:=(List.getElem?_eq_some_iff.1 hk).1
 have hvl:=(List.getElem?_eq_some_iff.1 hv).1
 have hS:Save (fun b=>b=g) w8 (w8.setCell ⟨g,k * 4+3,none⟩ v8):=Save.setCell (O:=fun b=>b=g) (Save.refl _ _) (p:=⟨g,k * 4+3,none⟩) (fun _=>rfl) _
 have hq:¬q=g:=by omega
 have out:=h.other
 have hvy:=(mem_all hv).2.2
 have hgl:g<w.heap.size:=hall (.slice (some ⟨g,0,none⟩) B.L.length cap) List.mem_cons_self g rfl
 have hqy:¬v.o.ownBlock=some q:=fun e=>by
  have hr:=(h.deal k D v hk hv).2.2
  have:=(hr.lt q e).1
  omega
 have hgy:¬v.o.ownBlock=some g:=fun e=>out v.o (by simp [hvy]) g e rfl
 have hl8:q<w8.heap.size:=Nat.lt_of_lt_of_le hl h8.size
 have h8g:v8.ownBlock ≠ some g:=fun e=>(hw8 g e).elim hgy (fun q=>by omega)
 have e1:(putD B (k:Int) { D with ov:=l }).L=B.L.set k { D with ov:=l }:=by simp [putD]
 have far:∀{i:Nat} {u:Value},((.slice (some ⟨g,0,none⟩) B.L.length cap:Value) :: ov :: V.flatMap DV.all)[i]?=some u->i ≠ k * 3+2+2->∀j,u.ownBlock=some j->¬v.o.ownBlock=some j:=fun {i u} hi hne j h1 h2=>apart_at h.apart hi (at_o hv) hne j h1 h2
 refine ⟨by rw [put_len,List.length_set];exact h.len,(hS.cell (p:=⟨q,o,none⟩) hl8 hq).trans ((h8.cell (p:=⟨q,o,none⟩) hl hqy).trans h.c0),(hS.cell (p:=⟨q,o+1,none⟩) hl8 hq).trans ((h8.cell (p:=⟨q,o+1,none⟩) hl hqy).trans h.c1),?_,own_save (own_save h.ord h8 (fun j hj=>far (i:=1) rfl (by omega) j hj)) hS (fun j hj=>out _ (by simp) j hj),fun j E u hE hu=>?_,?_⟩
 ·rw [e1,List.length_set,flatD_ov l v8 h.len hk hv]
  exact own_set (own_save h.row h8 (fun j hj=>far (i:=0) rfl (by omega) j hj)) (by rw [flatD_length h.len];omega) _
 ·rw [e1] at hE
  by_cases ej:k=j
  ·subst ej
   rw [List.getElem?_set_self hkl] at hE
   rw [List.getElem?_set_self hvl] at hu
   obtain rfl:=Option.some.inj hE
   obtain rfl:=Option.some.inj hu
   obtain ⟨a,b,c⟩:=h.deal k D v hk hv
   obtain ⟨m1,m2,m3⟩:=mem_all hv
   refine ⟨own_save (own_save a h8 (fun i hi=>far (at_w hv) (by omega) i hi)) hS (out _ (by simp [m1])),own_save (own_save b h8 (fun i hi=>far (at_y hv) (by omega) i hi)) hS (out _ (by simp [m2])),own_save hr8 hS (fun i hi e=>h8g (by rw [hi,e]))⟩
  ·rw [List.getElem?_set_ne ej] at hE hu
   obtain ⟨a,b,c⟩:=h.deal j E u hE hu
   obtain ⟨m1,m2,m3⟩:=mem_all hu
   exact ⟨own_save (own_save a h8 (fun i hi=>far (at_w hu) (by omega) i hi)) hS (out _ (by simp [m1])),own_save (own_save b h8 (fun i hi=>far (at_y hu) (by omega) i hi)) hS (out _ (by simp [m2])),own_save (own_save c h8 (fun i hi=>far (at_o hu) (by omega) i hi)) hS (out _ (by simp [m3]))⟩
 ·have e2:=(all_o v8 hv).1
  show ApartV (_ :: ov :: (V.set k { v with o:=v8 }).flatMap DV.all)
  rw [e2]
  have:=apart_set h.apart (at_o hv) (u':=v8) (fun j hj=>(hw8 j hj).imp id (fun q u hu e=>by have:=hall u hu j e;omega))
  simpa using this
theorem BokRaw.ordr {tD tW tI:TypeId} {w w8:World} {q o:Nat} {B:Bok} {rv ov v8:Value} {V:List DV} {l:List Int} (h:BokRaw tD tW tI w q o B rv ov V) (hl:q<w.heap.size) (hall:∀u∈rv :: ov :: V.flatMap DV.all,∀j,u.ownBlock=some j->j<w.heap.size)
 (h8:Save (fun b=>ov.ownBlock=some b) w w8) (hr8:w8.ownsRow (q+1) tI 1 v8 l.length (l.map (Value.int .i64))) (hw8:∀j,v8.ownBlock=some j->ov.ownBlock=some j∨w.heap.size<=j):
 BokRaw tD tW tI (w8.setCell ⟨q,o+1,none⟩ v8) q o { B with ord:=l } rv v8 V:=by
 have hqo:¬ov.ownBlock=some q:=fun e=>by
  have:=(h.ord.lt q e).1
  omega
 have far:∀{i:Nat} {u:Value},(rv :: ov :: V.flatMap DV.all)[i]?=some u->i ≠ 1->∀j,u.ownBlock=some j->¬ov.ownBlock=some j:=fun {i u} hi hne j h1 h2=>apart_at h.apart hi (show (rv :: ov :: V.flatMap DV.all)[1]?=some ov from rfl) hne j h1 h2
 have bq:∀{e s:Nat} {u:Value} {m:Nat} {xs:List Value},w8.ownsRow (q+1) e s u m xs->(w8.setCell ⟨q,o+1,none⟩ v8).ownsRow (q+1) e s u m xs:=fun hr=>ownsRow_setCell_below hr (Nat.lt_succ_self q) _
 refine ⟨h.len,(cell_set_off (by omega)).trans ((h8.cell (p:=⟨q,o,none⟩) hl hqo).trans h.c0),cell_set_same ((h8.cell (p:=⟨q,o+1,none⟩) hl hqo).trans h.c1),bq (own_save h.row h8 (fun j hj=>far (i:=0) rfl (by omega) j hj)),bq hr8,fun j E u hE hu=>?_,?_⟩
 ·obtain ⟨a,b,c⟩:=h.deal j E u hE hu
  exact ⟨bq (own_save a h8 (fun i hi=>far (at_w hu) (by omega) i hi)),bq (own_save b h8 (fun i hi=>far (at_y hu) (by omega) i hi)),bq (own_save c h8 (fun i hi=>far (at_o hu) (by omega) i hi))⟩
 ·exact apart_set h.apart (show (rv :: ov :: V.flatMap DV.all)[1]?=some ov from rfl) (u':=v8) (fun j hj=>(hw8 j hj).imp id (fun q u hu e=>by have:=hall u hu j e;omega))
theorem BokRaw.begin {tD tW tI:TypeId} {w w7 w8:World} {q o:Nat} {B:Bok} {rv ov v7 v8:Value} {V:List DV} {l:List (Int × Int)} (h:BokRaw tD tW tI w q o B rv ov V) (hl:q<w.heap.size) (hall:∀u∈rv :: ov :: V.flatMap DV.all,∀j,u.ownBlock=some j->j<w.heap.size)
 (h7:Below w.heap.size w w7) (hr7:w7.ownsRow (q+1) tW 2 v7 l.length (flat l)) (hw7:∀j,v7.ownBlock=some j->w.heap.size<=j∧j<w7.heap.size)
 (h8:Save (fun b=>rv.ownBlock=some b) w7 w8) (hr8:w8.ownsRow (q+1) tD 4 v8 (B.L.length+1) (flatD B.L V++[v7,.int .i64 0,.slice none 0 0,.slice none 0 0])) (hw8:∀j,v8.ownBlock=some j->rv.ownBlock=some j∨w7.heap.size<=j):
 BokRaw tD tW tI (w8.setCell ⟨q,o,none⟩ v8) q o { B with L:=B.L++[⟨l,0,[],[]⟩] } v8 ov (V++[⟨v7,.slice none 0 0,.slice none 0 0⟩]):=by
 have hq7:q<w7.heap.size:=Nat.lt_of_lt_of_le hl h7.size
 have hqr:¬rv.ownBlock=some q:=fun e=>by
  have:=(h.row.lt q e).1
  omega
 have hc:∀j,(w8.cell? ⟨q,j,none⟩)=w.cell? ⟨q,j,none⟩:=fun j=>(h8.cell (p:=⟨q,j,none⟩) hq7 hqr).trans (h7.cell (p:=⟨q,j,none⟩) hl)
 have far:∀{i:Nat} {u:Value},(rv :: ov :: V.flatMap DV.all)[i]?=some u->i ≠ 0->∀j,u.ownBlock=some j->¬rv.ownBlock=some j:=fun {i u} hi hne j h1 h2=>apart_at h.apart hi (show (rv :: ov :: V.flatMap DV.all)[0]?=some rv from rfl) hne j h1 h2
 have bq:∀{e s:Nat} {u:Value} {m:Nat} {xs:List Value},w8.ownsRow (q+1) e s u m xs->(w8.setCell ⟨q,o,none⟩ v8).ownsRow (q+1) e s u m xs:=fun hr=>ownsRow_setCell_below hr (Nat.lt_succ_self q) _
 have up:∀{e s:Nat} {u:Value} {m:Nat} {xs:List Value},w.ownsRow (q+1) e s u m xs->(∀j,u.ownBlock=some j->¬rv.ownBlock=some j)->(w8.setCell ⟨q,o,none⟩ v8).ownsRow (q+1) e s u m xs:=fun hr hf=>bq (own_save (own_next hr h7) h8 hf)
 have nn:∀k,¬(Value.slice none 0 0).ownBlock=some k:=fun k e=>by simp [Value.ownBlock] at e
 refine ⟨by simpa using h.len,cell_set_same ((hc o).trans h.c0),(cell_set_off (by omega)).trans ((hc (o+1)).trans h.c1),?_,up h.ord (fun j hj=>far (i:=1) rfl (by omega) j hj),fun j E u hE hu=>?_,?_⟩
 ·show World.ownsRow _ _ _ _ _ (B.L++[_]).length (flatD (B.L++[⟨l,0,[],[]⟩]) (V++[⟨v7,.slice none 0 0,.slice none 0 0⟩]))
  rw [flatD_snoc _ _ h.len,List.length_append]
  exact bq hr8
 ·have hE':(B.L++[(⟨l,0,[],[]⟩:Dl)])[j]?=some E:=hE
  by_cases hj:j<B.L.length
  ·rw [List.getElem?_append_left hj] at hE'
   rw [List.getElem?_append_left (by rw [h.len];exact hj)] at hu
   obtain ⟨a,b,c⟩:=h.deal j E u hE' hu
   exact ⟨up a (fun i hi=>far (at_w hu) (by omega) i hi),up b (fun i hi=>far (at_y hu) (by omega) i hi),up c (fun i hi=>far (at_o hu) (by omega) i hi)⟩
  ·have hj':=(List.getElem?_eq_some_iff.1 hE').1
   simp at hj'
   have ej:j=B.L.length:=by omega
   subst ej
   simp at hE'
   rw [<-h.len] at hu
   simp at hu
   subst hE'
   subst hu
   refine ⟨bq (own_save hr7 h8 (fun j hj e=>?_)),World.ownsRow_nil _ _ _ _,World.ownsRow_nil _ _ _ _⟩
   have h1:=hw7 j hj
   have h2:=hall rv (by simp) j e
   omega
 ·have hfl:(V++[(⟨v7,.slice none 0 0,.slice none 0 0⟩:DV)]).flatMap DV.all=V.flatMap DV.all++[v7,.slice none 0 0,.slice none 0 0]:=by simp [DV.all]
  rw [hfl]
  have h1:ApartV ((rv :: ov :: V.flatMap DV.all)++[v7,.slice none 0 0,.slice none 0 0]):=by
   refine apart_more h.apart ?_ ?_
   ·refine List.pairwise_cons.2 ⟨fun u hu k _ e=>?_,List.pairwise_cons.2 ⟨fun u _ k e _=>nn k e,List.pairwise_singleton _ _⟩⟩
    simp at hu
    rw [hu] at e
    exact nn k e
   ·intro u hu k hk x hx e
    simp at hu
    rcases hu with rfl | rfl
    ·have h1:=hw7 k hk
     have h2:=hall x hx k e
     omega
    ·exact nn k hk
  have h2:=apart_set (l:=(rv :: ov :: V.flatMap DV.all)++[v7,.slice none 0 0,.slice none 0 0]) (i:=0) (u:=rv) (u':=v8) h1 rfl (fun j hj=>(hw8 j hj).imp id (fun q x hx e=>by
   rcases List.mem_append.1 hx with z | z
   ·have:=hall x z j e
    have:=h7.size
    omega
   ·simp at z
    rcases z with rfl | rfl
    ·have:=hw7 j e;omega
    ·exact nn j e))
  simpa using h2
def Rest2 (q o:Nat) (w w':World):Prop:=∀j,j ≠ o->j ≠ o+1->w'.cell? ⟨q,j,none⟩=w.cell? ⟨q,j,none⟩
def BokTo (tD tW tI:TypeId) (O:Nat->Prop) (w w':World) (q o:Nat) (B':Bok):Prop:=∃O',BokIn tD tW tI O' w' q o B'∧Save O w w'∧Moved O O' w∧Rest2 q o w w'
theorem BokTo.stay {tD tW tI:TypeId} {O:Nat->Prop} {w w':World} {q o:Nat} {B:Bok} (h:BokIn tD tW tI O w q o B) (hb:Below w.heap.size w w'):BokTo tD tW tI O w w' q o B:=
 ⟨O,h.next hb,.of_below hb,.refl _ _,fun j _ _=>hb.cell (p:=⟨q,j,none⟩) h.lt⟩
theorem bok_to {tD tW tI:TypeId} {O:Nat->Prop} {w w9:World} {q o:Nat} {B':Bok} {rv ov:Value} {V:List DV} (hO:∀k,O k->k<w.heap.size) (hm:O q) (hS:Save O w w9) (hR:BokRaw tD tW tI w9 q o B' rv ov V) (hf:∀k,w9.frozen? ⟨q,k,none⟩=false) (hrow:∀u∈rv :: ov :: V.flatMap DV.all,∀k,u.ownBlock=some k->(O k∨w.heap.size<=k)∧k<w9.heap.size) (h2:Rest2 q o w w9):BokTo tD tW tI O w w9 q o B':=by
 refine ⟨fun k=>O k∨∃u∈rv :: ov :: V.flatMap DV.all,u.ownBlock=some k,⟨fun k hk=>?_,.inl hm,hf,rv,ov,V,hR,fun u hu k hk=>.inr ⟨u,hu,hk⟩⟩,hS,fun k hk=>?_,h2⟩
 ·rcases hk with hk | ⟨u,hu,hk⟩
  ·exact Nat.lt_of_lt_of_le (hO k hk) hS.size
  ·exact (hrow u hu k hk).2
 ·rcases hk with hk | ⟨u,hu,hk⟩
  ·exact .inl hk
  ·exact (hrow u hu k hk).1
structure BInv (B:Bok):Prop where
 len:B.L.length<=8
 fit:∀D∈B.L,Fit D.w
 st:∀D∈B.L,D.st=0∨D.st=1∨D.st=2
 nd:B.ord.Nodup
 ord:∀n,n∈B.ord ↔ ∃D,dealAt B n=some D∧D.st=1
 ynd:∀D∈B.L,D.yes.Nodup
 yin:∀D∈B.L,∀i∈D.yes,0<=i∧i<(D.w.length:Int)
 ond:∀D∈B.L,D.ov.Nodup
 oin:∀D∈B.L,∀s∈D.ov,s∈shopsL D.w
theorem binv_new:BInv ⟨[],[]⟩:=⟨by simp,by simp,by simp,by simp,fun n=>⟨fun h=>by simp at h,fun ⟨D,h,_⟩=>by have:=dealAt_mem h;simp at this⟩,by simp,by simp,by simp,by simp⟩
theorem mem_set {α:Type} {l:List α} {k:Nat} {x y:α} (h:y∈l.set k x):y=x∨y∈l:=by
 rcases List.mem_or_eq_of_mem_set h with h | h
 ·exact .inr h
 ·exact .inl h
theorem BInv.put {B:Bok} (h:BInv B) {n:Int} {D D':Dl} (hd:dealAt B n=some D) (hw:D'.w=D.w) (hs:D'.st=0∨D'.st=1∨D'.st=2) (h1:D'.st=1 ↔ D.st=1) (hy:D'.yes.Nodup) (hyi:∀i∈D'.yes,0<=i∧i<(D.w.length:Int)) (ho:D'.ov.Nodup) (hoi:∀s∈D'.ov,s∈shopsL D.w):BInv (putD B n D'):=by
 have hm:=dealAt_mem hd
 have each:∀{P:Dl->Prop},P D'->(∀E∈B.L,P E)->∀E∈(putD B n D').L,P E:=fun {P} p0 p1 E hE=>by
  rcases mem_set hE with rfl | q
  ·exact p0
  ·exact p1 E q
 refine ⟨by rw [put_len];exact h.len,each (P:=fun E=>Fit E.w) (by rw [hw];exact h.fit D hm) h.fit,each hs h.st,h.nd,fun j=>?_,each hy h.ynd,each (P:=fun E=>∀i∈E.yes,0<=i∧i<(E.w.length:Int)) (by rw [hw];exact hyi) h.yin,each ho h.ond,each (P:=fun E=>∀s∈E.ov,s∈shopsL E.w) (by rw [hw];exact hoi) h.oin⟩
 rw [put_ord,h.ord]
 constructor
 ·rintro ⟨E,hE,he⟩
  rw [dealAt_put hd]
  by_cases e:j=n
  ·subst e
   rw [hd] at hE
   obtain rfl:=Option.some.inj hE
   exact ⟨D',by rw [if_pos rfl],h1.2 he⟩
  ·exact ⟨E,by rw [if_neg e];exact hE,he⟩
 ·rintro ⟨E,hE,he⟩
  rw [dealAt_put hd] at hE
  by_cases e:j=n
  ·subst e
   rw [if_pos rfl] at hE
   obtain rfl:=Option.some.inj hE
   exact ⟨D,hd,h1.1 he⟩
  ·rw [if_neg e] at hE
   exact ⟨E,hE,he⟩
theorem dealAt_more {B:Bok} {D:Dl} (j:Int):dealAt { B with L:=B.L++[D] } j=if j=(B.L.length:Int) then some D else dealAt B j:=by
 unfold dealAt
 by_cases hj:j<0
 ·rw [if_pos hj,if_neg (by omega),if_pos hj]
 ·rw [if_neg hj,if_neg hj]
  by_cases e:j=(B.L.length:Int)
  ·subst e
   rw [if_pos rfl]
   simp
  ·rw [if_neg e]
   by_cases hl:j.toNat<B.L.length
   ·simp [List.getElem?_append_left hl]
   ·have h1:(B.L++[D])[j.toNat]?=none:=List.getElem?_eq_none (by simp;omega)
    have h2:B.L[j.toNat]?=none:=List.getElem?_eq_none (by omega)
    simp only [h1,h2]
theorem BInv.begin {B:Bok} (h:BInv B) (l:List (Int × Int)):BInv (beginR B l).2.2:=by
 unfold beginR
 split
 ·rename_i hc
  split
  ·exact h
  ·rename_i h8
   have each:∀{P:Dl->Prop},P ⟨l,0,[],[]⟩->(∀E∈B.L,P E)->∀E∈B.L++[⟨l,0,[],[]⟩],P E:=fun {P} p0 p1 E hE=>by
    rcases List.mem_append.1 hE with q | q
    ·exact p1 E q
    ·rw [List.mem_singleton.1 q];exact p0
   refine ⟨?_,each (P:=fun E=>Fit E.w) (fit_iff.1 hc) h.fit,each (.inl rfl) h.st,h.nd,fun j=>?_,each List.nodup_nil h.ynd,each (P:=fun E=>∀i∈E.yes,0<=i∧i<(E.w.length:Int)) (fun i hi=>by simp at hi) h.yin,each List.nodup_nil h.ond,each (P:=fun E=>∀s∈E.ov,s∈shopsL E.w) (fun i hi=>by simp at hi) h.oin⟩
   ·show (B.L++[_]).length<=8
    simp;omega
   ·show j∈B.ord ↔ _
    rw [h.ord]
    constructor
    ·rintro ⟨E,hE,he⟩
     refine ⟨E,?_,he⟩
     rw [dealAt_more]
     obtain ⟨k,rfl,hk,_⟩:=dealAt_some hE
     rw [if_neg (by omega)]
     exact hE
    ·rintro ⟨E,hE,he⟩
     rw [dealAt_more] at hE
     split at hE
     ·obtain rfl:=Option.some.inj hE
      exact absurd (show (0:Int)=1 from he) (by decide)
     ·exact ⟨E,hE,he⟩
 ·exact h
theorem BInv.quit {B:Bok} (h:BInv B) (n:Int):BInv (quitR B n).2:=by
 unfold quitR
 cases hd:dealAt B n with
 | none=>exact h
 | some D=>
   simp only
   split
   ·rename_i h0
    have hm:=dealAt_mem hd
    exact h.put hd rfl (.inr (.inr rfl)) ⟨fun e=>absurd (show (2:Int)=1 from e) (by decide),fun e=>by omega⟩ (h.ynd D hm) (h.yin D hm) (h.ond D hm) (h.oin D hm)
   ·exact h
theorem addI_in {D:Dl} {i k:Nat} {c d:Int} (hy:∀j∈D.yes,0<=j∧j<(D.w.length:Int)) (hi:D.w[i]?=some (c,d)) (hk:D.w.length=k):∀j∈addI D.yes (i:Int),0<=j∧j<(k:Int):=by
 intro j hj
 rcases addI_mem.1 hj with q | rfl
 ·have:=hy j q;omega
 ·have:=(List.getElem?_eq_some_iff.1 hi).1
  omega
theorem BInv.hear {B:Bok} (h:BInv B) (m:Ml):BInv (hearR B m):=by
 rcases hearR_cases B m with e | ⟨D,i,hd,h0,_,_,hi,⟨_,e⟩ | ⟨_,_,e⟩ | ⟨_,_,e⟩⟩ | ⟨D,hd,h0,_,hs,hn,e⟩
 ·rw [e];exact h
 ·rw [e]
  have hm:=dealAt_mem hd
  exact h.put hd rfl (.inr (.inr rfl)) ⟨fun e=>absurd (show (2:Int)=1 from e) (by decide),fun e=>by omega⟩ (h.ynd D hm) (h.yin D hm) (h.ond D hm) (h.oin D hm)
 ·rw [e]
  have hm:=dealAt_mem hd
  exact h.put hd rfl (h.st D hm) Iff.rfl (addI_nodup (h.ynd D hm) _) (addI_in (h.yin D hm) hi rfl) (h.ond D hm) (h.oin D hm)
 ·rw [e]
  have hm:=dealAt_mem hd
  have hno:m.deal ∉ B.ord:=fun q=>by
   obtain ⟨E,hE,he⟩:=(h.ord _).1 q
   rw [hd] at hE
   obtain rfl:=Option.some.inj hE
   omega
  have each:∀{P:Dl->Prop},P { D with yes:=addI D.yes i,st:=1 }->(∀E∈B.L,P E)->∀E∈(putD B m.deal { D with yes:=addI D.yes i,st:=1 }).L,P E:=fun {P} p0 p1 E hE=>by
   rcases mem_set hE with rfl | q
   ·exact p0
   ·exact p1 E q
  refine ⟨?_,each (P:=fun E=>Fit E.w) (h.fit D hm) h.fit,each (.inr (.inl rfl)) h.st,?_,fun j=>?_,each (addI_nodup (h.ynd D hm) _) h.ynd,each (P:=fun E=>∀i∈E.yes,0<=i∧i<(E.w.length:Int)) (addI_in (h.yin D hm) hi rfl) h.yin,each (h.ond D hm) h.ond,each (P:=fun E=>∀s∈E.ov,s∈shopsL E.w) (h.oin D hm) h.oin⟩
  ·show (putD B m.deal _).L.length<=8
   rw [put_len];exact h.len
  ·exact List.nodup_append.2 ⟨h.nd,by simp,fun a ha b hb e=>by rw [List.mem_singleton.1 hb] at e;exact hno (e ▸ ha)⟩
  ·show j∈B.ord++[m.deal] ↔ _
   rw [List.mem_append,List.mem_singleton,h.ord]
   constructor
   ·rintro (⟨E,hE,he⟩ | rfl)
    ·refine ⟨E,?_,he⟩
     show dealAt (putD B m.deal _) j=some E
     rw [dealAt_put hd]
     by_cases e:j=m.deal
     ·subst e
      rw [hd] at hE
      obtain rfl:=Option.some.inj hE
      omega
     ·rw [if_neg e];exact hE
    ·refine ⟨{ D with yes:=addI D.yes i,st:=1 },?_,rfl⟩
     show dealAt (putD B m.deal _) m.deal=_
     rw [dealAt_put hd,if_pos rfl]
   ·rintro ⟨E,hE,he⟩
    by_cases e:j=m.deal
    ·exact .inr e
    ·left
     refine ⟨E,?_,he⟩
     have hE':dealAt (putD B m.deal { D with yes:=addI D.yes i,st:=1 }) j=some E:=hE
     rw [dealAt_put hd,if_neg e] at hE'
     exact hE'
 ·rw [e]
  have hm:=dealAt_mem hd
  refine h.put hd rfl (h.st D hm) Iff.rfl (h.ynd D hm) (h.yin D hm) (List.nodup_append.2 ⟨h.ond D hm,by simp,fun a ha b hb e=>by rw [List.mem_singleton.1 hb] at e;exact hn (e ▸ ha)⟩) ?_
  intro s hs'
  rcases List.mem_append.1 hs' with q | q
  ·exact h.oin D hm s q
  ·rw [List.mem_singleton.1 q];exact hs
theorem dealAt_crash (B:Bok) (n:Int):dealAt (crashR B) n=(dealAt B n).map crashD:=by
 unfold dealAt crashR
 split
 ·rfl
 ·simp
theorem BInv.crash {B:Bok} (h:BInv B):BInv (crashR B):=by
 have each:∀{P:Dl->Prop},(∀E∈B.L,P (crashD E))->∀E∈(crashR B).L,P E:=fun {P} p E hE=>by
  obtain ⟨D,hD,rfl⟩:=List.mem_map.1 hE
  exact p D hD
 refine ⟨by show (B.L.map crashD).length<=8;simpa using h.len,each (P:=fun E=>Fit E.w) (fun E hE=>h.fit E hE),each (fun E hE=>?_),h.nd,fun j=>?_,each (fun _ _=>List.nodup_nil),each (P:=fun E=>∀i∈E.yes,0<=i∧i<(E.w.length:Int)) (fun E _ i hi=>by simp [crashD] at hi),each (fun _ _=>List.nodup_nil),each (P:=fun E=>∀s∈E.ov,s∈shopsL E.w) (fun E _ i hi=>by simp [crashD] at hi)⟩
 ·have:=h.st E hE
  show (if E.st=0 then (2:Int) else E.st)=0∨(if E.st=0 then (2:Int) else E.st)=1∨(if E.st=0 then (2:Int) else E.st)=2
  split <;> omega
 ·show j∈B.ord ↔ _
  rw [h.ord]
  constructor
  ·rintro ⟨E,hE,he⟩
   refine ⟨crashD E,by rw [dealAt_crash,hE];rfl,?_⟩
   show (if E.st=0 then (2:Int) else E.st)=1
   rw [if_neg (by omega)];exact he
  ·rintro ⟨E,hE,he⟩
   rw [dealAt_crash] at hE
   cases hD:dealAt B j with
   | none=>rw [hD] at hE;cases hE
   | some D=>
     rw [hD] at hE
     obtain rfl:=Option.some.inj hE
     have he':(if D.st=0 then (2:Int) else D.st)=1:=he
     refine ⟨D,rfl,?_⟩
     split at he' <;> omega
theorem fm_at {α β:Type} {f:α->List β} {s:Nat} (hf:∀x,(f x).length=s):∀{l:List α} {k:Nat} {x:α},l[k]?=some x->∀{j:Nat},j<s->(l.flatMap f)[k * s+j]?=(f x)[j]?
 | y :: r,0,x,h,j,hj=>by
   obtain rfl:y=x:=by simpa using h
   rw [List.flatMap_cons,Nat.zero_mul,Nat.zero_add,List.getElem?_append_left (by rw [hf];exact hj)]
 | y :: r,k+1,x,h,j,hj=>by
   have:=fm_at hf (l:=r) (k:=k) (x:=x) (by simpa using h) hj
   rw [List.flatMap_cons,List.getElem?_append_right (by rw [hf,Nat.succ_mul];omega),hf,show (k+1) * s+j - s=k * s+j by rw [Nat.succ_mul];omega]
   exact this
theorem fm_len {α β:Type} {f:α->List β} {s:Nat} (hf:∀x,(f x).length=s):∀(l:List α),(l.flatMap f).length=l.length * s
 | []=>by simp
 | y :: r=>by rw [List.flatMap_cons,List.length_append,fm_len hf r,hf,List.length_cons,Nat.succ_mul];omega
theorem fm_set {α β:Type} {f:α->List β} {s:Nat} (hf:∀x,(f x).length=s):∀{l:List α} {k:Nat} {x y:α} {j:Nat} {u:β},l[k]?=some x->j<s->f y=(f x).set j u->(l.set k y).flatMap f=(l.flatMap f).set (k * s+j) u
 | z :: r,0,x,y,j,u,h,hj,e=>by
   obtain rfl:z=x:=by simpa using h
   rw [List.set_cons_zero,List.flatMap_cons,List.flatMap_cons,e,Nat.zero_mul,Nat.zero_add,List.set_append_left _ _ (by rw [hf];exact hj)]
 | z :: r,k+1,x,y,j,u,h,hj,e=>by
   have:=fm_set hf (l:=r) (k:=k) (x:=x) (y:=y) (j:=j) (u:=u) (by simpa using h) hj e
   rw [List.set_cons_succ,List.flatMap_cons,List.flatMap_cons,this,List.set_append_right _ _ (by rw [hf,Nat.succ_mul];omega),hf,show (k+1) * s+j - s=k * s+j by rw [Nat.succ_mul];omega]
def dcells (x:Dl × Value):List Value:=[x.2,.int .i64 x.1.st,.bool (decide ((0:Int)∈x.1.yes)),.bool (decide ((1:Int)∈x.1.yes)),.bool (decide ((2:Int)∈x.1.yes)),.bool (decide ((3:Int)∈x.1.yes)),.bool (decide ((0:Int)∈x.1.ov)),.bool (decide ((1:Int)∈x.1.ov)),.bool (decide ((2:Int)∈x.1.ov))]
theorem dcells_len (x:Dl × Value):(dcells x).length=9:=rfl
def flatB (P:List (Dl × Value)):List Value:=P.flatMap dcells
theorem flatB_length (P:List (Dl × Value)):(flatB P).length=P.length * 9:=fm_len dcells_len P
theorem flatB_snoc (P:List (Dl × Value)) (x:Dl × Value):flatB (P++[x])=flatB P++dcells x:=by unfold flatB;simp
theorem flatB_at {P:List (Dl × Value)} {k:Nat} {x:Dl × Value} (h:P[k]?=some x) {j:Nat} (hj:j<9):(flatB P)[k * 9+j]?=(dcells x)[j]?:=fm_at dcells_len h hj
theorem flatB_set {P:List (Dl × Value)} {k:Nat} {x y:Dl × Value} {j:Nat} {u:Value} (h:P[k]?=some x) (hj:j<9) (e:dcells y=(dcells x).set j u):flatB (P.set k y)=(flatB P).set (k * 9+j) u:=fm_set dcells_len h hj e
structure BrkRaw (w:World) (q:Nat) (B:Bok) (rv dv:Value) (P:List (Dl × Value)):Prop where
 fst:B.L=P.map Prod.fst
 c0:w.cell? ⟨q,0,none⟩=some rv
 c1:w.cell? ⟨q,1,none⟩=some dv
 row:w.ownsRow (q+1) 191 9 rv P.length (flatB P)
 ord:w.ownsRow (q+1) 3 1 dv B.ord.length (B.ord.map (Value.int .i64))
 deal:∀x∈P,w.ownsRow (q+1) 97 2 x.2 x.1.w.length (flat x.1.w)
 apart:ApartV (rv :: dv :: P.map Prod.snd)
structure BrkIn (O:Nat->Prop) (w:World) (q:Nat) (B:Bok):Prop where
 own:∀k,O k->k<w.heap.size
 mine:O q
 loose:∀k,w.frozen? ⟨q,k,none⟩=false
 raw:∃(rv dv:Value) (P:List (Dl × Value)),BrkRaw w q B rv dv P∧∀u∈rv :: dv :: P.map Prod.snd,∀k,u.ownBlock=some k->O k
theorem BrkIn.lt {O:Nat->Prop} {w:World} {q:Nat} {B:Bok} (h:BrkIn O w q B):q<w.heap.size:=h.own q h.mine
theorem BrkRaw.len {w:World} {q:Nat} {B:Bok} {rv dv:Value} {P:List (Dl × Value)} (h:BrkRaw w q B rv dv P):B.L.length=P.length:=by rw [h.fst,List.length_map]
theorem BrkRaw.at {w:World} {q:Nat} {B:Bok} {rv dv:Value} {P:List (Dl × Value)} (h:BrkRaw w q B rv dv P) {k:Nat} {D:Dl} (hk:B.L[k]?=some D):∃v,P[k]?=some (D,v):=by
 rw [h.fst,List.getElem?_map] at hk
 cases hp:P[k]? with
 | none=>rw [hp] at hk;cases hk
 | some x=>
   rw [hp] at hk
   obtain rfl:=Option.some.inj hk
   exact ⟨x.2,rfl⟩
theorem BrkRaw.save {O':Nat->Prop} {w w1:World} {q:Nat} {B:Bok} {rv dv:Value} {P:List (Dl × Value)} (h:BrkRaw w q B rv dv P) (hl:q<w.heap.size) (hb:Save O' w w1) (hq:¬O' q) (out:∀u∈rv :: dv :: P.map Prod.snd,∀k,u.ownBlock=some k->¬O' k):BrkRaw w1 q B rv dv P:=
 ⟨h.fst,(hb.cell (p:=⟨q,0,none⟩) hl hq).trans h.c0,(hb.cell (p:=⟨q,1,none⟩) hl hq).trans h.c1,own_save h.row hb (out rv (by simp)),own_save h.ord hb (out dv (by simp)),fun x hx=>own_save (h.deal x hx) hb (out _ (List.mem_cons_of_mem _ (List.mem_cons_of_mem _ (List.mem_map_of_mem hx)))),h.apart⟩
theorem BrkIn.save {O O':Nat->Prop} {w w1:World} {q:Nat} {B:Bok} (h:BrkIn O w q B) (hb:Save O' w w1) (hn:∀k,O k->¬O' k):BrkIn O w1 q B:=by
 obtain ⟨rv,dv,P,h1,h7⟩:=h.raw
 have hl:=h.lt
 have hq:=hn q h.mine
 exact ⟨fun k hk=>Nat.lt_of_lt_of_le (h.own k hk) hb.size,h.mine,fun k=>(hb.frozen (p:=⟨q,k,none⟩) hl hq).trans (h.loose k),rv,dv,P,h1.save hl hb hq (fun u hu k hk=>hn k (h7 u hu k hk)),h7⟩
theorem BrkIn.next {O:Nat->Prop} {w w1:World} {q:Nat} {B:Bok} (h:BrkIn O w q B) (hb:Below w.heap.size w w1):BrkIn O w1 q B:=
 h.save (O':=fun _=>False) (.of_below hb) (fun _ _ q=>q)
def BrkTo (O:Nat->Prop) (w w':World) (q:Nat) (B':Bok):Prop:=∃O',BrkIn O' w' q B'∧Save O w w'∧Moved O O' w
theorem BrkTo.stay {O:Nat->Prop} {w w':World} {q:Nat} {B:Bok} (h:BrkIn O w q B) (hb:Below w.heap.size w w'):BrkTo O w w' q B:=⟨O,h.next hb,.of_below hb,.refl _ _⟩
theorem BrkTo.behind {O:Nat->Prop} {w w1 w':World} {q:Nat} {B':Bok} (hb:Below w.heap.size w w1) (hs:BrkTo O w1 w' q B'):BrkTo O w w' q B':=by
 obtain ⟨O',h1,h2,h3⟩:=hs
 exact ⟨O',h1,(Save.of_below hb).trans h2 (fun _ _ hj=>hj),fun k hk=>(h3 k hk).imp id (fun q=>Nat.le_trans hb.size q)⟩
theorem BrkTo.next {O:Nat->Prop} {w w1 w':World} {q:Nat} {B':Bok} (hs:BrkTo O w w1 q B') (hb:Below w1.heap.size w1 w'):BrkTo O w w' q B':=by
 obtain ⟨O',h1,h2,h3⟩:=hs
 exact ⟨O',h1.next hb,h2.next hb,h3⟩
theorem brk_to {O:Nat->Prop} {w w9:World} {q:Nat} {B':Bok} {rv dv:Value} {P:List (Dl × Value)} (hO:∀k,O k->k<w.heap.size) (hm:O q) (hS:Save O w w9) (hR:BrkRaw w9 q B' rv dv P) (hf:∀k,w9.frozen? ⟨q,k,none⟩=false) (hrow:∀u∈rv :: dv :: P.map Prod.snd,∀k,u.ownBlock=some k->(O k∨w.heap.size<=k)∧k<w9.heap.size):BrkTo O w w9 q B':=by
 refine ⟨fun k=>O k∨∃u∈rv :: dv :: P.map Prod.snd,u.ownBlock=some k,⟨fun k hk=>?_,.inl hm,hf,rv,dv,P,hR,fun u hu k hk=>.inr ⟨u,hu,hk⟩⟩,hS,fun k hk=>?_⟩
 ·rcases hk with hk | ⟨u,hu,hk⟩
  ·exact Nat.lt_of_lt_of_le (hO k hk) hS.size
  ·exact (hrow u hu k hk).2
 ·rcases hk with hk | ⟨u,hu,hk⟩
  ·exact .inl hk
  ·exact (hrow u hu k hk).1
theorem map_set_snd {P:List (Dl × Value)} {k:Nat} {D D':Dl} {v:Value} (hk:P[k]?=some (D,v)):(P.set k (D',v)).map Prod.snd=P.map Prod.snd:=by
 rw [List.map_set]
 apply List.ext_getElem?
 intro j
 by_cases e:k=j
 ·subst e
  have hkl:=(List.getElem?_eq_some_iff.1 hk).1
  rw [List.getElem?_set_self (by simpa using hkl),List.getElem?_map,hk]
  rfl
 ·rw [List.getElem?_set_ne e]
theorem BrkRaw.gcap {w:World} {q g n cap:Nat} {B:Bok} {dv:Value} {P:List (Dl × Value)} (h:BrkRaw w q B (.slice (some ⟨g,0,none⟩) n cap) dv P):P.length=n:=by
 rcases h.row.2 with ⟨e1,e0⟩ | ⟨g',cap',cur,e1,_⟩
 ·cases e1
 ·simp only [Value.slice.injEq] at e1;omega
theorem BrkRaw.set {w:World} {q g n cap k j:Nat} {B:Bok} {dv u v:Value} {P:List (Dl × Value)} {D D':Dl} (h:BrkRaw w q B (.slice (some ⟨g,0,none⟩) n cap) dv P) (hl:q<w.heap.size) (hk:P[k]?=some (D,v)) (hj:j<9) (hw:D'.w=D.w) (e:dcells (D',v)=(dcells (D,v)).set j u):BrkRaw (w.setCell ⟨g,k * 9+j,none⟩ u) q (putD B (k:Int) D') (.slice (some ⟨g,0,none⟩) n cap) dv (P.set k (D',v)):=by
 have hn:=h.gcap
 subst hn
 obtain ⟨hB,_⟩:=own_row h.row
 have hkl:=(List.getElem?_eq_some_iff.1 hk).1
 have hS:Save (fun b=>b=g) w (w.setCell ⟨g,k * 9+j,none⟩ u):=Save.setCell (O:=fun b=>b=g) (Save.refl _ _) (p:=⟨g,k * 9+j,none⟩) (fun _=>rfl) _
 have hq:¬q=g:=by omega
 have out:∀u∈dv :: P.map Prod.snd,∀i,u.ownBlock=some i->i ≠ g:=fun u hu i hi e=>(List.pairwise_cons.1 h.apart).1 u hu g rfl (by rw [hi,e])
 refine ⟨?_,(hS.cell (p:=⟨q,0,none⟩) hl hq).trans h.c0,(hS.cell (p:=⟨q,1,none⟩) hl hq).trans h.c1,?_,own_save h.ord hS (fun i hi=>out _ (by simp) i hi),fun x hx=>?_,by rw [map_set_snd hk];exact h.apart⟩
 ·show B.L.set (k:Int).toNat D'=_
  rw [List.map_set,<-h.fst]
  simp
 ·rw [flatB_set hk hj e,List.length_set]
  exact own_set h.row (by rw [flatB_length];omega) _
 ·rcases mem_set hx with rfl | hx
  ·have hm:=List.mem_of_getElem? hk
   show World.ownsRow _ _ _ _ v D'.w.length (flat D'.w)
   rw [hw]
   exact own_save (h.deal _ hm) hS (fun i hi=>out _ (List.mem_cons_of_mem _ (List.mem_map_of_mem hm)) i hi)
  ·exact own_save (h.deal _ hx) hS (fun i hi=>out _ (List.mem_cons_of_mem _ (List.mem_map_of_mem hx)) i hi)
theorem BrkRaw.rows {w w':World} {q g n cap:Nat} {B:Bok} {dv:Value} {P P':List (Dl × Value)} (h:BrkRaw w q B (.slice (some ⟨g,0,none⟩) n cap) dv P) (hl:q<w.heap.size) (hS:Save (fun b=>b=g) w w') (hr:w'.ownsRow (q+1) 191 9 (.slice (some ⟨g,0,none⟩) n cap) P'.length (flatB P')) (hs:P'.map (fun x=>(x.1.w,x.2))=P.map (fun x=>(x.1.w,x.2))):BrkRaw w' q { B with L:=P'.map Prod.fst } (.slice (some ⟨g,0,none⟩) n cap) dv P':=by
 have hn:=h.gcap
 subst hn
 obtain ⟨hB,_⟩:=own_row h.row
 have hq:¬q=g:=by omega
 have out:∀u∈dv :: P.map Prod.snd,∀i,u.ownBlock=some i->i ≠ g:=fun u hu i hi e=>(List.pairwise_cons.1 h.apart).1 u hu g rfl (by rw [hi,e])
 have e2:P'.map Prod.snd=P.map Prod.snd:=by
  have:=congrArg (List.map Prod.snd) hs
  simpa [List.map_map,Function.comp_def] using this
 refine ⟨rfl,(hS.cell (p:=⟨q,0,none⟩) hl hq).trans h.c0,(hS.cell (p:=⟨q,1,none⟩) hl hq).trans h.c1,hr,own_save h.ord hS (fun i hi=>out _ (by simp) i hi),fun x hx=>?_,by rw [e2];exact h.apart⟩
 have hm:(x.1.w,x.2)∈P.map (fun x=>(x.1.w,x.2)):=by rw [<-hs];exact List.mem_map_of_mem (f:=fun x:Dl × Value=>(x.1.w,x.2)) hx
 obtain ⟨y,hy,e⟩:=List.mem_map.1 hm
 simp only [Prod.mk.injEq] at e
 have:=h.deal y hy
 rw [e.1,e.2] at this
 exact own_save this hS (fun i hi=>out _ (List.mem_cons_of_mem _ (by rw [<-e2];exact List.mem_map_of_mem hx)) i hi)
theorem BrkRaw.ordr {w w8:World} {q:Nat} {B:Bok} {rv dv v8:Value} {P:List (Dl × Value)} {l:List Int} (h:BrkRaw w q B rv dv P) (hl:q<w.heap.size) (hall:∀u∈rv :: dv :: P.map Prod.snd,∀j,u.ownBlock=some j->j<w.heap.size)
 (h8:Save (fun b=>dv.ownBlock=some b) w w8) (hr8:w8.ownsRow (q+1) 3 1 v8 l.length (l.map (Value.int .i64))) (hw8:∀j,v8.ownBlock=some j->dv.ownBlock=some j∨w.heap.size<=j):
 BrkRaw (w8.setCell ⟨q,1,none⟩ v8) q { B with ord:=l } rv v8 P:=by
 have hqo:¬dv.ownBlock=some q:=fun e=>by
  have:=(h.ord.lt q e).1
  omega
 have far:∀{i:Nat} {u:Value},(rv :: dv :: P.map Prod.snd)[i]?=some u->i ≠ 1->∀j,u.ownBlock=some j->¬dv.ownBlock=some j:=fun {i u} hi hne j h1 h2=>apart_at h.apart hi (show (rv :: dv :: P.map Prod.snd)[1]?=some dv from rfl) hne j h1 h2
 have bq:∀{e s:Nat} {u:Value} {m:Nat} {xs:List Value},w8.ownsRow (q+1) e s u m xs->(w8.setCell ⟨q,1,none⟩ v8).ownsRow (q+1) e s u m xs:=fun hr=>ownsRow_setCell_below hr (Nat.lt_succ_self q) _
 refine ⟨h.fst,(cell_set_off (by omega)).trans ((h8.cell (p:=⟨q,0,none⟩) hl hqo).trans h.c0),cell_set_same ((h8.cell (p:=⟨q,1,none⟩) hl hqo).trans h.c1),bq (own_save h.row h8 (fun j hj=>far (i:=0) rfl (by omega) j hj)),bq hr8,fun x hx=>?_,?_⟩
 ·obtain ⟨k,hk,rfl⟩:=List.getElem_of_mem hx
  exact bq (own_save (h.deal _ hx) h8 (fun i hi=>far (i:=k+2) (u:=P[k].2) (by simp [hk]) (by omega) i hi))
 ·exact apart_set h.apart (show (rv :: dv :: P.map Prod.snd)[1]?=some dv from rfl) (u':=v8) (fun j hj=>(hw8 j hj).imp id (fun q u hu e=>by have:=hall u hu j e;omega))
theorem BrkRaw.begin {w w7 w8:World} {q:Nat} {B:Bok} {rv dv v7 v8:Value} {P:List (Dl × Value)} {l:List (Int × Int)} (h:BrkRaw w q B rv dv P) (hl:q<w.heap.size) (hall:∀u∈rv :: dv :: P.map Prod.snd,∀j,u.ownBlock=some j->j<w.heap.size)
 (h7:Below w.heap.size w w7) (hr7:w7.ownsRow (q+1) 97 2 v7 l.length (flat l)) (hw7:∀j,v7.ownBlock=some j->w.heap.size<=j∧j<w7.heap.size)
 (h8:Save (fun b=>rv.ownBlock=some b) w7 w8) (hr8:w8.ownsRow (q+1) 191 9 v8 (P.length+1) (flatB P++[v7,.int .i64 0,.bool false,.bool false,.bool false,.bool false,.bool false,.bool false,.bool false])) (hw8:∀j,v8.ownBlock=some j->rv.ownBlock=some j∨w7.heap.size<=j):
 BrkRaw (w8.setCell ⟨q,0,none⟩ v8) q { B with L:=B.L++[⟨l,0,[],[]⟩] } v8 dv (P++[(⟨l,0,[],[]⟩,v7)]):=by
 have hq7:q<w7.heap.size:=Nat.lt_of_lt_of_le hl h7.size
 have hqr:¬rv.ownBlock=some q:=fun e=>by
  have:=(h.row.lt q e).1
  omega
 have hc:∀j,(w8.cell? ⟨q,j,none⟩)=w.cell? ⟨q,j,none⟩:=fun j=>(h8.cell (p:=⟨q,j,none⟩) hq7 hqr).trans (h7.cell (p:=⟨q,j,none⟩) hl)
 have far:∀{i:Nat} {u:Value},(rv :: dv :: P.map Prod.snd)[i]?=some u->i ≠ 0->∀j,u.ownBlock=some j->¬rv.ownBlock=some j:=fun {i u} hi hne j h1 h2=>apart_at h.apart hi (show (rv :: dv :: P.map Prod.snd)[0]?=some rv from rfl) hne j h1 h2
 have bq:∀{e s:Nat} {u:Value} {m:Nat} {xs:List Value},w8.ownsRow (q+1) e s u m xs->(w8.setCell ⟨q,0,none⟩ v8).ownsRow (q+1) e s u m xs:=fun hr=>ownsRow_setCell_below hr (Nat.lt_succ_self q) _
 have up:∀{e s:Nat} {u:Value} {m:Nat} {xs:List Value},w.ownsRow (q+1) e s u m xs->(∀j,u.ownBlock=some j->¬rv.ownBlock=some j)->(w8.setCell ⟨q,0,none⟩ v8).ownsRow (q+1) e s u m xs:=fun hr hf=>bq (own_save (own_next hr h7) h8 hf)
 refine ⟨by simp [h.fst],cell_set_same ((hc 0).trans h.c0),(cell_set_off (by omega)).trans ((hc 1).trans h.c1),?_,up h.ord (fun j hj=>far (i:=1) rfl (by omega) j hj),fun x hx=>?_,?_⟩
 ·rw [flatB_snoc,List.length_append]
  exact bq hr8
 ·rcases List.mem_append.1 hx with hx | hx
  ·obtain ⟨k,hk,rfl⟩:=List.getElem_of_mem hx
   exact up (h.deal _ hx) (fun i hi=>far (i:=k+2) (u:=P[k].2) (by simp [hk]) (by omega) i hi)
  ·obtain rfl:=List.mem_singleton.1 hx
   refine bq (own_save hr7 h8 (fun j hj e=>?_))
   have h1:=hw7 j hj
   have h2:=hall rv (by simp) j e
   omega
 ·have hfl:(P++[((⟨l,0,[],[]⟩:Dl),v7)]).map Prod.snd=P.map Prod.snd++[v7]:=by simp
  rw [hfl]
  have h1:ApartV ((rv :: dv :: P.map Prod.snd)++[v7]):=by
   refine apart_more h.apart (List.pairwise_singleton _ _) ?_
   intro u hu k hk x hx e
   obtain rfl:=List.mem_singleton.1 hu
   have h1:=hw7 k hk
   have h2:=hall x hx k e
   omega
  have h2:=apart_set (l:=(rv :: dv :: P.map Prod.snd)++[v7]) (i:=0) (u:=rv) (u':=v8) h1 rfl (fun j hj=>(hw8 j hj).imp id (fun q x hx e=>by
   rcases List.mem_append.1 hx with z | z
   ·have:=hall x z j e
    have:=h7.size
    omega
   ·obtain rfl:=List.mem_singleton.1 z
    have:=hw7 j e
    omega))
  simpa using h2
theorem shopsL_range {w:List (Int × Int)} {s:Int} (h:s∈shopsL w):0<=s∧s<3:=by
 obtain ⟨n,rfl,hn,_⟩:=shopsL_mem.1 h
 omega
theorem asks_mem {n:Int} {yes:List Int} {m:Ml}:∀{w:List (Int × Int)} {k:Nat},m∈asksR n yes k w->∃c d,(c,d)∈w∧m=⟨1,n,shp c,c,d,false⟩:=by
 intro w
 induction w with
 | nil=>intro k h;simp [asksR] at h
 | cons x r ih=>
   intro k h
   simp only [asksR] at h
   split at h
   ·obtain ⟨c,d,h1,h2⟩:=ih h
    exact ⟨c,d,by simp [h1],h2⟩
   ·rcases List.mem_cons.1 h with q | q
    ·exact ⟨x.1,x.2,by simp,q⟩
    ·obtain ⟨c,d,h1,h2⟩:=ih q
     exact ⟨c,d,by simp [h1],h2⟩
theorem dues_mem {m:Ml}:∀{L:List Dl} {k:Nat},m∈duesR k L->∃i D,L[i]?=some D∧m∈dueD ((k+i:Nat):Int) D:=by
 intro L
 induction L with
 | nil=>intro k h;simp [duesR] at h
 | cons D r ih=>
   intro k h
   simp only [duesR] at h
   rcases List.mem_append.1 h with q | q
   ·exact ⟨0,D,rfl,q⟩
   ·obtain ⟨i,E,h1,h2⟩:=ih q
    exact ⟨i+1,E,by simpa using h1,by rw [show k+(i+1)=k+1+i by omega];exact h2⟩
theorem mem_dues {m:Ml}:∀{L:List Dl} {k i:Nat} {D:Dl},L[i]?=some D->m∈dueD ((k+i:Nat):Int) D->m∈duesR k L:=by
 intro L
 induction L with
 | nil=>intro k i D h;simp at h
 | cons E r ih=>
   intro k i D h hm
   simp only [duesR]
   cases i with
   | zero=>
     have:E=D:=by simpa using h
     subst this
     exact List.mem_append_left _ hm
   | succ i=>exact List.mem_append_right _ (ih (by simpa using h) (by rw [show k+1+i=k+(i+1) by omega];exact hm))
theorem due_mem {B:Bok} {m:Ml} (h:m∈dueR B):∃n D,dealAt B n=some D∧m∈dueD n D:=by
 obtain ⟨i,D,h1,h2⟩:=dues_mem h
 exact ⟨(i:Int),D,by rw [dealAt_nat];exact h1,by simpa using h2⟩
theorem mem_due {B:Bok} {m:Ml} {n:Int} {D:Dl} (h:dealAt B n=some D) (hm:m∈dueD n D):m∈dueR B:=by
 obtain ⟨k,rfl,_,h1⟩:=dealAt_some h
 exact mem_dues h1 (by simpa using hm)
theorem asks_in {n:Int} {yes:List Int}:∀{w:List (Int × Int)} {j k:Nat} {c d:Int},w[k]?=some (c,d)->((j+k:Nat):Int) ∉ yes->(⟨1,n,shp c,c,d,false⟩:Ml)∈asksR n yes j w:=by
 intro w
 induction w with
 | nil=>intro j k c d h;simp at h
 | cons x r ih=>
   intro j k c d h hn
   simp only [asksR]
   cases k with
   | zero=>
     have e:x=(c,d):=by simpa using h
     subst e
     rw [if_neg (by simpa using hn)]
     simp
   | succ k=>
     have:=ih (j:=j+1) (k:=k) (c:=c) (d:=d) (by simpa using h) (by rw [show j+1+k=j+(k+1) by omega];exact hn)
     split
     ·exact this
     ·exact List.mem_cons_of_mem _ this
theorem asks_len (n:Int) (yes:List Int):∀(w:List (Int × Int)) (k:Nat),(asksR n yes k w).length<=w.length:=by
 intro w
 induction w with
 | nil=>intro k;simp [asksR]
 | cons x r ih=>
   intro k
   have:=ih (k+1)
   simp only [asksR]
   split
   ·simp only [List.length_cons];omega
   ·simp only [List.length_cons];omega
theorem due_len (n:Int) {D:Dl} (h:Fit D.w):(dueD n D).length<=4:=by
 unfold dueD
 split
 ·have:=asks_len n D.yes D.w 0
  have:=h.few
  omega
 ·unfold endsR
  rw [List.length_map]
  have h1:=List.length_filter_le (fun s=>decide (s ∉ D.ov)) (shopsL D.w)
  have h2:(shopsL D.w).length<=3:=shopsTo_length D.w 3
  omega
theorem dues_len:∀{L:List Dl} {k:Nat},(∀D∈L,Fit D.w)->(duesR k L).length<=4 * L.length:=by
 intro L
 induction L with
 | nil=>intro k _;simp [duesR]
 | cons D r ih=>
   intro k h
   have h1:=due_len (k:Int) (h D (by simp))
   have h2:=ih (k:=k+1) (fun E hE=>h E (by simp [hE]))
   simp only [duesR,List.length_append,List.length_cons]
   omega
theorem due_room {B:Bok} (h:BInv B):(dueR B).length<=32:=by
 have h1:=dues_len (L:=B.L) (k:=0) h.fit
 have h2:=h.len
 show (duesR 0 B.L).length<=32
 omega
theorem BInv.ordLen {B:Bok} (h:BInv B):B.ord.length<=8:=by
 have h1:=length_le_of_below (k:=8) h.nd (fun x hx=>by
  obtain ⟨D,hD,_⟩:=(h.ord x).1 hx
  obtain ⟨k,rfl,hk,_⟩:=dealAt_some hD
  have:=h.len
  omega)
 exact h1
theorem BInv.yesLen {B:Bok} (h:BInv B) {D:Dl} (hD:D∈B.L):D.yes.length<=4∧D.ov.length<=3∧D.w.length<=4:=by
 have h1:=length_le_of_below (k:=D.w.length) (h.ynd D hD) (h.yin D hD)
 have h2:=(h.fit D hD).few
 have h3:=length_le_of_below (k:=3) (h.ond D hD) (fun x hx=>by
  have:=shopsL_range (h.oin D hD x hx)
  omega)
 exact ⟨by omega,h3,h2⟩
theorem own_any {w:World} {B e s n:Nat} {v:Value} {xs:List Value} (h:w.ownsRow B e s v n xs) (hn:n ≠ 0):∃g cap,v=.slice (some ⟨g,0,none⟩) n cap:=by
 rcases h.2 with ⟨e1,e0⟩ | ⟨g,cap,cur,e1,_⟩
 ·exact absurd e0 hn
 ·exact ⟨g,cap,e1⟩
theorem own_sl {w:World} {B e s n:Nat} {v:Value} {xs:List Value} (h:w.ownsRow B e s v n xs):∃ga cap,v=.slice ga n cap:=by
 rcases h.2 with ⟨e1,e0⟩ | ⟨g,cap,cur,e1,_⟩
 ·exact ⟨none,0,by rw [e1,e0]⟩
 ·exact ⟨_,cap,e1⟩
structure Deal9 (w:World) (g k:Nat) (D:Dl) (v:Value):Prop where
 c0:w.cell? ⟨g,k * 9,none⟩=some v
 c1:w.cell? ⟨g,k * 9+1,none⟩=some (.int .i64 D.st)
 c2:w.cell? ⟨g,k * 9+2,none⟩=some (.bool (decide ((0:Int)∈D.yes)))
 c3:w.cell? ⟨g,k * 9+3,none⟩=some (.bool (decide ((1:Int)∈D.yes)))
 c4:w.cell? ⟨g,k * 9+4,none⟩=some (.bool (decide ((2:Int)∈D.yes)))
 c5:w.cell? ⟨g,k * 9+5,none⟩=some (.bool (decide ((3:Int)∈D.yes)))
 c6:w.cell? ⟨g,k * 9+6,none⟩=some (.bool (decide ((0:Int)∈D.ov)))
 c7:w.cell? ⟨g,k * 9+7,none⟩=some (.bool (decide ((1:Int)∈D.ov)))
 c8:w.cell? ⟨g,k * 9+8,none⟩=some (.bool (decide ((2:Int)∈D.ov)))
 lt:g<w.heap.size
 fr:∀j,w.frozen? ⟨g,j,none⟩=false
theorem Deal9.next {w w1:World} {g k:Nat} {D:Dl} {v:Value} (h:Deal9 w g k D v) (hb:Below w.heap.size w w1):Deal9 w1 g k D v:=by
 have q:∀o,w1.cell? ⟨g,o,none⟩=w.cell? ⟨g,o,none⟩:=fun o=>(bcell hb).1 _ _ h.lt
 exact ⟨(q _).trans h.c0,(q _).trans h.c1,(q _).trans h.c2,(q _).trans h.c3,(q _).trans h.c4,(q _).trans h.c5,(q _).trans h.c6,(q _).trans h.c7,(q _).trans h.c8,Nat.lt_of_lt_of_le h.lt hb.size,loose g hb h.lt h.fr⟩
theorem BrkRaw.deal9 {w:World} {q:Nat} {B:Bok} {rv dv:Value} {P:List (Dl × Value)} (h:BrkRaw w q B rv dv P) {k:Nat} {D:Dl} (hk:B.L[k]?=some D):∃g cap v,rv=.slice (some ⟨g,0,none⟩) B.L.length cap∧P[k]?=some (D,v)∧Deal9 w g k D v∧w.ownsRow (q+1) 97 2 v D.w.length (flat D.w)∧q<g∧B.L.length<=cap:=by
 obtain ⟨v,hv⟩:=h.at hk
 have hkl:=(List.getElem?_eq_some_iff.1 hv).1
 have hrow:=h.row
 obtain ⟨g,cap,rfl⟩:=own_any hrow (by omega)
 obtain ⟨hB,hR,hc,hm,hcell⟩:=own_row hrow
 have q9:∀j u,j<9->(dcells (D,v))[j]?=some u->w.cell? ⟨g,k * 9+j,none⟩=some u:=fun j u hj hu=>hcell _ _ ((flatB_at hv hj).trans hu)
 exact ⟨g,cap,v,by rw [h.len],hv,⟨q9 0 _ (by decide) rfl,q9 1 _ (by decide) rfl,q9 2 _ (by decide) rfl,q9 3 _ (by decide) rfl,q9 4 _ (by decide) rfl,q9 5 _ (by decide) rfl,q9 6 _ (by decide) rfl,q9 7 _ (by decide) rfl,q9 8 _ (by decide) rfl,hR.lt,hR.loose⟩,h.deal _ (List.mem_of_getElem? hv),hB,by rw [h.len];exact hc⟩
structure Deal4 (w:World) (g k:Nat) (D:Dl) (v:DV):Prop where
 c0:w.cell? ⟨g,k * 4,none⟩=some v.w
 c1:w.cell? ⟨g,k * 4+1,none⟩=some (.int .i64 D.st)
 c2:w.cell? ⟨g,k * 4+2,none⟩=some v.y
 c3:w.cell? ⟨g,k * 4+3,none⟩=some v.o
 lt:g<w.heap.size
 fr:∀j,w.frozen? ⟨g,j,none⟩=false
theorem Deal4.next {w w1:World} {g k:Nat} {D:Dl} {v:DV} (h:Deal4 w g k D v) (hb:Below w.heap.size w w1):Deal4 w1 g k D v:=by
 have q:∀o,w1.cell? ⟨g,o,none⟩=w.cell? ⟨g,o,none⟩:=fun o=>(bcell hb).1 _ _ h.lt
 exact ⟨(q _).trans h.c0,(q _).trans h.c1,(q _).trans h.c2,(q _).trans h.c3,Nat.lt_of_lt_of_le h.lt hb.size,loose g hb h.lt h.fr⟩
theorem BokRaw.deal4 {tD tW tI:TypeId} {w:World} {q o:Nat} {B:Bok} {rv ov:Value} {V:List DV} (h:BokRaw tD tW tI w q o B rv ov V) {k:Nat} {D:Dl} (hk:B.L[k]?=some D):∃g cap v,rv=.slice (some ⟨g,0,none⟩) B.L.length cap∧V[k]?=some v∧Deal4 w g k D v∧q<g∧B.L.length<=cap:=by
 have hkl:=(List.getElem?_eq_some_iff.1 hk).1
 obtain ⟨v,hv⟩:∃v,V[k]?=some v:=⟨_,List.getElem?_eq_getElem (by rw [h.len];exact hkl)⟩
 have hrow:=h.row
 obtain ⟨g,cap,rfl⟩:=own_any hrow (by omega)
 obtain ⟨hB,hR,hc,hm,hcell⟩:=own_row hrow
 obtain ⟨a,b,c,d⟩:=flatD_at hk hv
 exact ⟨g,cap,v,rfl,hv,⟨hcell _ _ a,hcell _ _ b,hcell _ _ c,hcell _ _ d,hR.lt,hR.loose⟩,hB,hc⟩
theorem BokIn.rows {tD tW tI:TypeId} {O:Nat->Prop} {w:World} {q o:Nat} {B:Bok} (h:BokIn tD tW tI O w q o B) {rv ov:Value} {V:List DV} (hs:∀u∈rv :: ov :: V.flatMap DV.all,∀k,u.ownBlock=some k->O k):∀u∈rv :: ov :: V.flatMap DV.all,∀k,u.ownBlock=some k->k<w.heap.size:=fun u hu k hk=>h.own k (hs u hu k hk)
theorem BrkIn.rows {O:Nat->Prop} {w:World} {q:Nat} {B:Bok} (h:BrkIn O w q B) {rv dv:Value} {P:List (Dl × Value)} (hs:∀u∈rv :: dv :: P.map Prod.snd,∀k,u.ownBlock=some k->O k):∀u∈rv :: dv :: P.map Prod.snd,∀k,u.ownBlock=some k->k<w.heap.size:=fun u hu k hk=>h.own k (hs u hu k hk)
theorem dealAt_out {B:Bok} {n:Int} (h:dealAt B n=none):n<0∨(B.L.length:Int)<=n:=by
 unfold dealAt at h
 split at h
 ·omega
 ·have:=List.getElem?_eq_none_iff.1 h
  omega
theorem asks_append (n:Int) (yes:List Int):∀(a b:List (Int × Int)) (j:Nat),asksR n yes j (a++b)=asksR n yes j a++asksR n yes (j+a.length) b:=by
 intro a
 induction a with
 | nil=>intro b j;simp [asksR]
 | cons x r ih=>
   intro b j
   simp only [List.cons_append,asksR,ih,List.length_cons,show j+(r.length+1)=j+1+r.length by omega]
   split
   ·rfl
   ·rfl
def asksTo (n:Int) (yes:List Int) (w:List (Int × Int)) (k:Nat):List Ml:=asksR n yes 0 (w.take k)
theorem asksTo_zero (n:Int) (yes:List Int) (w:List (Int × Int)):asksTo n yes w 0=[]:=by simp [asksTo,asksR]
theorem asksTo_hit {n:Int} {yes:List Int} {w:List (Int × Int)} {k:Nat} {c d:Int} (h:w[k]?=some (c,d)) (hy:(k:Int)∈yes):asksTo n yes w (k+1)=asksTo n yes w k:=by
 have hk:=(List.getElem?_eq_some_iff.1 h).1
 unfold asksTo
 rw [take_snoc h,asks_append,List.length_take,Nat.min_eq_left (by omega),Nat.zero_add]
 simp [asksR,hy]
theorem asksTo_miss {n:Int} {yes:List Int} {w:List (Int × Int)} {k:Nat} {c d:Int} (h:w[k]?=some (c,d)) (hy:(k:Int) ∉ yes):asksTo n yes w (k+1)=asksTo n yes w k++[⟨1,n,shp c,c,d,false⟩]:=by
 have hk:=(List.getElem?_eq_some_iff.1 h).1
 unfold asksTo
 rw [take_snoc h,asks_append,List.length_take,Nat.min_eq_left (by omega),Nat.zero_add]
 simp [asksR,hy]
theorem asksTo_all (n:Int) (yes:List Int) (w:List (Int × Int)):asksTo n yes w w.length=asksR n yes 0 w:=by
 unfold asksTo
 rw [List.take_of_length_le (Nat.le_refl _)]
theorem asksTo_len (n:Int) (yes:List Int) (w:List (Int × Int)) (k:Nat):(asksTo n yes w k).length<=k:=by
 unfold asksTo
 have h1:=asks_len n yes (w.take k) 0
 have h2:(w.take k).length<=k:=by rw [List.length_take];omega
 omega
theorem asks_nil {n:Int} {yes:List Int}:∀{w:List (Int × Int)} {j:Nat},asksR n yes j w=[] ↔ ∀i,i<w.length->((j+i:Nat):Int)∈yes:=by
 intro w
 induction w with
 | nil=>intro j;simp [asksR]
 | cons x r ih=>
   intro j
   simp only [asksR]
   split
   ·rename_i h
    rw [ih]
    constructor
    ·intro q i hi
     cases i with
     | zero=>simpa using h
     | succ i=>
       have:=q i (by simp at hi;omega)
       rw [show j+(i+1)=j+1+i by omega];exact this
    ·intro q i hi
     have:=q (i+1) (by simp;omega)
     rw [show j+1+i=j+(i+1) by omega];exact this
   ·rename_i h
    constructor
    ·intro q;cases q
    ·intro q
     exact absurd (by simpa using q 0 (by simp)) h
theorem length_of_all:∀{k:Nat} {l:List Int},(∀i:Nat,i<k->(i:Int)∈l)->k<=l.length:=by
 intro k
 induction k with
 | zero=>intro l _;omega
 | succ k ih=>
   intro l h
   have hk:=h k (by omega)
   have h1:=ih (l:=l.erase (k:Int)) (fun i hi=>(List.mem_erase_of_ne (by omega)).2 (h i (by omega)))
   rw [List.length_erase_of_mem hk] at h1
   have:=List.length_pos_of_mem hk
   omega
theorem asks_empty {n:Int} {yes:List Int} {w:List (Int × Int)} (hnd:yes.Nodup) (hin:∀i∈yes,0<=i∧i<(w.length:Int)):asksR n yes 0 w=[] ↔ yes.length=w.length:=by
 rw [asks_nil]
 constructor
 ·intro h
  have h1:=length_of_all (k:=w.length) (l:=yes) (fun i hi=>by simpa using h i hi)
  have h2:=length_le_of_below hnd hin
  omega
 ·intro h i hi
  simpa using all_of_length hnd hin h i hi
def endsTo (n:Int) (D:Dl) (k:Nat):List Ml:=(((shopsL D.w).take k).filter (fun s=>decide (s ∉ D.ov))).map (fun s=>⟨3,n,s,0,0,D.st == 1⟩)
theorem endsTo_zero (n:Int) (D:Dl):endsTo n D 0=[]:=by simp [endsTo]
theorem endsTo_hit {n:Int} {D:Dl} {k:Nat} {s:Int} (h:(shopsL D.w)[k]?=some s) (hs:s∈D.ov):endsTo n D (k+1)=endsTo n D k:=by
 unfold endsTo
 rw [take_snoc h,List.filter_append,List.map_append]
 simp [hs]
theorem endsTo_miss {n:Int} {D:Dl} {k:Nat} {s:Int} (h:(shopsL D.w)[k]?=some s) (hs:s ∉ D.ov):endsTo n D (k+1)=endsTo n D k++[⟨3,n,s,0,0,D.st == 1⟩]:=by
 unfold endsTo
 rw [take_snoc h,List.filter_append,List.map_append]
 simp [hs]
theorem endsTo_all (n:Int) (D:Dl):endsTo n D (shopsL D.w).length=endsR n D:=by
 unfold endsTo endsR
 rw [List.take_of_length_le (Nat.le_refl _)]
theorem endsTo_len (n:Int) (D:Dl) (k:Nat):(endsTo n D k).length<=k:=by
 unfold endsTo
 rw [List.length_map]
 have h1:=List.length_filter_le (fun s=>decide (s ∉ D.ov)) ((shopsL D.w).take k)
 have h2:((shopsL D.w).take k).length<=k:=by rw [List.length_take];omega
 omega
theorem dues_append:∀(a b:List Dl) (j:Nat),duesR j (a++b)=duesR j a++duesR (j+a.length) b:=by
 intro a
 induction a with
 | nil=>intro b j;simp [duesR]
 | cons x r ih=>
   intro b j
   simp only [List.cons_append,duesR,ih,List.length_cons,show j+(r.length+1)=j+1+r.length by omega,List.append_assoc]
def duesTo (L:List Dl) (k:Nat):List Ml:=duesR 0 (L.take k)
theorem duesTo_zero (L:List Dl):duesTo L 0=[]:=by simp [duesTo,duesR]
theorem duesTo_next {L:List Dl} {k:Nat} {D:Dl} (h:L[k]?=some D):duesTo L (k+1)=duesTo L k++dueD (k:Int) D:=by
 have hk:=(List.getElem?_eq_some_iff.1 h).1
 unfold duesTo
 rw [take_snoc h,dues_append,List.length_take,Nat.min_eq_left (by omega),Nat.zero_add]
 simp [duesR]
theorem duesTo_all (L:List Dl):duesTo L L.length=duesR 0 L:=by
 unfold duesTo
 rw [List.take_of_length_le (Nat.le_refl _)]
theorem duesTo_len {L:List Dl} {k:Nat} (h:∀D∈L,Fit D.w):(duesTo L k).length<=4 * k:=by
 unfold duesTo
 have h1:=dues_len (L:=L.take k) (k:=0) (fun D hD=>h D (List.mem_of_mem_take hD))
 have h2:(L.take k).length<=k:=by rw [List.length_take];omega
 omega
def crashTo (L:List Dl) (k:Nat):List Dl:=(L.take k).map crashD++L.drop k
theorem crashTo_zero (L:List Dl):crashTo L 0=L:=by simp [crashTo]
theorem crashTo_all (L:List Dl):crashTo L L.length=L.map crashD:=by simp [crashTo]
theorem crashTo_at {L:List Dl} {k:Nat} {D:Dl} (h:L[k]?=some D):(crashTo L k)[k]?=some D:=by
 have hk:=(List.getElem?_eq_some_iff.1 h).1
 unfold crashTo
 rw [List.getElem?_append_right (by simp;omega),List.length_map,List.length_take,Nat.min_eq_left (by omega),Nat.sub_self,drop_cons h]
 rfl
theorem crashTo_next {L:List Dl} {k:Nat} {D:Dl} (h:L[k]?=some D):crashTo L (k+1)=(crashTo L k).set k (crashD D):=by
 have hk:=(List.getElem?_eq_some_iff.1 h).1
 unfold crashTo
 rw [take_snoc h,List.map_append,List.append_assoc,List.set_append_right _ _ (by simp;omega),List.length_map,List.length_take,Nat.min_eq_left (by omega),Nat.sub_self,drop_cons h]
 rfl
theorem crashTo_len (L:List Dl) (k:Nat):(crashTo L k).length=L.length:=by
 unfold crashTo
 rw [List.length_append,List.length_map,List.length_take,List.length_drop]
 omega
theorem rnew_any (w:World):Calls Tryz.prog 20 #[] w fun e w'=>(∃q O,e=.returned (.pointer (some ⟨q,0,none⟩))∧BrkIn O w' q ⟨[],[]⟩∧∀k,O k->w.heap.size<=k)∧Below w.heap.size w w':=by
 go_enter Tryz.func20,Tryz.ntmps20
 go_wp2_with fail
 go_ret
 refine ⟨⟨w.heap.size,fun k=>k=w.heap.size,rfl,⟨fun k hk=>by rw [hk];simp,rfl,by simp [go_sem],.slice none 0 0,.slice none 0 0,[],⟨rfl,by simp [go_sem],by simp [go_sem],World.ownsRow_nil _ _ _ _,World.ownsRow_nil _ _ _ _,by simp,?_⟩,?_⟩,fun k hk=>by rw [hk];exact Nat.le_refl _⟩,by go_grown⟩
 ·refine List.pairwise_cons.2 ⟨fun u hu k e _=>by simp [Value.ownBlock] at e,List.pairwise_singleton _ _⟩
 ·intro u hu k e
  simp at hu
  subst hu
  simp [Value.ownBlock] at e
theorem rhas_any (O:Nat->Prop) (B:Bok) (q:Nat) (n:Int) (w:World) (h:BrkIn O w q B) (hl:B.L.length<=8):Calls Tryz.prog 115 #[.pointer (some ⟨q,0,none⟩),.int .i64 n] w fun e w'=>e=.returned (.bool (dealAt B n).isSome)∧w'=w:=by
 obtain ⟨rv,dv,P,hR,_⟩:=h.raw
 have c0:=hR.c0
 obtain ⟨ga,cap,rfl⟩:=own_sl hR.row
 rw [<-hR.len] at c0
 clear h hR
 cases hd:dealAt B n with
 | none=>
   rcases dealAt_out hd with h0 | h0
   ·clear hd
    go_enter Tryz.func115,Tryz.ntmps115
    go_wp2_with fail
    go_ret
    exact ⟨rfl,rfl⟩
   ·have h1:0<=n:=by omega
    have h2:decide (n<(B.L.length:Int))=false:=by simpa using h0
    clear hd h0
    go_enter Tryz.func115,Tryz.ntmps115
    go_wp2_with fail
    go_ret
    exact ⟨rfl,rfl⟩
 | some D=>
   obtain ⟨k,rfl,hk,_⟩:=dealAt_some hd
   have h1:(0:Int)<=(k:Int):=by omega
   have h2:(k:Int)<(B.L.length:Int):=by omega
   clear hd
   go_enter Tryz.func115,Tryz.ntmps115
   go_wp2_with fail
   go_ret
   exact ⟨rfl,rfl⟩
theorem rstate_any (O:Nat->Prop) (B:Bok) (q:Nat) (n:Int) (w:World) (h:BrkIn O w q B) (hl:B.L.length<=8):Calls Tryz.prog 83 #[.pointer (some ⟨q,0,none⟩),.int .i64 n] w fun e w'=>e=.returned (.int .i64 (stR B n))∧w'=w:=by
 have HH:=rhas_any O B q n w h hl
 obtain ⟨rv,dv,P,hR,_⟩:=h.raw
 unfold stR
 cases hd:dealAt B n with
 | none=>
   rw [hd] at HH
   clear hd hR
   go_enter Tryz.func83,Tryz.ntmps83
   go_wp2_with fail
   refine HH.mono ?_
   rintro e w' ⟨rfl,rfl⟩
   go_wp2_with fail
   go_ret
   exact ⟨rfl,rfl⟩
 | some D=>
   rw [hd] at HH
   obtain ⟨k,rfl,hk,hkD⟩:=dealAt_some hd
   obtain ⟨g,cap,v,rfl,_,h9,_,_,_⟩:=hR.deal9 hkD
   have c0:=hR.c0
   have d1:=h9.c1
   have h1:(0:Int)<=(k:Int):=by omega
   have h2:(k:Int)<(B.L.length:Int):=by omega
   have h3:(B.L.length:Int)<=8:=by omega
   clear hd hkD hR h9 h
   go_enter Tryz.func83,Tryz.ntmps83
   go_wp2_with fail
   refine HH.mono ?_
   rintro e w' ⟨rfl,rfl⟩
   go_wp2_with fail
   go_ret
   exact ⟨rfl,rfl⟩
theorem flat_one (l:List (Int × Int)):∀u∈flat l,u.oneCell'=true:=by
 intro u hu
 unfold flat at hu
 rw [List.mem_flatMap] at hu
 obtain ⟨x,_,hx⟩:=hu
 simp only [List.mem_cons,List.not_mem_nil,or_false] at hx
 rcases hx with rfl | rfl <;> rfl
theorem nums_one (l:List Int):∀u∈l.map (Value.int .i64),u.oneCell'=true:=by
 intro u hu
 obtain ⟨x,_,rfl⟩:=List.mem_map.1 hu
 rfl
theorem rwants_any (O:Nat->Prop) (B:Bok) (q:Nat) (n:Int) (w:World) (h:BrkIn O w q B) (hI:BInv B):
 Calls Tryz.prog 110 #[.pointer (some ⟨q,0,none⟩),.int .i64 n] w fun e w'=>(∃v,e=.returned v∧w'.ownsRow w.heap.size 97 2 v (wantsR B n).length (flat (wantsR B n)))∧Below w.heap.size w w':=by
 have hl:=hI.len
 have HH:=rhas_any O B q n w h hl
 obtain ⟨rv,dv,P,hR,_⟩:=h.raw
 obtain ⟨i0,hi,hz0,hz1,hz2⟩:=info_parts infoWant
 unfold wantsR
 cases hd:dealAt B n with
 | none=>
   rw [hd] at HH
   clear hd hR
   go_enter Tryz.func110,Tryz.ntmps110
   go_wp2_with fail
   refine HH.mono ?_
   rintro e w' ⟨rfl,rfl⟩
   go_wp2_with fail
   go_ret
   exact ⟨⟨_,rfl,World.ownsRow_nil _ _ _ _⟩,Below.refl _ _⟩
 | some D=>
   rw [hd] at HH
   have hF:=hI.fit D (dealAt_mem hd)
   have HLen:Hid (D.w.length<=4):=hF.few
   have hpos:=hF.pos
   obtain ⟨k,rfl,hk,hkD⟩:=dealAt_some hd
   obtain ⟨g,cap,v,rfl,_,h9,hrow,_,_⟩:=hR.deal9 hkD
   obtain ⟨gw,capw,rfl⟩:=own_any hrow (by omega)
   obtain ⟨_,_,_,_,hcell⟩:=own_row hrow
   have HC:Hid _:=hcell
   have HL:Hid _:=flat_length D.w
   have c0:=hR.c0
   have d1:=h9.c0
   have h1:(0:Int)<=(k:Int):=by omega
   have h2:(k:Int)<(B.L.length:Int):=by omega
   have h3:(B.L.length:Int)<=8:=by omega
   clear hd hkD hR h9 h hrow hcell
   go_enter Tryz.func110,Tryz.ntmps110
   go_wp2_with fail
   refine HH.mono ?_
   rintro e w' ⟨rfl,rfl⟩
   go_wp2_with (at_builtin;refine wpList_append_own _ rfl (.const (.slice none 0 0)) (.tmp 16) 93 rfl w'.heap.size 97 i0 (.agg #[.int .i64 0,.int .i64 0]) 2 16 Tryz.underlying93 hi hz0 hz1 hz2 rfl (by decide) (.slice none 0 0) 0 [] rfl (World.ownsRow_nil _ _ _ _) ⟨gw,0,none⟩ D.w.length capw (flat D.w) rfl HL.out (fun j u hj=>by rw [addr_add];exact HC.out j u hj) (flat_one _) (by have:=HLen.out;unfold maxLen;omega) (by have:=HLen.out;omega) (Nat.le_refl _) ?_;intro v7 w7 hown7 hgrow7 _)
   have hown8:w7.ownsRow w'.heap.size 97 2 v7 D.w.length (flat D.w):=by simpa using hown7
   go_ret
   exact ⟨⟨v7,rfl,hown8⟩,(Below.refl _ _).grown hgrow7 (Nat.le_refl _) (fun k e=>by simp [Value.ownBlock] at e)⟩
theorem rdone_any (O:Nat->Prop) (B:Bok) (q:Nat) (w:World) (h:BrkIn O w q B) (hl:B.ord.length<1000):
 Calls Tryz.prog 79 #[.pointer (some ⟨q,0,none⟩)] w fun e w'=>(∃v,e=.returned v∧w'.ownsRow w.heap.size 3 1 v B.ord.length (B.ord.map (Value.int .i64)))∧Below w.heap.size w w':=by
 obtain ⟨i0,hi,hz0,hz1,hz2⟩:=info_parts infoInt
 obtain ⟨rv,dv,P,hR,_⟩:=h.raw
 have c1:=hR.c1
 have hrow:=hR.ord
 have HRow:Hid (w.ownsRow (q+1) 3 1 dv B.ord.length (B.ord.map (Value.int .i64))):=hrow
 have HLen:Hid (B.ord.length<1000):=hl
 clear h hR hl hrow
 rcases HRow.out.2 with ⟨rfl,e0⟩ | ⟨g,cap,cur,rfl,_⟩
 ·have e1:B.ord=[]:=List.length_eq_zero_iff.1 e0
  rw [e1]
  clear HRow e0 e1
  go_enter Tryz.func79,Tryz.ntmps79
  go_wp2_with fail
  go_ret
  exact ⟨⟨.slice none 0 0,rfl,World.ownsRow_nil _ _ _ _⟩,Below.refl _ _⟩
 ·obtain ⟨_,_,_,_,hcell⟩:=own_row HRow.out
  have HC:Hid _:=hcell
  clear hcell
  have HL:Hid ((B.ord.map (Value.int .i64)).length=B.ord.length * 1):=by show _=_;simp
  go_enter Tryz.func79,Tryz.ntmps79
  go_wp2_with (at_builtin;refine wpList_append_own _ rfl (.const (.slice none 0 0)) (.tmp 6) 66 rfl w.heap.size 3 i0 (.int .i64 0) 1 8 Tryz.underlying66 hi hz0 hz1 hz2 rfl (by decide) (.slice none 0 0) 0 [] rfl (World.ownsRow_nil _ _ _ _) ⟨g,0,none⟩ B.ord.length cap (B.ord.map (Value.int .i64)) rfl HL.out (fun j u hj=>by rw [addr_add];exact HC.out j u hj) (nums_one _) (by have:=HLen.out;unfold maxLen;omega) (by have:=HLen.out;omega) (Nat.le_refl _) ?_;intro v7 w7 hown7 hgrow7 _)
  have hown8:w7.ownsRow w.heap.size 3 1 v7 B.ord.length (B.ord.map (Value.int .i64)):=by simpa using hown7
  go_ret
  exact ⟨⟨v7,rfl,hown8⟩,(Below.refl _ _).grown hgrow7 (Nat.le_refl _) (fun k e=>by simp [Value.ownBlock] at e)⟩
theorem dcells_st (D:Dl) (v:Value) (x:Int):dcells ({ D with st:=x },v)=(dcells (D,v)).set 1 (.int .i64 x):=rfl
theorem rquit_any (O:Nat->Prop) (B:Bok) (q:Nat) (n:Int) (w:World) (h:BrkIn O w q B) (hI:BInv B):
 Calls Tryz.prog 138 #[.pointer (some ⟨q,0,none⟩),.int .i64 n] w fun e w'=>e=.returned (.int .i64 (quitR B n).1)∧BrkTo O w w' q (quitR B n).2:=by
 have hl:=hI.len
 have HH:=rhas_any O B q n w h hl
 obtain ⟨rv,dv,P,hR,hsub⟩:=h.raw
 have HI:Hid (BrkIn O w q B):=h
 unfold quitR
 cases hd:dealAt B n with
 | none=>
   rw [hd] at HH
   clear hd hR
   go_enter Tryz.func138,Tryz.ntmps138
   go_wp2_with fail
   refine HH.mono ?_
   rintro e w' ⟨rfl,rfl⟩
   go_wp2_with fail
   go_ret
   exact ⟨rfl,BrkTo.stay HI.out (Below.refl _ _)⟩
 | some D=>
   rw [hd] at HH
   obtain ⟨k,rfl,hk,hkD⟩:=dealAt_some hd
   obtain ⟨g,cap,v,rfl,hP,h9,_,_,_⟩:=hR.deal9 hkD
   have c0:=hR.c0
   have d1:=h9.c1
   have d2:=h9.fr
   have h1:(0:Int)<=(k:Int):=by omega
   have h2:(k:Int)<(B.L.length:Int):=by omega
   have h3:(B.L.length:Int)<=8:=by omega
   by_cases h0:D.st=0
   ·have HE:Hid (BrkTo O w (w.setCell ⟨g,k * 9+1,none⟩ (.int .i64 2)) q (putD B (k:Int) { D with st:=2 })):=by
     have hS:Save O w (w.setCell ⟨g,k * 9+1,none⟩ (.int .i64 2)):=Save.setCell (Save.refl _ _) (p:=⟨g,k * 9+1,none⟩) (fun _=>hsub _ List.mem_cons_self g rfl) _
     refine brk_to h.own h.mine hS (hR.set h.lt hP (by decide) rfl (dcells_st D v 2)) (by simpa [go_sem] using h.loose) ?_
     intro u hu j hj
     rw [map_set_snd hP] at hu
     exact ⟨.inl (hsub u hu j hj),by simpa using h.own j (hsub u hu j hj)⟩
    simp only [if_pos h0]
    have h0':(D.st != 0)=false:=by simp [h0]
    clear hd hkD hR h9 h hsub h0 hP
    go_enter Tryz.func138,Tryz.ntmps138
    go_wp2_with fail
    refine HH.mono ?_
    rintro e w' ⟨rfl,rfl⟩
    go_wp2_with fail
    go_ret
    exact ⟨rfl,HE.out⟩
   ·simp only [if_neg h0]
    have h0':(D.st != 0)=true:=by simpa using h0
    clear hd hkD hR h9 h hsub h0 hP
    go_enter Tryz.func138,Tryz.ntmps138
    go_wp2_with fail
    refine HH.mono ?_
    rintro e w' ⟨rfl,rfl⟩
    go_wp2_with fail
    go_ret
    exact ⟨rfl,BrkTo.stay HI.out (Below.refl _ _)⟩
theorem wants_cells {w:World} {b off:Nat} {l:List (Int × Int)} (h:WantsAt w (some ⟨b,off,none⟩) l):∀j u,(flat l)[j]?=some u->w.cell? ((⟨b,off,none⟩:Addr).add j)=some u:=by
 intro j u hj
 have hl:j<l.length * 2:=by have:=(List.getElem?_eq_some_iff.1 hj).1;rwa [flat_length] at this
 obtain ⟨⟨c,d⟩,hk⟩:∃x,l[j / 2]?=some x:=⟨_,List.getElem?_eq_getElem (by omega)⟩
 obtain ⟨b',o',e,hlt,h0,h1⟩:=h _ c d hk
 obtain ⟨rfl,rfl⟩:b=b'∧off=o':=by simpa using e
 obtain ⟨f0,f1⟩:=flat_at l _ c d hk
 have ha:(⟨b,off,none⟩:Addr).add j=⟨b,off+j,none⟩:=by unfold Addr.add;split <;> simp_all
 rw [ha]
 rcases Nat.mod_two_eq_zero_or_one j with e | e
 ·have ej:j / 2 * 2=j:=by omega
  rw [ej] at f0 h0
  rw [f0] at hj
  rw [h0,<-hj]
 ·have ej:j / 2 * 2+1=j:=by omega
  rw [ej] at f1
  rw [Nat.add_assoc,ej] at h1
  rw [f1] at hj
  rw [h1,<-hj]
theorem infoDeal:(Tryz.prog.info? 191).map (fun i=>(i.zero,i.size,i.bytes))=some (some (.agg #[.slice none 0 0,.int .i64 0,.bool false,.bool false,.bool false,.bool false,.bool false,.bool false,.bool false]),9,40):=by kernel_rfl
theorem deal_lies {W:World} {H:Nat} {a b c d e f g h i:Value} (h0:W.cell? ⟨H,0,none⟩=some a) (h1:W.cell? ⟨H,1,none⟩=some b) (h2:W.cell? ⟨H,2,none⟩=some c) (h3:W.cell? ⟨H,3,none⟩=some d) (h4:W.cell? ⟨H,4,none⟩=some e) (h5:W.cell? ⟨H,5,none⟩=some f) (h6:W.cell? ⟨H,6,none⟩=some g) (h7:W.cell? ⟨H,7,none⟩=some h) (h8:W.cell? ⟨H,8,none⟩=some i):∀j u,[a,b,c,d,e,f,g,h,i][j]?=some u->W.cell? ((⟨H,0,none⟩:Addr).add j)=some u:=by
 intro j u hj
 match j,hj with
 | 0,hj=>simp at hj;subst hj;simpa [Addr.add] using h0
 | 1,hj=>simp at hj;subst hj;simpa [Addr.add] using h1
 | 2,hj=>simp at hj;subst hj;simpa [Addr.add] using h2
 | 3,hj=>simp at hj;subst hj;simpa [Addr.add] using h3
 | 4,hj=>simp at hj;subst hj;simpa [Addr.add] using h4
 | 5,hj=>simp at hj;subst hj;simpa [Addr.add] using h5
 | 6,hj=>simp at hj;subst hj;simpa [Addr.add] using h6
 | 7,hj=>simp at hj;subst hj;simpa [Addr.add] using h7
 | 8,hj=>simp at hj;subst hj;simpa [Addr.add] using h8
 | j+9,hj=>simp at hj
theorem deal_cell {ga:Option Addr} {n c:Nat}:∀u∈[Value.slice ga n c,.int .i64 0,.bool false,.bool false,.bool false,.bool false,.bool false,.bool false,.bool false],u.oneCell'=true:=by
 intro u hu
 simp only [List.mem_cons,List.not_mem_nil,or_false] at hu
 rcases hu with rfl | rfl | rfl | rfl | rfl | rfl | rfl | rfl | rfl <;> rfl
theorem beginR_bad {B:Bok} {l:List (Int × Int)} (h:(chkW l).1 ≠ 0):beginR B l=(0,(chkW l).1,B):=by unfold beginR;rw [if_neg h]
theorem beginR_full {B:Bok} {l:List (Int × Int)} (h:(chkW l).1=0) (h8:8<=B.L.length):beginR B l=(0,6,B):=by unfold beginR;rw [if_pos h,if_pos h8]
theorem beginR_ok {B:Bok} {l:List (Int × Int)} (h:(chkW l).1=0) (h8:¬8<=B.L.length):beginR B l=((B.L.length:Int),0,{ B with L:=B.L++[⟨l,0,[],[]⟩] }):=by unfold beginR;rw [if_pos h,if_neg h8]
theorem rbegin_any (O:Nat->Prop) (B:Bok) (q:Nat) (la:Option Addr) (ll lc:Nat) (l:List (Int × Int)) (w:World) (h:BrkIn O w q B) (hI:BInv B) (hl:WantsAt w la l) (hll:l.length=ll):
 Calls Tryz.prog 134 #[.pointer (some ⟨q,0,none⟩),.slice la ll lc] w fun e w'=>e=.returned (.tuple #[.int .i64 (beginR B l).1,.int .i64 (beginR B l).2.1])∧BrkTo O w w' q (beginR B l).2.2:=by
 have HC:=pcheck_any la ll lc l w hl hll
 have HI:Hid (BrkIn O w q B):=h
 by_cases hc:(chkW l).1=0
 ·have hc':((chkW l).1 != 0)=false:=by simp [hc]
  have hF:=fit_iff.1 hc
  obtain ⟨rv,dv,P,hR,hsub⟩:=h.raw
  have c0:=hR.c0
  obtain ⟨ga,cap,rfl⟩:=own_sl hR.row
  rw [<-hR.len] at c0
  have hql:=h.lt
  by_cases h8:8<=B.L.length
  ·rw [beginR_full hc h8]
   have h8':(8:Int)<=(B.L.length:Int):=by omega
   clear hR hsub h hc h8 hI hF
   go_enter Tryz.func134,Tryz.ntmps134
   go_wp2_with fail
   refine HC.mono ?_
   rintro e w1 ⟨rfl,hb1⟩
   have c0':w1.cell? ⟨q,0,none⟩=some (.slice ga B.L.length cap):=((bcell hb1).1 _ _ hql).trans c0
   have hql1:q<w1.heap.size:=Nat.lt_of_lt_of_le hql hb1.size
   clear c0
   go_wp2_with fail
   go_ret2
   exact ⟨rfl,BrkTo.stay HI.out (after hb1 (by go_grown) hb1.size)⟩
  ·rw [beginR_ok hc h8]
   have h8':¬(8:Int)<=(B.L.length:Int):=by omega
   obtain ⟨i0,hi,hz0,hz1,hz2⟩:=info_parts infoWant
   obtain ⟨j0,hj,hy0,hy1,hy2⟩:=info_parts infoDeal
   have hpos:=hF.pos
   have HLen:Hid (l.length<=4):=hF.few
   obtain ⟨⟨c,d⟩,hk0⟩:∃x,l[0]?=some x:=⟨_,List.getElem?_eq_getElem hpos⟩
   obtain ⟨b,off,rfl,hbl,_,_⟩:=hl 0 c d hk0
   have HR:Hid (BrkRaw w q B (.slice ga P.length cap) dv P):=hR
   have HSub:Hid (∀u∈(.slice ga P.length cap:Value) :: dv :: P.map Prod.snd,∀k,u.ownBlock=some k->O k):=hsub
   have HPl:Hid (P.length=B.L.length):=hR.len.symm
   have HLn8:Hid (B.L.length<=8):=hI.len
   have HW:Hid (WantsAt w (some ⟨b,off,none⟩) l):=hl
   have HFl:Hid ((flat l).length=l.length * 2):=flat_length l
   subst hll
   clear hR hsub h hc h8 hI hF hl hk0
   go_enter Tryz.func134,Tryz.ntmps134
   go_wp2_with fail
   refine HC.mono ?_
   rintro e w1 ⟨rfl,hb1⟩
   go_upto_region 2 with fail
   have hb2:Below w.heap.size w (w1.alloc (.cells #[.int .i64 (chkW l).1,.int .i64 (chkW l).2] 31)):=after hb1 (by go_grown) hb1.size
   have hX:=BoxAt.new w1 [.int .i64 (chkW l).1,.int .i64 (chkW l).2] 31
   have x0:=hX.2 0 _ rfl
   change (w1.alloc (.cells #[.int .i64 (chkW l).1,.int .i64 (chkW l).2] 31)).cell? _=_ at x0
   generalize (w1.alloc (.cells #[.int .i64 (chkW l).1,.int .i64 (chkW l).2] 31))=w2 at hb2 x0 ⊢
   generalize w1.heap.size=B1 at x0 ⊢
   have c0':w2.cell? ⟨q,0,none⟩=some (.slice ga B.L.length cap):=((bcell hb2).1 _ _ hql).trans c0
   have hql2:q<w2.heap.size:=Nat.lt_of_lt_of_le hql hb2.size
   have hf2:∀k,w2.frozen? ⟨q,k,none⟩=false:=(HI.out.next hb2).loose
   have HR2:Hid (BrkRaw w2 q B (.slice ga P.length cap) dv P):=HR.out.save hql (.of_below (O:=fun _=>False) hb2) (fun q=>q) (fun _ _ _ _ q=>q)
   have HWc:Hid (∀j u,(flat l)[j]?=some u->w2.cell? ((⟨b,off,none⟩:Addr).add j)=some u):=wants_cells (HW.out.below hb2 (Nat.le_refl _))
   have HB2:Hid _:=hb2
   clear c0 hb1 hX HC hb2 hbl
   go_upto_region 7 with fail
   have HRow:Hid (w2.ownsRow (q+1) 191 9 (.slice ga B.L.length cap) B.L.length (flatB P)):=by
    have:=HR2.out.row
    rw [HPl.out] at this
    exact this
   have HN1:Hid (some q ≠ (.slice ga B.L.length cap:Value).ownBlock):=fun e=>by have:=(HRow.out.lt q e.symm).1;omega
   go_region_law
    (first | (refine step_append_two (by rfl) (.const (.slice none 0 0)) (.tmp 27) 93 (by rfl) w2.heap.size 97 i0 (.agg #[.int .i64 0,.int .i64 0]) 2 16 Tryz.underlying93 hi hz0 hz1 hz2 rfl (by decide) (.slice none 0 0) 0 [] (by rfl) (World.ownsRow_nil _ _ _ _) ⟨b,off,none⟩ l.length lc (flat l) (by rfl) HFl.out (fun j u hj=>HWc.out j u hj) (flat_one _) (by have:=HLen.out;unfold maxLen;omega) (by have:=HLen.out;omega) (by simp) hpos ?_;intro v7 w7 hown7 hgrow7 hwh7;have hown7':w7.ownsRow w2.heap.size 97 2 v7 l.length (flat l):=(by simpa using hown7);clear hown7;obtain ⟨ga7,cap7,rfl⟩:=own_sl hown7';have HO7:Hid (w7.ownsRow w2.heap.size 97 2 (.slice ga7 l.length cap7) l.length (flat l)):=hown7';clear hown7' hwh7;have HB7:Hid (Below w2.heap.size w2 w7):=(((Below.refl _ _).drew).grown hgrow7 (by simp) (fun k e=>by simp [Value.ownBlock] at e));have hz7:w2.heap.size<=w7.heap.size:=HB7.out.size;have hq7:q<w7.heap.size:=Nat.lt_of_lt_of_le hql2 hz7;have k7:w7.cell? ⟨q,0,none⟩=some (.slice ga B.L.length cap):=((bcell HB7.out).1 _ _ hql2).trans c0';have f7:∀k,w7.frozen? ⟨q,k,none⟩=false:=loose q HB7.out hql2 hf2;clear hgrow7) | (refine step_append_two (by rfl) (.tmp 26) (.tmp 30) 121 (by rfl) (q+1) 191 j0 (.agg #[.slice none 0 0,.int .i64 0,.bool false,.bool false,.bool false,.bool false,.bool false,.bool false,.bool false]) 9 40 Tryz.underlying121 hj hy0 hy1 hy2 rfl (by decide) (.slice ga B.L.length cap) _ _ (by rfl) (own_next (own_next HRow.out HB7.out) ((Below.refl _ _).alloc (Nat.le_refl _) _)) ⟨w7.heap.size,0,none⟩ 1 1 [.slice ga7 l.length cap7,.int .i64 0,.bool false,.bool false,.bool false,.bool false,.bool false,.bool false,.bool false] (by rfl) rfl (deal_lies (by simp [go_sem]) (by simp [go_sem]) (by simp [go_sem]) (by simp [go_sem]) (by simp [go_sem]) (by simp [go_sem]) (by simp [go_sem]) (by simp [go_sem]) (by simp [go_sem])) deal_cell (by have:=HLn8.out;unfold maxLen;omega) (by have:=HLn8.out;omega) (by simp;omega) (by decide) ?_;intro v8 w8 hown8 hgrow8 hwh8;obtain ⟨ga8,cap8,rfl⟩:=own_sl hown8;have HO8:Hid (w8.ownsRow (q+1) 191 9 (.slice ga8 (B.L.length+1) cap8) (B.L.length+1) (flatB P++[.slice ga7 l.length cap7,.int .i64 0,.bool false,.bool false,.bool false,.bool false,.bool false,.bool false,.bool false])):=hown8;clear hown8;have HW8:Hid _:=hwh8;clear hwh8;have k8:w8.cell? ⟨q,0,none⟩=some (.slice ga B.L.length cap):=hgrow8.cell (by simp [go_sem,k7,hq7]) HN1.out;have f8:∀k,w8.frozen? ⟨q,k,none⟩=false:=fun k=>(World.frozen?_of_block (hgrow8.block q (by simp;omega) HN1.out)).trans (by simp [go_sem,f7,hq7])))
   all_goals
    go_wp2_with fail
    go_ret2
    have hr7:w7.ownsRow (q+1) 97 2 (.slice ga7 l.length cap7) l.length (flat l):=by
     refine ⟨HO7.out.1,HO7.out.2.imp id ?_⟩
     rintro ⟨g,cap,cur,h1,h2,h3⟩
     exact ⟨g,cap,cur,h1,by omega,h3⟩
    have hB0:Below w.heap.size w w7:=after HB2.out HB7.out HB2.out.size
    have h8:Save (fun k=>(Value.slice ga B.L.length cap).ownBlock=some k) w7 w8:=(Save.of_below (by go_grown)).grown hgrow8 (fun k e _=>e)
    have hR9:=HR.out.begin (l:=l) (v7:=.slice ga7 l.length cap7) (v8:=.slice ga8 (B.L.length+1) cap8) hql (HI.out.rows HSub.out) hB0 hr7 (fun j hj=>⟨Nat.le_trans HB2.out.size (HO7.out.lt j hj).1,(HO7.out.lt j hj).2⟩) (by rw [HPl.out];exact h8) (by rw [HPl.out];exact HO8.out) (fun j hj=>by rw [HPl.out];exact (HW8.out j hj).imp id (fun e=>by rw [e];simp))
    refine ⟨rfl,brk_to HI.out.own HI.out.mine ?_ hR9 (by simpa [go_sem] using f8) ?_⟩
    ·exact (((Save.of_below hB0).trans h8 (fun j _ e=>HSub.out _ List.mem_cons_self j (by rw [HPl.out];exact e)))).setCell (p:=⟨q,0,none⟩) (fun _=>HI.out.mine) _
    ·intro u hu k hk
     have hsz:(w8.setCell (⟨q,0,none⟩:Addr) (.slice ga8 (B.L.length+1) cap8)).heap.size=w8.heap.size:=by simp
     rw [hsz]
     have z1:=hB0.size
     have z8:=h8.size
     have old:∀x∈(.slice ga P.length cap:Value) :: dv :: P.map Prod.snd,x.ownBlock=some k->(O k∨w.heap.size<=k)∧k<w8.heap.size:=fun x hx hk=>⟨.inl (HSub.out x hx k hk),by have:=HI.out.own k (HSub.out x hx k hk);omega⟩
     rw [List.map_append] at hu
     rcases List.mem_cons.1 hu with rfl | hu
     ·refine ⟨?_,(HO8.out.lt k hk).2⟩
      rcases HW8.out k hk with e | e
      ·exact (old _ List.mem_cons_self (by rw [HPl.out];exact e)).1
      ·right
       simp at e
       omega
     ·rcases List.mem_cons.1 hu with rfl | hu
      ·exact old _ (by simp) hk
      ·rcases List.mem_append.1 hu with hu | hu
       ·exact old _ (by simp [hu]) hk
       ·simp at hu
        subst hu
        have:=HO7.out.lt k hk
        have:=HB2.out.size
        exact ⟨.inr (by omega),by omega⟩
 ·rw [beginR_bad hc]
  have hc':((chkW l).1 != 0)=true:=by simpa using hc
  clear h hc hI
  go_enter Tryz.func134,Tryz.ntmps134
  go_wp2_with fail
  refine HC.mono ?_
  rintro e w1 ⟨rfl,hb1⟩
  go_wp2_with fail
  go_quiet (fail)
  go_wp2_with fail
  go_ret2
  exact ⟨rfl,BrkTo.stay HI.out (bdrewN (after hb1 (by go_grown) hb1.size) _)⟩
theorem eqWn (a b c d:Int) (W:World):(Op.equalIn 10000 97 (.agg #[.int .i64 a,.int .i64 b]) (.agg #[.int .i64 c,.int .i64 d])).run Tryz.prog W=.ok (a == c && b == d) W:=by
 rw [show (10000:Nat)=9999+1 from rfl]
 simp [Op.eqFields,go_sem]
 repeat' split
 all_goals simp_all
def ixW (l:List (Int × Int)) (c d:Int):Int:=match wantAt l c d with
 | some k=>(k:Int)
 | none=> -1
theorem ixW_hit {l:List (Int × Int)} {k:Nat} {c d:Int} (h:l[k]?=some (c,d)) (hn:(c,d) ∉ l.take k):ixW l c d=(k:Int):=by
 have:wantAt l c d=some k:=by
  unfold wantAt
  obtain ⟨hk,hx⟩:=List.getElem?_eq_some_iff.1 h
  rw [List.findIdx?_eq_some_iff_getElem]
  refine ⟨hk,by rw [hx];simp,fun j hj=>?_⟩
  simp only [Bool.not_eq_true,Bool.and_eq_false_imp,beq_iff_eq,beq_eq_false_iff_ne,ne_eq]
  intro e1 e2
  refine hn ?_
  have hm:l[j]∈l.take k:=by
   rw [List.mem_take_iff_getElem]
   exact ⟨j,by omega,rfl⟩
  rw [show (c,d)=l[j] from (Prod.ext e1 e2).symm]
  exact hm
 unfold ixW
 rw [this]
theorem ixW_miss {l:List (Int × Int)} {c d:Int} (h:(c,d) ∉ l):ixW l c d= -1:=by
 have:wantAt l c d=none:=by
  unfold wantAt
  rw [List.findIdx?_eq_none_iff]
  intro x hx
  simp only [Bool.and_eq_false_imp,beq_iff_eq,beq_eq_false_iff_ne,ne_eq]
  intro e1 e2
  exact h (by rw [<-e1,<-e2];exact hx)
 unfold ixW
 rw [this]
theorem not_take_next {l:List (Int × Int)} {k:Nat} {c d a b:Int} (h:(c,d) ∉ l.take k) (hk:l[k]?=some (a,b)) (he:(c == a && d == b)=false):(c,d) ∉ l.take (k+1):=by
 rw [take_snoc hk,List.mem_append,List.mem_singleton]
 rintro (q | q)
 ·exact h q
 ·obtain ⟨rfl,rfl⟩:=Prod.mk.inj q
  simp at he
theorem ridx_any (la:Option Addr) (n cap:Nat) (l:List (Int × Int)) (c d:Int) (w:World) (hl:WantsAt w la l) (hll:l.length=n) (hs:n<1000):
 Calls Tryz.prog 174 #[.slice la n cap,.agg #[.int .i64 c,.int .i64 d]] w fun e w'=>e=.returned (.int .i64 (ixW l c d))∧Below w.heap.size w w':=by
 go_enter Tryz.func174,Tryz.ntmps174
 go_upto_region 1 with fail
 have hX:=BoxAt.new w [.int .i64 c,.int .i64 d] 97
 have hb1:Below w.heap.size w (w.alloc (.cells #[.int .i64 c,.int .i64 d] 97)):=(Below.refl _ _).alloc (Nat.le_refl _) _
 change BoxAt (w.alloc (.cells #[.int .i64 c,.int .i64 d] 97)) _ _ at hX
 generalize (w.alloc (.cells #[.int .i64 c,.int .i64 d] 97))=w1 at hX hb1 ⊢
 generalize w.heap.size=B at hX ⊢
 have hl1:WantsAt w1 la l:=hl.below hb1 (Nat.le_refl _)
 clear hl
 go_wp2_with fail
 go_loopg [5,8] n (fun gg _ s8 wr=>∃k:Nat,k<=n∧gg=n - k∧s8=.int .i64 k∧Hid ((c,d) ∉ l.take k)∧Below w1.heap.size w1 wr)
 case atStart=>exact ⟨0,Nat.zero_le _,rfl,rfl,by simp [Hid],Below.refl _ _⟩
 case round=>
  obtain ⟨k,hk,rfl,rfl,HE,hS⟩:=hrel
  by_cases hlt:k<n
  ·obtain ⟨⟨a,b⟩,hkl⟩:∃x,l[k]?=some x:=⟨_,List.getElem?_eq_getElem (by omega)⟩
   obtain ⟨bl,ol,rfl,hbl,h0,h1⟩:=hl1 k a b hkl
   have j0:(0:Int)<=(k:Int):=by omega
   have j1:(k:Int)<(n:Int):=by omega
   have j2:(n:Int)<1000:=by omega
   have p0:wr.cell? ⟨bl,ol+k * 2,none⟩=some (.int .i64 a):=(hS.cell (p:=⟨bl,ol+k * 2,none⟩) hbl).trans h0
   have p1:wr.cell? ⟨bl,ol+k * 2+1,none⟩=some (.int .i64 b):=(hS.cell (p:=⟨bl,ol+k * 2+1,none⟩) hbl).trans h1
   have hX2:=hX.next hS
   have x0:=hX2.2 0 _ rfl
   have x1:=hX2.2 1 _ rfl
   clear h0 h1 hl1 hX2
   cases hq:(c == a && d == b) with
   | false=>
     have HE2:Hid _:=not_take_next HE.out hkl hq
     have hq1:∀W:World,(Op.equalIn 10000 97 (.agg #[.int .i64 c,.int .i64 d]) (.agg #[.int .i64 a,.int .i64 b])).run Tryz.prog W=.ok false W:=fun W=>by rw [eqWn,hq]
     clear hq hkl
     go_wp2_with fail
     go_quiet (fail)
     go_wp2_with fail
     go_roundg (n - (k+1))
     case measure=>omega
     case rel=>exact ⟨k+1,by omega,rfl,by simp,HE2,bdrewN hS _⟩
   | true=>
     have hq1:∀W:World,(Op.equalIn 10000 97 (.agg #[.int .i64 c,.int .i64 d]) (.agg #[.int .i64 a,.int .i64 b])).run Tryz.prog W=.ok true W:=fun W=>by rw [eqWn,hq]
     have HE2:Hid (ixW l c d=(k:Int)):=by
      simp only [Bool.and_eq_true,beq_iff_eq] at hq
      obtain ⟨rfl,rfl⟩:=hq
      exact ixW_hit hkl HE.out
     clear hq hkl
     go_wp2_with fail
     go_quiet (fail)
     go_wp2_with fail
     go_ret
     exact ⟨ret_int HE2.out.symm,bdrewN (hb1.trans (hS.mono hb1.size)) _⟩
  ·have hkk:k=n:=by omega
   subst hkk
   go_wp2_with fail
   go_ret
   refine ⟨ret_int ?_,hb1.trans (hS.mono hb1.size)⟩
   have q:=HE.out
   rw [List.take_of_length_le (by omega)] at q
   exact (ixW_miss q).symm
def IxN (l:List Int) (x r:Int):Prop:=(0<=r∧x∈l)∨(r= -1∧x ∉ l)
theorem ridn_any (la:Option Addr) (n cap:Nat) (l:List Int) (x:Int) (w:World) (hl:NumsAt w la l) (hll:l.length=n) (hs:n<1000):
 Calls Tryz.prog 179 #[.slice la n cap,.int .i64 x] w fun e w'=>(∃r,e=.returned (.int .i64 r)∧IxN l x r)∧w'=w:=by
 go_enter Tryz.func179,Tryz.ntmps179
 go_wp2_with fail
 go_loopg [5,8] n (fun gg _ s8 wr=>∃k:Nat,k<=n∧gg=n - k∧s8=.int .i64 k∧Hid (x ∉ l.take k)∧w=wr)
 case atStart=>exact ⟨0,Nat.zero_le _,rfl,rfl,by simp [Hid],rfl⟩
 case round=>
  obtain ⟨k,hk,rfl,rfl,HE,rfl⟩:=hrel
  by_cases hlt:k<n
  ·obtain ⟨a,hkl⟩:∃x,l[k]?=some x:=⟨_,List.getElem?_eq_getElem (by omega)⟩
   obtain ⟨bl,ol,rfl,hbl,h0⟩:=hl k a hkl
   have j0:(0:Int)<=(k:Int):=by omega
   have j1:(k:Int)<(n:Int):=by omega
   have j2:(n:Int)<1000:=by omega
   clear hl
   by_cases he:x=a
   ·have he':(x == a)=true:=by simp [he]
    have HE2:Hid (x∈l):=by rw [he];exact List.mem_of_getElem? hkl
    clear he
    go_wp2_with fail
    go_ret
    exact ⟨⟨_,rfl,.inl ⟨by omega,HE2.out⟩⟩,rfl⟩
   ·have he':(x == a)=false:=by simpa using he
    have HE2:Hid (x ∉ l.take (k+1)):=by
     show ¬_
     rw [take_snoc hkl,List.mem_append,List.mem_singleton]
     rintro (q | q)
     ·exact HE.out q
     ·exact he q
    clear he
    go_wp2_with fail
    go_roundg (n - (k+1))
    case measure=>omega
    case rel=>exact ⟨k+1,by omega,rfl,by simp,HE2,rfl⟩
  ·have hkk:k=n:=by omega
   subst hkk
   go_wp2_with fail
   go_ret
   refine ⟨⟨_,rfl,.inr ⟨rfl,?_⟩⟩,rfl⟩
   have q:=HE.out
   rw [List.take_of_length_le (by omega)] at q
   exact q
theorem rcon_any (la:Option Addr) (n cap:Nat) (l:List Int) (x:Int) (w:World) (hl:NumsAt w la l) (hll:l.length=n) (hs:n<1000):
 Calls Tryz.prog 175 #[.slice la n cap,.int .i64 x] w fun e w'=>e=.returned (.bool (decide (x∈l)))∧w'=w:=by
 have HC:=ridn_any la n cap l x w hl hll hs
 clear hl
 go_enter Tryz.func175,Tryz.ntmps175
 go_wp2_with fail
 refine HC.mono ?_
 rintro e w' ⟨⟨r,rfl,hr⟩,rfl⟩
 rcases hr with ⟨h0,h1⟩ | ⟨rfl,h1⟩
 ·have HE:Hid (x∈l):=h1
  clear h1
  go_wp2_with fail
  go_ret
  exact ⟨ret_bool (decide_eq_true HE.out).symm,rfl⟩
 ·have HE:Hid (x ∉ l):=h1
  clear h1
  go_wp2_with fail
  go_ret
  exact ⟨ret_bool (decide_eq_false HE.out).symm,rfl⟩
theorem held_at (D:Dl) (v:Value) (k:Nat) (hk:k<4):(dcells (D,v))[2+k]?=some (.bool (decide ((k:Int)∈D.yes))):=by
 have:k=0∨k=1∨k=2∨k=3:=by omega
 rcases this with rfl | rfl | rfl | rfl <;> rfl
theorem ovcell_at (D:Dl) (v:Value) (k:Nat) (hk:k<3):(dcells (D,v))[6+k]?=some (.bool (decide ((k:Int)∈D.ov))):=by
 have:k=0∨k=1∨k=2:=by omega
 rcases this with rfl | rfl | rfl <;> rfl
theorem rasks_any (D:Dl) (n:Int) (la:Option Addr) (lc:Nat) (w:World) (hl:WantsAt w la D.w) (hlen:D.w.length<=4):
 Calls Tryz.prog 113 #[.agg #[.slice la D.w.length lc,.int .i64 D.st,.bool (decide ((0:Int)∈D.yes)),.bool (decide ((1:Int)∈D.yes)),.bool (decide ((2:Int)∈D.yes)),.bool (decide ((3:Int)∈D.yes)),.bool (decide ((0:Int)∈D.ov)),.bool (decide ((1:Int)∈D.ov)),.bool (decide ((2:Int)∈D.ov))],.int .i64 n] w fun e w'=>(∃v,e=.returned v∧w'.ownsRow w.heap.size 142 6 v (asksR n D.yes 0 D.w).length (flat6 (asksR n D.yes 0 D.w)))∧Below w.heap.size w w':=by
 obtain ⟨i0,hi,hz0,hz1,hz2⟩:=info_parts infoMail
 have HLen:Hid (D.w.length<=4):=hlen
 go_enter Tryz.func113,Tryz.ntmps113
 go_upto_region 1 with fail
 have hX:=BoxAt.new w (dcells (D,.slice la D.w.length lc)) 191
 have hb1:Below w.heap.size w (w.alloc (.cells (dcells (D,.slice la D.w.length lc)).toArray 191)):=(Below.refl _ _).alloc (Nat.le_refl _) _
 change BoxAt (w.alloc (.cells #[.slice la D.w.length lc,.int .i64 D.st,.bool (decide ((0:Int)∈D.yes)),.bool (decide ((1:Int)∈D.yes)),.bool (decide ((2:Int)∈D.yes)),.bool (decide ((3:Int)∈D.yes)),.bool (decide ((0:Int)∈D.ov)),.bool (decide ((1:Int)∈D.ov)),.bool (decide ((2:Int)∈D.ov))] 191)) _ _ at hX
 change Below _ _ (w.alloc (.cells #[.slice la D.w.length lc,.int .i64 D.st,.bool (decide ((0:Int)∈D.yes)),.bool (decide ((1:Int)∈D.yes)),.bool (decide ((2:Int)∈D.yes)),.bool (decide ((3:Int)∈D.yes)),.bool (decide ((0:Int)∈D.ov)),.bool (decide ((1:Int)∈D.ov)),.bool (decide ((2:Int)∈D.ov))] 191)) at hb1
 generalize (w.alloc (.cells #[.slice la D.w.length lc,.int .i64 D.st,.bool (decide ((0:Int)∈D.yes)),.bool (decide ((1:Int)∈D.yes)),.bool (decide ((2:Int)∈D.yes)),.bool (decide ((3:Int)∈D.yes)),.bool (decide ((0:Int)∈D.ov)),.bool (decide ((1:Int)∈D.ov)),.bool (decide ((2:Int)∈D.ov))] 191))=w1 at hX hb1 ⊢
 generalize w.heap.size=B0 at hX ⊢
 have HL:Hid (WantsAt w1 la D.w):=hl.below hb1 (Nat.le_refl _)
 have HB1:Hid _:=hb1
 have x0:=hX.2 0 _ rfl
 clear hl hb1
 go_wp2_with fail
 go_loopg [5,6,7,11] D.w.length (fun g s5 _ _ s11 wr=>∃(k:Nat) (v5:Value),k<=D.w.length∧g=D.w.length - k∧v5=s5∧s11=.int .i64 k∧wr.ownsRow w1.heap.size 142 6 v5 (asksTo n D.yes D.w k).length (flat6 (asksTo n D.yes D.w k))∧Below w1.heap.size w1 wr)
 case atStart=>exact ⟨0,_,Nat.zero_le _,rfl,rfl,rfl,by rw [asksTo_zero];exact World.ownsRow_nil _ _ _ _,Below.refl _ _⟩
 case round=>
  obtain ⟨k,v5,hk,rfl,rfl,rfl,hown,hS⟩:=hrel
  clear x0
  by_cases hlt:k<D.w.length
  ·obtain ⟨⟨c,d⟩,hkl⟩:∃x,D.w[k]?=some x:=⟨_,List.getElem?_eq_getElem hlt⟩
   obtain ⟨bl,ol,rfl,hbl,h0,h1⟩:=HL.out k c d hkl
   have j0:(0:Int)<=(k:Int):=by omega
   have j1:(k:Int)<(D.w.length:Int):=by omega
   have j2:(k:Int)<4:=by omega
   have p0:wr.cell? ⟨bl,ol+k * 2,none⟩=some (.int .i64 c):=(hS.cell (p:=⟨bl,_,none⟩) hbl).trans h0
   have p1:wr.cell? ⟨bl,ol+k * 2+1,none⟩=some (.int .i64 d):=(hS.cell (p:=⟨bl,_,none⟩) hbl).trans h1
   have HOw:Hid (wr.ownsRow w1.heap.size 142 6 v5 (asksTo n D.yes D.w k).length (flat6 (asksTo n D.yes D.w k))):=hown
   have HKL:Hid (k<D.w.length):=hlt
   have HKX:Hid (D.w[k]?=some (c,d)):=hkl
   clear hown hk hlt hkl h0 h1 hlen
   go_upto_region 5 with fail
   have hb2:Below wr.heap.size wr (wr.alloc (.cells #[.int .i64 c,.int .i64 d] 97)):=(Below.refl _ _).alloc (Nat.le_refl _) _
   have hY:=BoxAt.new wr [.int .i64 c,.int .i64 d] 97
   change BoxAt (wr.alloc (.cells #[.int .i64 c,.int .i64 d] 97)) _ _ at hY
   have HOw2:Hid ((wr.alloc (.cells #[.int .i64 c,.int .i64 d] 97)).ownsRow w1.heap.size 142 6 v5 (asksTo n D.yes D.w k).length (flat6 (asksTo n D.yes D.w k))):=own_next HOw.out hb2
   have hS2:Below w1.heap.size w1 (wr.alloc (.cells #[.int .i64 c,.int .i64 d] 97)):=after hS hb2 hS.size
   have HNB:Hid (v5.ownBlock ≠ some wr.heap.size):=fun e=>by have:=(HOw.out.lt _ e).2;omega
   generalize (wr.alloc (.cells #[.int .i64 c,.int .i64 d] 97))=w2 at hY HOw2 hS2 ⊢
   generalize wr.heap.size=B2 at hY HNB ⊢
   have q0:w2.cell? ⟨B0,2+k,none⟩=some (.bool (decide ((k:Int)∈D.yes))):=(hX.next hS2).2 _ _ (held_at D _ k (by have:=HKL.out;have:=HLen.out;omega))
   clear hb2 p0 p1 hS HOw
   by_cases hy:(k:Int)∈D.yes
   ·rw [decide_eq_true hy] at q0
    have HE:Hid _:=asksTo_hit (n:=n) HKX.out hy
    clear hy
    go_wp2_with fail
    go_roundg (D.w.length - (k+1))
    case measure=>have:=HKL.out;omega
    case rel=>exact ⟨k+1,v5,HKL.out,rfl,rfl,by simp,by rw [HE.out];exact HOw2.out,hS2⟩
   ·rw [decide_eq_false hy] at q0
    have HE:Hid _:=asksTo_miss (n:=n) HKX.out hy
    have y0:=hY.2 0 _ rfl
    have y1:=hY.2 1 _ rfl
    have hy2:=hY.1
    have HLn:Hid ((asksTo n D.yes D.w k).length<=4):=by have:=asksTo_len n D.yes D.w k;have:=HKL.out;have:=HLen.out;show _<=_;omega
    have HSz:Hid (w1.heap.size<=w2.heap.size):=hS2.size
    clear hy
    go_upto_region 6 with fail
    have HK:Hid (∀w',Below w2.heap.size w2 w'->w'.cell? ⟨B2,0,none⟩=some (.int .i64 c)∧w'.cell? ⟨B2,1,none⟩=some (.int .i64 d)):=fun w' hb=>⟨((bcell hb).1 _ _ hy2).trans y0,((bcell hb).1 _ _ hy2).trans y1⟩
    go_region_held3 (fun w'=>w'.cell? ⟨B2,0,none⟩=some (.int .i64 c)∧w'.cell? ⟨B2,1,none⟩=some (.int .i64 d))
     (first | exact HK9 | exact HK.out _ (by go_grown))
     (first | (refine step_append_two (by rfl) (.tmp 21) (.tmp 28) 71 (by rfl) w1.heap.size 142 i0 (.agg #[.int .i64 0,.int .i64 0,.int .i64 0,.int .i64 0,.int .i64 0,.bool false]) 6 48 Tryz.underlying71 hi hz0 hz1 hz2 rfl (by decide) v5 _ _ (by rfl) (own_next HOw2.out (by go_grown)) ⟨w2.heap.size,0,none⟩ 1 1 [.int .i64 1,.int .i64 n,.int .i64 (shp c),.int .i64 c,.int .i64 d,.bool false] (by rfl) rfl (mail_lies (by simp [go_sem]) (by simp [go_sem]) (by simp [go_sem]) (by simp [go_sem]) (by simp [go_sem]) (by simp [go_sem])) mail_cell (by have:=HLn.out;unfold maxLen;omega) (by have:=HLn.out;omega) (by have:=HSz.out;simp;omega) (by decide) ?_;intro v8 w8 hown8 hgrow8 _;have HO8:Hid (w8.ownsRow w1.heap.size 142 6 v8 ((asksTo n D.yes D.w k).length+1) (flat6 (asksTo n D.yes D.w k)++[.int .i64 1,.int .i64 n,.int .i64 (shp c),.int .i64 c,.int .i64 d,.bool false])):=hown8;clear hown8;have HK9:w8.cell? ⟨B2,0,none⟩=some (.int .i64 c)∧w8.cell? ⟨B2,1,none⟩=some (.int .i64 d):=⟨hgrow8.cell (by simp [go_sem,y0,hy2]) (fun e=>HNB.out e.symm),hgrow8.cell (by simp [go_sem,y1,hy2]) (fun e=>HNB.out e.symm)⟩;have HG8:Hid (Below w1.heap.size w1 w8):=own_below (own_next HOw2.out (by go_grown)) hgrow8 (after hS2 (by go_grown) hS2.size) (by have:=HSz.out;simp;omega) (Nat.le_refl _);clear hgrow8) | (go_at_call 144;refine (shop_any _ _).mono ?_;rintro e w9 ⟨rfl,rfl⟩))
    all_goals
     go_wp2_with fail
     go_roundg (D.w.length - (k+1))
     case measure=>have:=HKL.out;omega
     case rel=>
      refine ⟨k+1,v8,HKL.out,rfl,rfl,by simp,?_,HG8.out⟩
      have e1:(asksTo n D.yes D.w (k+1)).length=(asksTo n D.yes D.w k).length+1:=by rw [HE.out];simp
      have e2:flat6 (asksTo n D.yes D.w (k+1))=flat6 (asksTo n D.yes D.w k)++[.int .i64 1,.int .i64 n,.int .i64 (shp c),.int .i64 c,.int .i64 d,.bool false]:=by rw [HE.out];exact flat6_snoc _ _
      rw [e1,e2]
      exact HO8.out
  ·have hkk:k=D.w.length:=by omega
   subst hkk
   rw [asksTo_all] at hown
   have HOw:Hid (wr.ownsRow w1.heap.size 142 6 v5 (asksR n D.yes 0 D.w).length (flat6 (asksR n D.yes 0 D.w))):=hown
   clear hown
   go_wp2_with fail
   go_ret
   refine ⟨⟨v5,rfl,?_⟩,HB1.out.trans (hS.mono HB1.out.size)⟩
   refine ⟨HOw.out.1,HOw.out.2.imp id ?_⟩
   rintro ⟨g,cap,cur,h1,h2,h3⟩
   exact ⟨g,cap,cur,h1,Nat.le_trans HB1.out.size h2,h3⟩
theorem shopsL_nat {w:List (Int × Int)} {k:Nat} {s:Int} (h:(shopsL w)[k]?=some s):∃m:Nat,s=(m:Int)∧m<3:=by
 obtain ⟨n,h1,h2,_⟩:=shopsL_mem.1 (List.mem_of_getElem? h)
 exact ⟨n,h1,h2⟩
theorem rends_any (D:Dl) (n:Int) (la:Option Addr) (lc:Nat) (w:World) (hl:WantsAt w la D.w) (hlen:D.w.length<=4):
 Calls Tryz.prog 114 #[.agg #[.slice la D.w.length lc,.int .i64 D.st,.bool (decide ((0:Int)∈D.yes)),.bool (decide ((1:Int)∈D.yes)),.bool (decide ((2:Int)∈D.yes)),.bool (decide ((3:Int)∈D.yes)),.bool (decide ((0:Int)∈D.ov)),.bool (decide ((1:Int)∈D.ov)),.bool (decide ((2:Int)∈D.ov))],.int .i64 n] w fun e w'=>(∃v,e=.returned v∧w'.ownsRow w.heap.size 142 6 v (endsR n D).length (flat6 (endsR n D)))∧Below w.heap.size w w':=by
 obtain ⟨i0,hi,hz0,hz1,hz2⟩:=info_parts infoMail
 have HL3:Hid ((shopsL D.w).length<=3):=shopsTo_length D.w 3
 go_enter Tryz.func114,Tryz.ntmps114
 go_upto_region 1 with fail
 have hX:=BoxAt.new w (dcells (D,.slice la D.w.length lc)) 191
 have hb1:Below w.heap.size w (w.alloc (.cells (dcells (D,.slice la D.w.length lc)).toArray 191)):=(Below.refl _ _).alloc (Nat.le_refl _) _
 change BoxAt (w.alloc (.cells #[.slice la D.w.length lc,.int .i64 D.st,.bool (decide ((0:Int)∈D.yes)),.bool (decide ((1:Int)∈D.yes)),.bool (decide ((2:Int)∈D.yes)),.bool (decide ((3:Int)∈D.yes)),.bool (decide ((0:Int)∈D.ov)),.bool (decide ((1:Int)∈D.ov)),.bool (decide ((2:Int)∈D.ov))] 191)) _ _ at hX
 change Below _ _ (w.alloc (.cells #[.slice la D.w.length lc,.int .i64 D.st,.bool (decide ((0:Int)∈D.yes)),.bool (decide ((1:Int)∈D.yes)),.bool (decide ((2:Int)∈D.yes)),.bool (decide ((3:Int)∈D.yes)),.bool (decide ((0:Int)∈D.ov)),.bool (decide ((1:Int)∈D.ov)),.bool (decide ((2:Int)∈D.ov))] 191)) at hb1
 generalize (w.alloc (.cells #[.slice la D.w.length lc,.int .i64 D.st,.bool (decide ((0:Int)∈D.yes)),.bool (decide ((1:Int)∈D.yes)),.bool (decide ((2:Int)∈D.yes)),.bool (decide ((3:Int)∈D.yes)),.bool (decide ((0:Int)∈D.ov)),.bool (decide ((1:Int)∈D.ov)),.bool (decide ((2:Int)∈D.ov))] 191))=w1 at hX hb1 ⊢
 generalize w.heap.size=B0 at hX ⊢
 have HL:Hid (WantsAt w1 la D.w):=hl.below hb1 (Nat.le_refl _)
 have HB1:Hid _:=hb1
 have x0:=hX.2 0 _ rfl
 have HSh:Hid _:=shops_any la D.w.length lc D.w w1 HL.out rfl (by omega)
 clear hl hb1 hlen HL
 go_wp2_with fail
 refine Calls.mono HSh.out ?_
 rintro e w2 ⟨⟨ga,cap,rfl,hA⟩,hb2⟩
 have hX2:=hX.next hb2
 have HB2:Hid (Below w.heap.size w w2):=after HB1.out hb2 HB1.out.size
 have HA:Hid (NumsAt w2 ga (shopsL D.w)):=hA
 clear hX hb2 x0 HSh hA
 go_wp2_with fail
 go_loopg [5,7,12] (shopsL D.w).length (fun g s5 _ s12 wr=>∃(k:Nat) (v5:Value),k<=(shopsL D.w).length∧g=(shopsL D.w).length - k∧v5=s5∧s12=.int .i64 k∧wr.ownsRow w2.heap.size 142 6 v5 (endsTo n D k).length (flat6 (endsTo n D k))∧Below w2.heap.size w2 wr)
 case atStart=>exact ⟨0,_,Nat.zero_le _,rfl,rfl,rfl,by rw [endsTo_zero];exact World.ownsRow_nil _ _ _ _,Below.refl _ _⟩
 case round=>
  obtain ⟨k,v5,hk,rfl,rfl,rfl,hown,hS⟩:=hrel
  by_cases hlt:k<(shopsL D.w).length
  ·obtain ⟨s,hkl⟩:∃x,(shopsL D.w)[k]?=some x:=⟨_,List.getElem?_eq_getElem hlt⟩
   obtain ⟨bl,ol,rfl,hbl,h0⟩:=HA.out k s hkl
   have j0:(0:Int)<=(k:Int):=by omega
   have j1:(k:Int)<((shopsL D.w).length:Int):=by omega
   have j2:((shopsL D.w).length:Int)<=3:=by have:=HL3.out;omega
   have p0:wr.cell? ⟨bl,ol+k,none⟩=some (.int .i64 s):=(hS.cell (p:=⟨bl,_,none⟩) hbl).trans h0
   have HOw:Hid (wr.ownsRow w2.heap.size 142 6 v5 (endsTo n D k).length (flat6 (endsTo n D k))):=hown
   have HKL:Hid (k<(shopsL D.w).length):=hlt
   obtain ⟨m,rfl,hm⟩:=shopsL_nat hkl
   have HKX:Hid ((shopsL D.w)[k]?=some (m:Int)):=hkl
   have m0:(0:Int)<=(m:Int):=by omega
   have m3:(m:Int)<3:=by omega
   have hX3:=hX2.next hS
   have q0:wr.cell? ⟨B0,6+m,none⟩=some (.bool (decide ((m:Int)∈D.ov))):=hX3.2 _ _ (ovcell_at D _ m hm)
   have q1:wr.cell? ⟨B0,1,none⟩=some (.int .i64 D.st):=hX3.2 1 _ rfl
   clear hown hk hlt hkl h0 hX3
   by_cases hy:(m:Int)∈D.ov
   ·rw [decide_eq_true hy] at q0
    have HE:Hid _:=endsTo_hit (n:=n) HKX.out hy
    clear hy
    go_wp2_with fail
    go_roundg ((shopsL D.w).length - (k+1))
    case measure=>have:=HKL.out;omega
    case rel=>exact ⟨k+1,v5,HKL.out,rfl,rfl,by simp,by rw [HE.out];exact HOw.out,hS⟩
   ·rw [decide_eq_false hy] at q0
    have HE:Hid _:=endsTo_miss (n:=n) HKX.out hy
    have HLn:Hid ((endsTo n D k).length<=3):=by have:=endsTo_len n D k;have:=HKL.out;have:=HL3.out;show _<=_;omega
    have HSz:Hid (w2.heap.size<=wr.heap.size):=hS.size
    clear hy
    go_wp2_with (at_builtin;refine list_append_two rfl (.tmp 21) (.tmp 28) 71 rfl w2.heap.size 142 i0 (.agg #[.int .i64 0,.int .i64 0,.int .i64 0,.int .i64 0,.int .i64 0,.bool false]) 6 48 Tryz.underlying71 hi hz0 hz1 hz2 rfl (by decide) v5 _ _ rfl (own_next HOw.out (by go_grown)) ⟨wr.heap.size,0,none⟩ 1 1 [.int .i64 3,.int .i64 n,.int .i64 (m:Int),.int .i64 0,.int .i64 0,.bool (D.st == 1)] rfl rfl (mail_lies (by simp [go_sem]) (by simp [go_sem]) (by simp [go_sem]) (by simp [go_sem]) (by simp [go_sem]) (by simp [go_sem])) mail_cell (by have:=HLn.out;unfold maxLen;omega) (by have:=HLn.out;omega) (by have:=HSz.out;simp;omega) (by decide) ?_;intro v8 w8 hown8 hgrow8 _;have HO8:Hid (w8.ownsRow w2.heap.size 142 6 v8 ((endsTo n D k).length+1) (flat6 (endsTo n D k)++[.int .i64 3,.int .i64 n,.int .i64 (m:Int),.int .i64 0,.int .i64 0,.bool (D.st == 1)])):=hown8;clear hown8;have HG8:Hid (Below w2.heap.size w2 w8):=own_below (own_next HOw.out (by go_grown)) hgrow8 (after hS (by go_grown) hS.size) (by have:=HSz.out;simp;omega) (Nat.le_refl _);clear hgrow8)
    go_roundg ((shopsL D.w).length - (k+1))
    case measure=>have:=HKL.out;omega
    case rel=>
     refine ⟨k+1,v8,HKL.out,rfl,rfl,by simp,?_,HG8.out⟩
     have e1:(endsTo n D (k+1)).length=(endsTo n D k).length+1:=by rw [HE.out];simp
     have e2:flat6 (endsTo n D (k+1))=flat6 (endsTo n D k)++[.int .i64 3,.int .i64 n,.int .i64 (m:Int),.int .i64 0,.int .i64 0,.bool (D.st == 1)]:=by rw [HE.out];exact flat6_snoc _ _
     rw [e1,e2]
     exact HO8.out
  ·have hkk:k=(shopsL D.w).length:=by omega
   subst hkk
   rw [endsTo_all] at hown
   have HOw:Hid (wr.ownsRow w2.heap.size 142 6 v5 (endsR n D).length (flat6 (endsR n D))):=hown
   clear hown
   go_wp2_with fail
   go_ret
   refine ⟨⟨v5,rfl,?_⟩,HB2.out.trans (hS.mono HB2.out.size)⟩
   refine ⟨HOw.out.1,HOw.out.2.imp id ?_⟩
   rintro ⟨g,cap,cur,h1,h2,h3⟩
   exact ⟨g,cap,cur,h1,Nat.le_trans HB2.out.size h2,h3⟩
theorem flat6_cells {w:World} {B e g n cap:Nat} {l:List Ml} (h:w.ownsRow B e 6 (.slice (some ⟨g,0,none⟩) n cap) n (flat6 l)):∀j u,(flat6 l)[j]?=some u->w.cell? ((⟨g,0,none⟩:Addr).add j)=some u:=by
 intro j u hj
 rw [addr_add]
 exact (own_row h).2.2.2.2 j u hj
theorem rdue_any (O:Nat->Prop) (B:Bok) (q:Nat) (w:World) (h:BrkIn O w q B) (hI:BInv B):
 Calls Tryz.prog 82 #[.pointer (some ⟨q,0,none⟩)] w fun e w'=>(∃v,e=.returned v∧w'.ownsRow w.heap.size 142 6 v (dueR B).length (flat6 (dueR B)))∧Below w.heap.size w w':=by
 obtain ⟨i0,hi,hz0,hz1,hz2⟩:=info_parts infoMail
 obtain ⟨rv,dv,P,hR,_⟩:=h.raw
 have c0:=hR.c0
 obtain ⟨ga,cap,rfl⟩:=own_sl hR.row
 have hPl:=hR.len
 rw [<-hPl] at c0 hR
 have HR:Hid (BrkRaw w q B (.slice ga B.L.length cap) dv P):=hR
 have HInv:Hid (BInv B):=hI
 have h8:(B.L.length:Int)<=8:=by have:=hI.len;omega
 clear hR h hI hPl
 go_enter Tryz.func82,Tryz.ntmps82
 go_wp2_with fail
 go_loopg [3,4,5,11] B.L.length (fun g s3 _ _ s11 wr=>∃(k:Nat) (v3:Value),k<=B.L.length∧g=B.L.length - k∧v3=s3∧s11=.int .i64 k∧wr.ownsRow w.heap.size 142 6 v3 (duesTo B.L k).length (flat6 (duesTo B.L k))∧Below w.heap.size w wr)
 case atStart=>exact ⟨0,_,Nat.zero_le _,rfl,rfl,rfl,by rw [duesTo_zero];exact World.ownsRow_nil _ _ _ _,Below.refl _ _⟩
 case round=>
  obtain ⟨k,v3,hk,rfl,rfl,rfl,hown,hS⟩:=hrel
  clear c0
  by_cases hlt:k<B.L.length
  ·obtain ⟨D,hkD⟩:∃x,B.L[k]?=some x:=⟨_,List.getElem?_eq_getElem hlt⟩
   obtain ⟨g,cap',v,erv,_,h9,hrow,_,_⟩:=HR.out.deal9 hkD
   obtain ⟨rfl,rfl⟩:ga=some ⟨g,0,none⟩∧cap=cap':=by simpa using erv
   have hF:=HInv.out.fit D (List.mem_of_getElem? hkD)
   obtain ⟨gw,capw,rfl,hWa,_⟩:=wants_of_own hrow
   have h9':Deal9 wr g k D (.slice gw D.w.length capw):=by
    have q:∀o,wr.cell? ⟨g,o,none⟩=w.cell? ⟨g,o,none⟩:=fun o=>(bcell hS).1 _ _ h9.lt
    exact ⟨(q _).trans h9.c0,(q _).trans h9.c1,(q _).trans h9.c2,(q _).trans h9.c3,(q _).trans h9.c4,(q _).trans h9.c5,(q _).trans h9.c6,(q _).trans h9.c7,(q _).trans h9.c8,Nat.lt_of_lt_of_le h9.lt hS.size,loose g hS h9.lt h9.fr⟩
   have j0:(0:Int)<=(k:Int):=by omega
   have j1:(k:Int)<(B.L.length:Int):=by omega
   obtain ⟨d0,d1,d2,d3,d4,d5,d6,d7,d8,dl,_⟩:=h9'
   have HWa:Hid (WantsAt wr gw D.w):=hWa.below hS (Nat.le_refl _)
   have HF:Hid (D.w.length<=4):=hF.few
   have HOw:Hid (wr.ownsRow w.heap.size 142 6 v3 (duesTo B.L k).length (flat6 (duesTo B.L k))):=hown
   have HKL:Hid (k<B.L.length):=hlt
   have HN:Hid _:=duesTo_next hkD
   have HLn:Hid ((duesTo B.L k).length<=32∧(dueD (k:Int) D).length<=4):=⟨by have:=duesTo_len (k:=k) HInv.out.fit;have:=HInv.out.len;omega,due_len (k:Int) hF⟩
   clear hown hk hlt hkD h9 hrow hF hWa erv
   go_upto_region 5 with fail
   have hb2:Below wr.heap.size wr (wr.alloc (.cells (dcells (D,.slice gw D.w.length capw)).toArray 191)):=(Below.refl _ _).alloc (Nat.le_refl _) _
   have hY:=BoxAt.new wr (dcells (D,.slice gw D.w.length capw)) 191
   change Below _ _ (wr.alloc (.cells #[.slice gw D.w.length capw,.int .i64 D.st,.bool (decide ((0:Int)∈D.yes)),.bool (decide ((1:Int)∈D.yes)),.bool (decide ((2:Int)∈D.yes)),.bool (decide ((3:Int)∈D.yes)),.bool (decide ((0:Int)∈D.ov)),.bool (decide ((1:Int)∈D.ov)),.bool (decide ((2:Int)∈D.ov))] 191)) at hb2
   change BoxAt (wr.alloc (.cells #[.slice gw D.w.length capw,.int .i64 D.st,.bool (decide ((0:Int)∈D.yes)),.bool (decide ((1:Int)∈D.yes)),.bool (decide ((2:Int)∈D.yes)),.bool (decide ((3:Int)∈D.yes)),.bool (decide ((0:Int)∈D.ov)),.bool (decide ((1:Int)∈D.ov)),.bool (decide ((2:Int)∈D.ov))] 191)) _ _ at hY
   have HB2:Hid (Below wr.heap.size wr (wr.alloc (.cells #[.slice gw D.w.length capw,.int .i64 D.st,.bool (decide ((0:Int)∈D.yes)),.bool (decide ((1:Int)∈D.yes)),.bool (decide ((2:Int)∈D.yes)),.bool (decide ((3:Int)∈D.yes)),.bool (decide ((0:Int)∈D.ov)),.bool (decide ((1:Int)∈D.ov)),.bool (decide ((2:Int)∈D.ov))] 191))):=hb2
   generalize (wr.alloc (.cells #[.slice gw D.w.length capw,.int .i64 D.st,.bool (decide ((0:Int)∈D.yes)),.bool (decide ((1:Int)∈D.yes)),.bool (decide ((2:Int)∈D.yes)),.bool (decide ((3:Int)∈D.yes)),.bool (decide ((0:Int)∈D.ov)),.bool (decide ((1:Int)∈D.ov)),.bool (decide ((2:Int)∈D.ov))] 191))=w2 at hY HB2 ⊢
   have HOw2:Hid (w2.ownsRow w.heap.size 142 6 v3 (duesTo B.L k).length (flat6 (duesTo B.L k))):=own_next HOw.out HB2.out
   have HS2:Hid (Below w.heap.size w w2):=after hS HB2.out hS.size
   have HWa2:Hid (WantsAt w2 gw D.w):=HWa.out.below HB2.out (Nat.le_refl _)
   generalize wr.heap.size=B2 at hY ⊢
   have y0:=hY.2 0 _ rfl
   have y1:=hY.2 1 _ rfl
   have y2:=hY.2 2 _ rfl
   have y3:=hY.2 3 _ rfl
   have y4:=hY.2 4 _ rfl
   have y5:=hY.2 5 _ rfl
   have y6:=hY.2 6 _ rfl
   have y7:=hY.2 7 _ rfl
   have y8:=hY.2 8 _ rfl
   clear hb2 hY d0 d1 d2 d3 d4 d5 d6 d7 d8 dl HOw HWa HB2 hS
   obtain ⟨dd,hdd⟩:∃dd,dd=dueD (k:Int) D:=⟨_,rfl⟩
   by_cases hst:D.st=0
   ·have hst':(D.st == 0)=true:=by simp [hst]
    have HA:Hid _:=rasks_any D (k:Int) gw capw w2 HWa2.out HF.out
    have e0:asksR (k:Int) D.yes 0 D.w=dd:=by rw [hdd];unfold dueD;rw [if_pos hst]
    rw [e0] at HA
    rw [<-hdd] at HN HLn
    clear hst hdd e0
    go_upto_region 6 with fail
    go_wp2_with fail
    refine Calls.mono HA.out ?_
    rintro e w3 ⟨⟨v7,rfl,hown7⟩,hb3⟩
    have HO7:Hid (w3.ownsRow w2.heap.size 142 6 v7 dd.length (flat6 dd)):=hown7
    have HOw3:Hid (w3.ownsRow w.heap.size 142 6 v3 (duesTo B.L k).length (flat6 (duesTo B.L k))):=own_next HOw2.out hb3
    have HS3:Hid (Below w.heap.size w w3):=after HS2.out hb3 HS2.out.size
    have HSz:Hid (w.heap.size<=w3.heap.size):=HS3.out.size
    clear hown7 hb3 HOw2 HS2 HWa2 HA y0 y1 y2 y3 y4 y5 y6 y7 y8
    rcases HO7.out.2 with ⟨rfl,e0⟩ | ⟨g7,cap7,cur,rfl,_⟩
    ·have e1:dd=[]:=List.length_eq_zero_iff.1 e0
     clear e0
     rcases HOw3.out.2 with ⟨rfl,e2⟩ | ⟨g3,cap3,cur3,rfl,_⟩
     ·clear e2
      go_wp2_with fail
      go_roundg (B.L.length - (k+1))
      case measure=>have:=HKL.out;omega
      case rel=>exact ⟨k+1,_,HKL.out,rfl,rfl,by simp,by rw [HN.out,e1,List.append_nil];exact HOw3.out,HS3.out⟩
     ·go_wp2_with fail
      go_roundg (B.L.length - (k+1))
      case measure=>have:=HKL.out;omega
      case rel=>exact ⟨k+1,_,HKL.out,rfl,rfl,by simp,by rw [HN.out,e1,List.append_nil];exact HOw3.out,HS3.out⟩
    ·have HFl:Hid ((flat6 dd).length=dd.length * 6):=flat6_length dd
     have HCe:Hid _:=flat6_cells HO7.out
     go_wp2_with (at_builtin;refine wpList_append_own _ rfl (.tmp 19) (.tmp 22) 71 rfl w.heap.size 142 i0 (.agg #[.int .i64 0,.int .i64 0,.int .i64 0,.int .i64 0,.int .i64 0,.bool false]) 6 48 Tryz.underlying71 hi hz0 hz1 hz2 rfl (by decide) v3 _ _ rfl HOw3.out ⟨g7,0,none⟩ dd.length cap7 (flat6 dd) rfl HFl.out HCe.out (flat6_one _) (by have:=HLn.out;unfold maxLen;omega) (by have:=HLn.out;omega) HSz.out ?_;intro v8 w8 hown8 hgrow8 _;have HO8:Hid (w8.ownsRow w.heap.size 142 6 v8 ((duesTo B.L k).length+dd.length) (flat6 (duesTo B.L k)++flat6 dd)):=hown8;clear hown8;have HG8:Hid (Below w.heap.size w w8):=own_below HOw3.out hgrow8 HS3.out HSz.out (Nat.le_refl _);clear hgrow8)
     go_roundg (B.L.length - (k+1))
     case measure=>have:=HKL.out;omega
     case rel=>
      refine ⟨k+1,v8,HKL.out,rfl,rfl,by simp,?_,HG8.out⟩
      rw [HN.out,List.length_append,flat6_append]
      exact HO8.out
   ·have hst':(D.st == 0)=false:=by simpa using hst
    have HA:Hid _:=rends_any D (k:Int) gw capw w2 HWa2.out HF.out
    have e0:endsR (k:Int) D=dd:=by rw [hdd];unfold dueD;rw [if_neg hst]
    rw [e0] at HA
    rw [<-hdd] at HN HLn
    clear hst hdd e0
    go_upto_region 7 with fail
    go_wp2_with fail
    refine Calls.mono HA.out ?_
    rintro e w3 ⟨⟨v7,rfl,hown7⟩,hb3⟩
    have HO7:Hid (w3.ownsRow w2.heap.size 142 6 v7 dd.length (flat6 dd)):=hown7
    have HOw3:Hid (w3.ownsRow w.heap.size 142 6 v3 (duesTo B.L k).length (flat6 (duesTo B.L k))):=own_next HOw2.out hb3
    have HS3:Hid (Below w.heap.size w w3):=after HS2.out hb3 HS2.out.size
    have HSz:Hid (w.heap.size<=w3.heap.size):=HS3.out.size
    clear hown7 hb3 HOw2 HS2 HWa2 HA y0 y1 y2 y3 y4 y5 y6 y7 y8
    rcases HO7.out.2 with ⟨rfl,e0⟩ | ⟨g7,cap7,cur,rfl,_⟩
    ·have e1:dd=[]:=List.length_eq_zero_iff.1 e0
     clear e0
     rcases HOw3.out.2 with ⟨rfl,e2⟩ | ⟨g3,cap3,cur3,rfl,_⟩
     ·clear e2
      go_wp2_with fail
      go_roundg (B.L.length - (k+1))
      case measure=>have:=HKL.out;omega
      case rel=>exact ⟨k+1,_,HKL.out,rfl,rfl,by simp,by rw [HN.out,e1,List.append_nil];exact HOw3.out,HS3.out⟩
     ·go_wp2_with fail
      go_roundg (B.L.length - (k+1))
      case measure=>have:=HKL.out;omega
      case rel=>exact ⟨k+1,_,HKL.out,rfl,rfl,by simp,by rw [HN.out,e1,List.append_nil];exact HOw3.out,HS3.out⟩
    ·have HFl:Hid ((flat6 dd).length=dd.length * 6):=flat6_length dd
     have HCe:Hid _:=flat6_cells HO7.out
     go_wp2_with (at_builtin;refine wpList_append_own _ rfl (.tmp 24) (.tmp 27) 71 rfl w.heap.size 142 i0 (.agg #[.int .i64 0,.int .i64 0,.int .i64 0,.int .i64 0,.int .i64 0,.bool false]) 6 48 Tryz.underlying71 hi hz0 hz1 hz2 rfl (by decide) v3 _ _ rfl HOw3.out ⟨g7,0,none⟩ dd.length cap7 (flat6 dd) rfl HFl.out HCe.out (flat6_one _) (by have:=HLn.out;unfold maxLen;omega) (by have:=HLn.out;omega) HSz.out ?_;intro v8 w8 hown8 hgrow8 _;have HO8:Hid (w8.ownsRow w.heap.size 142 6 v8 ((duesTo B.L k).length+dd.length) (flat6 (duesTo B.L k)++flat6 dd)):=hown8;clear hown8;have HG8:Hid (Below w.heap.size w w8):=own_below HOw3.out hgrow8 HS3.out HSz.out (Nat.le_refl _);clear hgrow8)
     go_roundg (B.L.length - (k+1))
     case measure=>have:=HKL.out;omega
     case rel=>
      refine ⟨k+1,v8,HKL.out,rfl,rfl,by simp,?_,HG8.out⟩
      rw [HN.out,List.length_append,flat6_append]
      exact HO8.out
  ·have hkk:k=B.L.length:=by omega
   subst hkk
   rw [duesTo_all] at hown
   have HOw:Hid (wr.ownsRow w.heap.size 142 6 v3 (duesR 0 B.L).length (flat6 (duesR 0 B.L))):=hown
   clear hown
   go_wp2_with fail
   go_ret
   exact ⟨⟨v3,rfl,HOw.out⟩,hS⟩
structure MBx (w:World) (b:Nat) (m:Ml):Prop where
 lt:b<w.heap.size
 c0:w.cell? ⟨b,0,none⟩=some (.int .i64 m.kind)
 c1:w.cell? ⟨b,1,none⟩=some (.int .i64 m.deal)
 c2:w.cell? ⟨b,2,none⟩=some (.int .i64 m.shop)
 c3:w.cell? ⟨b,3,none⟩=some (.int .i64 m.c)
 c4:w.cell? ⟨b,4,none⟩=some (.int .i64 m.d)
 c5:w.cell? ⟨b,5,none⟩=some (.bool m.yes)
theorem MBx.new (w:World) (m:Ml):MBx (w.alloc (.cells #[.int .i64 m.kind,.int .i64 m.deal,.int .i64 m.shop,.int .i64 m.c,.int .i64 m.d,.bool m.yes] 142)) w.heap.size m:=
 ⟨by simp,by simp [go_sem],by simp [go_sem],by simp [go_sem],by simp [go_sem],by simp [go_sem],by simp [go_sem]⟩
theorem MBx.save {O:Nat->Prop} {w w1:World} {b:Nat} {m:Ml} (h:MBx w b m) (hs:Save O w w1) (hn:¬O b):MBx w1 b m:=by
 have q:∀o,w1.cell? ⟨b,o,none⟩=w.cell? ⟨b,o,none⟩:=fun o=>hs.cell (p:=⟨b,o,none⟩) h.lt hn
 exact ⟨Nat.lt_of_lt_of_le h.lt hs.size,(q _).trans h.c0,(q _).trans h.c1,(q _).trans h.c2,(q _).trans h.c3,(q _).trans h.c4,(q _).trans h.c5⟩
theorem MBx.next {w w1:World} {b:Nat} {m:Ml} (h:MBx w b m) (hb:Below w.heap.size w w1):MBx w1 b m:=h.save (O:=fun _=>False) (.of_below hb) (fun q=>q)
theorem dec_addI (l:List Int) (m j:Int):decide (j∈addI l m)=(decide (j=m) || decide (j∈l)):=by
 rw [Bool.eq_iff_iff]
 simp only [decide_eq_true_eq,Bool.or_eq_true,addI_mem]
 exact Or.comm
theorem dcells_ov (D:Dl) (v:Value) (m:Nat) (hm:m<3):dcells ({ D with ov:=addI D.ov (m:Int) },v)=(dcells (D,v)).set (6+m) (.bool true):=by
 have:m=0∨m=1∨m=2:=by omega
 rcases this with rfl | rfl | rfl <;> simp [dcells,dec_addI]
theorem dcells_yes (D:Dl) (v:Value) (m:Nat) (hm:m<4):dcells ({ D with yes:=addI D.yes (m:Int) },v)=(dcells (D,v)).set (2+m) (.bool true):=by
 have:m=0∨m=1∨m=2∨m=3:=by omega
 rcases this with rfl | rfl | rfl | rfl <;> simp [dcells,dec_addI]
theorem put_self {B:Bok} {n:Int} {D:Dl} (h:dealAt B n=some D):putD B n D=B:=by
 obtain ⟨k,rfl,hk,hD⟩:=dealAt_some h
 unfold putD
 have:B.L.set (k:Int).toNat D=B.L:=by
  apply List.ext_getElem?
  intro j
  by_cases e:k=j
  ·subst e
   rw [Int.toNat_natCast,List.getElem?_set_self hk,hD]
  ·rw [Int.toNat_natCast,List.getElem?_set_ne e]
 rw [this]
theorem hear_over {B:Bok} {m:Ml} {D:Dl} (hd:dealAt B m.deal=some D) (hk:m.kind=4) (h0:D.st ≠ 0) (hs:m.shop∈shopsL D.w):hearR B m=putD B m.deal { D with ov:=addI D.ov m.shop }:=by
 unfold hearR
 rw [hd]
 simp only
 rw [if_neg h0]
 by_cases ho:m.shop∈D.ov
 ·rw [if_neg (fun q=>q.2.2 ho)]
  have:addI D.ov m.shop=D.ov:=by unfold addI;rw [if_pos ho]
  rw [this]
  exact (put_self hd).symm
 ·rw [if_pos ⟨hk,hs,ho⟩]
  have:addI D.ov m.shop=D.ov++[m.shop]:=by unfold addI;rw [if_neg ho]
  rw [this]
theorem hear_over_no {B:Bok} {m:Ml} {D:Dl} (hd:dealAt B m.deal=some D) (hk:m.kind=4) (h:D.st=0∨m.shop ∉ shopsL D.w):hearR B m=B:=by
 unfold hearR
 rw [hd]
 simp only
 by_cases h0:D.st=0
 ·rw [if_pos h0,if_neg (fun q=>by omega)]
 ·rw [if_neg h0,if_neg (fun q=>h.elim h0 (fun z=>z q.2.1))]
theorem hear_say_no {B:Bok} {m:Ml} {D:Dl} (hd:dealAt B m.deal=some D) (hk:m.kind=2) (h:D.st ≠ 0∨wantAt D.w m.c m.d=none∨shp m.c ≠ m.shop):hearR B m=B:=by
 unfold hearR
 rw [hd]
 simp only
 by_cases h0:D.st=0
 ·rw [if_pos h0]
  by_cases h1:shp m.c=m.shop
  ·rw [if_pos ⟨hk,h1⟩]
   rcases h with h | h | h
   ·exact absurd h0 h
   ·rw [h]
   ·exact absurd h1 h
  ·rw [if_neg (fun q=>h1 q.2)]
 ·rw [if_neg h0,if_neg (fun q=>by omega)]
theorem hear_say_nay {B:Bok} {m:Ml} {D:Dl} {i:Nat} (hd:dealAt B m.deal=some D) (hk:m.kind=2) (h0:D.st=0) (hw:wantAt D.w m.c m.d=some i) (h1:shp m.c=m.shop) (hy:m.yes=false):hearR B m=putD B m.deal { D with st:=2 }:=by
 unfold hearR
 rw [hd]
 simp only
 rw [if_pos h0,if_pos ⟨hk,h1⟩,hw]
 simp [hy]
theorem hear_say_yes {B:Bok} {m:Ml} {D:Dl} {i:Nat} (hd:dealAt B m.deal=some D) (hk:m.kind=2) (h0:D.st=0) (hw:wantAt D.w m.c m.d=some i) (h1:shp m.c=m.shop) (hy:m.yes=true):hearR B m=if (addI D.yes i).length=D.w.length then { putD B m.deal { D with yes:=addI D.yes i,st:=1 } with ord:=B.ord++[m.deal] } else putD B m.deal { D with yes:=addI D.yes i }:=by
 unfold hearR
 rw [hd]
 simp only
 rw [if_pos h0,if_pos ⟨hk,h1⟩,hw]
 simp [hy]
theorem brk_set {O:Nat->Prop} {w w1:World} {q g n cap k j:Nat} {B:Bok} {dv u v:Value} {P:List (Dl × Value)} {D D':Dl} (h:BrkIn O w q B) (hsub:∀u∈(.slice (some ⟨g,0,none⟩) n cap:Value) :: dv :: P.map Prod.snd,∀k,u.ownBlock=some k->O k) (hb:Below w.heap.size w w1) (hR:BrkRaw w q B (.slice (some ⟨g,0,none⟩) n cap) dv P) (hk:P[k]?=some (D,v)) (hj:j<9) (hw:D'.w=D.w) (e:dcells (D',v)=(dcells (D,v)).set j u):BrkTo O w (w1.setCell ⟨g,k * 9+j,none⟩ u) q (putD B (k:Int) D'):=by
 have hR1:BrkRaw w1 q B (.slice (some ⟨g,0,none⟩) n cap) dv P:=hR.save h.lt (.of_below (O:=fun _=>False) hb) (fun q=>q) (fun _ _ _ _ q=>q)
 have hl1:q<w1.heap.size:=Nat.lt_of_lt_of_le h.lt hb.size
 have hS:Save O w (w1.setCell ⟨g,k * 9+j,none⟩ u):=Save.setCell (Save.of_below hb) (p:=⟨g,k * 9+j,none⟩) (fun _=>hsub _ List.mem_cons_self g rfl) _
 refine brk_to h.own h.mine hS (hR1.set hl1 hk hj hw e) (by simpa [go_sem] using (h.next hb).loose) ?_
 intro x hx i hi
 rw [map_set_snd hk] at hx
 have:=h.own i (hsub x hx i hi)
 have:=hb.size
 exact ⟨.inl (hsub x hx i hi),by simp;omega⟩
theorem rover_any (O:Nat->Prop) (B:Bok) (q:Nat) (m:Ml) (D:Dl) (w:World) (h:BrkIn O w q B) (hI:BInv B) (hd:dealAt B m.deal=some D) (hk4:m.kind=4):
 Calls Tryz.prog 170 #[.pointer (some ⟨q,0,none⟩),.agg #[.int .i64 m.kind,.int .i64 m.deal,.int .i64 m.shop,.int .i64 m.c,.int .i64 m.d,.bool m.yes]] w fun e w'=>e=.returned (.tuple #[])∧BrkTo O w w' q (hearR B m):=by
 have HI:Hid (BrkIn O w q B):=h
 have hF:=hI.fit D (dealAt_mem hd)
 obtain ⟨rv,dv,P,hR,hsub⟩:=h.raw
 obtain ⟨k,hmk0,hk,hkD⟩:=dealAt_some hd
 have hmk:Hid (m.deal=(k:Int)):=hmk0
 have HK4:Hid (m.kind=4):=hk4
 clear hmk0 hk4
 obtain ⟨g,cap,v,rfl,hP,h9,hrow,hqg,_⟩:=hR.deal9 hkD
 obtain ⟨gw,capw,rfl,hWa,_⟩:=wants_of_own hrow
 have c0:=hR.c0
 have hql:=h.lt
 have j0:(0:Int)<=(k:Int):=by omega
 have j1:(k:Int)<(B.L.length:Int):=by omega
 have j2:(B.L.length:Int)<=8:=by have:=hI.len;omega
 go_enter Tryz.func170,Tryz.ntmps170
 go_upto_region 1 with fail
 have hb1:Below w.heap.size w (w.alloc (.cells #[.int .i64 m.kind,.int .i64 m.deal,.int .i64 m.shop,.int .i64 m.c,.int .i64 m.d,.bool m.yes] 142)):=(Below.refl _ _).alloc (Nat.le_refl _) _
 have hX:=MBx.new w m
 generalize (w.alloc (.cells #[.int .i64 m.kind,.int .i64 m.deal,.int .i64 m.shop,.int .i64 m.c,.int .i64 m.d,.bool m.yes] 142))=w1 at hb1 hX ⊢
 have h91:=h9.next hb1
 have c01:w1.cell? ⟨q,0,none⟩=some (.slice (some ⟨g,0,none⟩) B.L.length cap):=((bcell hb1).1 _ _ hql).trans c0
 have HWa:Hid (WantsAt w1 gw D.w):=hWa.below hb1 (Nat.le_refl _)
 have hgw:g<w.heap.size:=h9.lt
 have HBg:Hid (g ≠ w.heap.size):=by show _ ≠ _;omega
 generalize w.heap.size=B0 at hX HBg ⊢
 have x1:=hX.c1
 rw [hmk.out] at x1
 have hz1:=hX.lt
 have HR:Hid (BrkRaw w q B (.slice (some ⟨g,0,none⟩) B.L.length cap) dv P):=hR
 have HP:Hid (P[k]?=some (D,.slice gw D.w.length capw)):=hP
 have HSub:Hid (∀u∈(.slice (some ⟨g,0,none⟩) B.L.length cap:Value) :: dv :: P.map Prod.snd,∀k,u.ownBlock=some k->O k):=hsub
 have HB1:Hid (Below w.heap.size w w1):=hb1
 have HD:Hid _:=hd
 clear h hR hP hsub hb1 hd h9 c0 hrow hWa hql hkD
 go_quiet (fail)
 go_wp2_with fail
 have hbq:=bdrewN HB1.out nq
 have hXq:=hX.next (w1:=w1.drewN nq) (bdrewN (Below.refl _ _) _)
 have h9q:=h91.next (w1:=w1.drewN nq) (bdrewN (Below.refl _ _) _)
 have HWq:Hid (WantsAt (w1.drewN nq) gw D.w):=HWa.out.below (bdrewN (Below.refl _ _) _) (Nat.le_refl _)
 generalize (w1.drewN nq)=w2 at hbq hXq h9q HWq ⊢
 clear hX h91 HWa c01 x1 hz1 HB1
 have y0:=h9q.c0
 have y1:=h9q.c1
 have hgl:=h9q.lt
 have x2:=hXq.c2
 have hbl:=hXq.lt
 by_cases h0:D.st=0
 ·have HE:Hid _:=hear_over_no HD.out HK4.out (.inl h0)
  have h0':(D.st != 0)=false:=by simp [h0]
  clear h0
  go_quiet (fail)
  go_wp2_with fail
  exact bodyPost_end (v:=.tuple #[]) (by simp [results,Tryz.results170,go_sem]) rfl ⟨rfl,by rw [HE.out];exact BrkTo.stay HI.out (bdrewN hbq _)⟩
 ·have h0':(D.st != 0)=true:=by simpa using h0
  have HF:Hid (D.w.length<=4):=hF.few
  have HK:Hid (∀w',Below w2.heap.size w2 w'->w'.cell? ⟨g,k * 9,none⟩=some (.slice gw D.w.length capw)∧w'.cell? ⟨g,k * 9+1,none⟩=some (.int .i64 D.st)∧w'.cell? ⟨B0,2,none⟩=some (.int .i64 m.shop)∧Below w2.heap.size w2 w'):=fun w' hb=>⟨((bcell hb).1 _ _ hgl).trans y0,((bcell hb).1 _ _ hgl).trans y1,((bcell hb).1 _ _ hbl).trans x2,hb⟩
  have HSh:Hid (∀W,Below w2.heap.size w2 W->Calls Tryz.prog 145 #[.slice gw D.w.length capw] W fun e w'=>(∃ga cap,e=.returned (.slice ga (shopsL D.w).length cap)∧NumsAt w' ga (shopsL D.w))∧Below W.heap.size W w'):=fun W hW=>shops_any gw D.w.length capw D.w W (HWq.out.below hW (Nat.le_refl _)) rfl (by have:=HF.out;omega)
  have HLs:Hid ((shopsL D.w).length<=3):=shopsTo_length D.w 3
  have H0:Hid (D.st ≠ 0):=h0
  clear h0 hF
  go_region_held3 (fun w'=>w'.cell? ⟨g,k * 9,none⟩=some (.slice gw D.w.length capw)∧w'.cell? ⟨g,k * 9+1,none⟩=some (.int .i64 D.st)∧w'.cell? ⟨B0,2,none⟩=some (.int .i64 m.shop)∧Below w2.heap.size w2 w')
   (first | exact HK.out _ (by go_grown))
   (first | (go_at_call 145;refine Calls.mono (HSh.out _ (by go_grown)) ?_;rintro e w9 ⟨⟨ga,cap9,rfl,hA⟩,hb9⟩;have HA:Hid (NumsAt w9 ga (shopsL D.w)):=hA;clear hA;have hw9:Below w2.heap.size w2 w9:=after (by go_grown) hb9 (by simp);have hz9:w2.heap.size<=w9.heap.size:=hw9.size) | (go_at_call 175;refine (rcon_any ga _ cap9 (shopsL D.w) m.shop _ HA.out rfl (by have:=HLs.out;omega)).mono ?_;rintro e w10 ⟨rfl,rfl⟩))
  by_cases hs:m.shop∈shopsL D.w
  ·rw [decide_eq_true hs]
   have HE:Hid _:=hear_over HD.out HK4.out H0.out hs
   rw [hmk.out] at HE
   obtain ⟨n,hn,hn3,_⟩:=shopsL_mem.1 hs
   have h93:=h9q.next hw9
   have n0:(0:Int)<=m.shop:=by omega
   have n3:m.shop<3:=by omega
   have hnn:m.shop.toNat=n:=by omega
   have z0:w10.cell? ⟨g,k * 9+6+m.shop.toNat,none⟩=some (.bool (decide ((n:Int)∈D.ov))):=by
    rw [hnn]
    have:n=0∨n=1∨n=2:=by omega
    rcases this with rfl | rfl | rfl
    ·exact h93.c6
    ·exact h93.c7
    ·exact h93.c8
   have fz:=h93.fr
   have HT:Hid (BrkTo O w (w10.setCell ⟨g,k * 9+(6+m.shop.toNat),none⟩ (.bool true)) q (putD B (k:Int) { D with ov:=addI D.ov m.shop })):=by
    rw [hnn,hn]
    exact brk_set HI.out HSub.out (after hbq hw9 hbq.size) HR.out HP.out (by omega) rfl (dcells_ov D _ n hn3)
   rw [<-Nat.add_assoc] at HT
   clear hs hn hnn y0 y1 x2 h9q hXq
   go_wp2_with fail
   go_region
   all_goals
    go_wp2_with fail
    exact bodyPost_end (v:=.tuple #[]) (by simp [results,Tryz.results170,go_sem]) rfl ⟨rfl,by rw [HE.out];exact HT.out.next (by go_grown)⟩
  ·rw [decide_eq_false hs]
   have HE:Hid _:=hear_over_no HD.out HK4.out (.inr hs)
   clear hs
   go_wp2_with fail
   exact bodyPost_end (v:=.tuple #[]) (by simp [results,Tryz.results170,go_sem]) rfl ⟨rfl,by rw [HE.out];exact BrkTo.stay HI.out (after hbq hw9 hbq.size)⟩
theorem num_lies {W:World} {H:Nat} {a:Value} (h0:W.cell? ⟨H,0,none⟩=some a):∀j u,[a][j]?=some u->W.cell? ((⟨H,0,none⟩:Addr).add j)=some u:=by
 intro j u hj
 match j,hj with
 | 0,hj=>simp at hj;subst hj;simpa [Addr.add] using h0
 | j+1,hj=>simp at hj
theorem ixW_some {l:List (Int × Int)} {c d:Int} {i:Nat} (h:wantAt l c d=some i):ixW l c d=(i:Int):=by unfold ixW;rw [h]
theorem ixW_none {l:List (Int × Int)} {c d:Int} (h:wantAt l c d=none):ixW l c d= -1:=by unfold ixW;rw [h]
theorem rsay_any (O:Nat->Prop) (B:Bok) (q:Nat) (m:Ml) (D:Dl) (w:World) (h:BrkIn O w q B) (hI:BInv B) (hd:dealAt B m.deal=some D) (hk2:m.kind=2):
 Calls Tryz.prog 169 #[.pointer (some ⟨q,0,none⟩),.agg #[.int .i64 m.kind,.int .i64 m.deal,.int .i64 m.shop,.int .i64 m.c,.int .i64 m.d,.bool m.yes]] w fun e w'=>e=.returned (.tuple #[])∧BrkTo O w w' q (hearR B m):=by
 have HI:Hid (BrkIn O w q B):=h
 have HInv:Hid (BInv B):=hI
 have hF:=hI.fit D (dealAt_mem hd)
 obtain ⟨rv,dv,P,hR,hsub⟩:=h.raw
 obtain ⟨k,hmk0,hk,hkD⟩:=dealAt_some hd
 have hmk:Hid (m.deal=(k:Int)):=hmk0
 have HK2:Hid (m.kind=2):=hk2
 clear hmk0 hk2
 obtain ⟨g,cap,v,rfl,hP,h9,hrow,hqg,_⟩:=hR.deal9 hkD
 obtain ⟨gw,capw,rfl,hWa,_⟩:=wants_of_own hrow
 have c0:=hR.c0
 have hql:=h.lt
 have j0:(0:Int)<=(k:Int):=by omega
 have j1:(k:Int)<(B.L.length:Int):=by omega
 have j2:(B.L.length:Int)<=8:=by have:=hI.len;omega
 go_enter Tryz.func169,Tryz.ntmps169
 go_upto_region 1 with fail
 have hb1:Below w.heap.size w (w.alloc (.cells #[.int .i64 m.kind,.int .i64 m.deal,.int .i64 m.shop,.int .i64 m.c,.int .i64 m.d,.bool m.yes] 142)):=(Below.refl _ _).alloc (Nat.le_refl _) _
 have hX:=MBx.new w m
 generalize (w.alloc (.cells #[.int .i64 m.kind,.int .i64 m.deal,.int .i64 m.shop,.int .i64 m.c,.int .i64 m.d,.bool m.yes] 142))=w1 at hb1 hX ⊢
 have h91:=h9.next hb1
 have c01:w1.cell? ⟨q,0,none⟩=some (.slice (some ⟨g,0,none⟩) B.L.length cap):=((bcell hb1).1 _ _ hql).trans c0
 have HWa:Hid (WantsAt w1 gw D.w):=hWa.below hb1 (Nat.le_refl _)
 have hgw:g<w.heap.size:=h9.lt
 have HBg:Hid (g ≠ w.heap.size∧w.heap.size<=w.heap.size):=by constructor <;> omega
 generalize hB0:w.heap.size=B0 at hX ⊢
 have HB0:Hid (w.heap.size=B0):=hB0
 clear hB0
 have x1:=hX.c1
 rw [hmk.out] at x1
 have hz1:=hX.lt
 have HR:Hid (BrkRaw w q B (.slice (some ⟨g,0,none⟩) B.L.length cap) dv P):=hR
 have HP:Hid (P[k]?=some (D,.slice gw D.w.length capw)):=hP
 have HSub:Hid (∀u∈(.slice (some ⟨g,0,none⟩) B.L.length cap:Value) :: dv :: P.map Prod.snd,∀k,u.ownBlock=some k->O k):=hsub
 have HB1:Hid (Below w.heap.size w w1):=hb1
 have HD:Hid _:=hd
 have HF:Hid (D.w.length<=4):=hF.few
 have HDm:Hid (D∈B.L):=dealAt_mem hd
 clear h hR hP hsub hb1 hd h9 c0 hrow hWa hql hkD hF hI
 go_quiet (fail)
 go_wp2_with fail
 have hbq:=bdrewN HB1.out nq
 have hXq:=hX.next (w1:=w1.drewN nq) (bdrewN (Below.refl _ _) _)
 have h9q:=h91.next (w1:=w1.drewN nq) (bdrewN (Below.refl _ _) _)
 have HWq:Hid (WantsAt (w1.drewN nq) gw D.w):=HWa.out.below (bdrewN (Below.refl _ _) _) (Nat.le_refl _)
 generalize (w1.drewN nq)=w2 at hbq hXq h9q HWq ⊢
 clear hX h91 HWa c01 x1 hz1 HB1
 have y0:=h9q.c0
 have hgl:=h9q.lt
 have x3:=hXq.c3
 have x4:=hXq.c4
 have hbl:=hXq.lt
 have HK:Hid (∀w',Below w2.heap.size w2 w'->w'.cell? ⟨g,k * 9,none⟩=some (.slice gw D.w.length capw)∧w'.cell? ⟨B0,3,none⟩=some (.int .i64 m.c)∧w'.cell? ⟨B0,4,none⟩=some (.int .i64 m.d)∧Below w2.heap.size w2 w'):=fun w' hb=>⟨((bcell hb).1 _ _ hgl).trans y0,((bcell hb).1 _ _ hbl).trans x3,((bcell hb).1 _ _ hbl).trans x4,hb⟩
 have HIx:Hid (∀W,Below w2.heap.size w2 W->Calls Tryz.prog 174 #[.slice gw D.w.length capw,.agg #[.int .i64 m.c,.int .i64 m.d]] W fun e w'=>e=.returned (.int .i64 (ixW D.w m.c m.d))∧Below W.heap.size W w'):=fun W hW=>ridx_any gw D.w.length capw D.w m.c m.d W (HWq.out.below hW (Nat.le_refl _)) rfl (by have:=HF.out;omega)
 go_cut [5] (fun s5 wx=>s5=.int .i64 (ixW D.w m.c m.d)∧Below w2.heap.size w2 wx)
 case first=>
  go_region_held3 (fun w'=>w'.cell? ⟨g,k * 9,none⟩=some (.slice gw D.w.length capw)∧w'.cell? ⟨B0,3,none⟩=some (.int .i64 m.c)∧w'.cell? ⟨B0,4,none⟩=some (.int .i64 m.d)∧Below w2.heap.size w2 w')
   (first | exact HK.out _ (by go_grown))
   (first | (go_at_call 174;refine Calls.mono (HIx.out _ (by go_grown)) ?_;rintro e w9 ⟨rfl,hb9⟩;have hw9:Below w2.heap.size w2 w9:=after (by go_grown) hb9 (by simp);have hz9:w2.heap.size<=w9.heap.size:=hw9.size))
  all_goals
   go_wp2_with fail
   go_meet
   case rel=>exact ⟨rfl,hw9⟩
 case rest=>
  obtain ⟨rfl,hbc⟩:=hcut
  have hX3:=hXq.next hbc
  have h93:=h9q.next hbc
  have hb3:Below w.heap.size w wc:=after hbq hbc hbq.size
  have HW3:Hid (WantsAt wc gw D.w):=HWq.out.below hbc (Nat.le_refl _)
  clear hXq h9q hbq HWq y0 x3 x4 hgl hbl HK HIx hbc
  have y1:=h93.c1
  have x2:=hX3.c2
  have x3:=hX3.c3
  have x5:=hX3.c5
  have x1:=hX3.c1
  by_cases h0:D.st=0
  ·have h0':(D.st != 0)=false:=by simp [h0]
   have H0:Hid (D.st=0):=h0
   clear h0
   cases hw:wantAt D.w m.c m.d with
   | none=>
     rw [ixW_none hw]
     have HE:Hid _:=hear_say_no HD.out HK2.out (.inr (.inl hw))
     clear hw
     go_upto_region 3 with fail
     go_quiet (fail)
     go_wp2_with fail
     exact bodyPost_ret (v:=.tuple #[]) (by simp [results,Tryz.results169,go_sem]) rfl ⟨rfl,by rw [HE.out];exact BrkTo.stay HI.out (bdrewN hb3 _)⟩
   | some i=>
     rw [ixW_some hw]
     have hiw:=wantAt_some hw
     have hil:=(List.getElem?_eq_some_iff.1 hiw).1
     have i0:(0:Int)<=(i:Int):=by omega
     have i4:(i:Int)<4:=by have:=HF.out;omega
     by_cases hs:shp m.c=m.shop
     ·have hs':(shp m.c != m.shop)=false:=by simp [hs]
      cases hy:m.yes with
      | false=>
        have HE:Hid _:=hear_say_nay HD.out HK2.out H0.out hw hs hy
        rw [hmk.out] at HE
        rw [hy] at x5
        have fz:=h93.fr
        have HT:Hid (∀w4,Below wc.heap.size wc w4->BrkTo O w (w4.setCell ⟨g,k * 9+1,none⟩ (.int .i64 2)) q (putD B (k:Int) { D with st:=2 })):=fun w4 h4=>brk_set HI.out HSub.out (after hb3 h4 hb3.size) HR.out HP.out (by decide) rfl (dcells_st D _ 2)
        clear hw hs hy
        go_upto_region 3 with fail
        go_quiet ((go_at_call 144;exact Calls.quiet_of_same (shop_any _ _)))
        go_wp2_with fail
        exact bodyPost_ret (v:=.tuple #[]) (by simp [results,Tryz.results169,go_sem]) rfl ⟨rfl,by rw [HE.out];exact HT.out _ (bdrewN (Below.refl _ _) _)⟩
      | true=>
        have HE:Hid _:=hear_say_yes HD.out HK2.out H0.out hw hs hy
        rw [hmk.out] at HE
        rw [hy] at x5
        have HY:Hid (m.yes=true):=hy
        have HHl:Hid (i<4∧D.w[i]?=some (m.c,m.d)):=⟨by have:=HF.out;omega,hiw⟩
        clear hw hs hy hiw hil
        go_upto_region 3 with fail
        go_quiet ((go_at_call 144;exact Calls.quiet_of_same (shop_any _ _)))
        have hb4:=bdrewN hb3 nq
        have hX4:=hX3.next (w1:=wc.drewN nq) (bdrewN (Below.refl _ _) _)
        have h94:=h93.next (w1:=wc.drewN nq) (bdrewN (Below.refl _ _) _)
        have HW4:Hid (WantsAt (wc.drewN nq) gw D.w):=HW3.out.below (bdrewN (Below.refl _ _) _) (Nat.le_refl _)
        generalize (wc.drewN nq)=w4 at hb4 hX4 h94 HW4 ⊢
        clear hX3 h93 hb3 HW3 y1 x2 x3 x5 x1
        have x5:=hX4.c5
        rw [HY.out] at x5
        obtain ⟨E,hE⟩:∃E,E=({ D with yes:=addI D.yes (i:Int) }:Dl):=⟨_,rfl⟩
        have z0:w4.cell? ⟨g,k * 9+2+i,none⟩=some (.bool (decide ((i:Int)∈D.yes))):=by
         have h4:=HHl.out.1
         have:i=0∨i=1∨i=2∨i=3:=by omega
         rcases this with rfl | rfl | rfl | rfl
         ·exact h94.c2
         ·exact h94.c3
         ·exact h94.c4
         ·exact h94.c5
        have fz:=h94.fr
        have hgl:=h94.lt
        have hR4:BrkRaw w4 q B (.slice (some ⟨g,0,none⟩) B.L.length cap) dv P:=HR.out.save HI.out.lt (.of_below (O:=fun _=>False) hb4) (fun q=>q) (fun _ _ _ _ q=>q)
        have hql4:q<w4.heap.size:=Nat.lt_of_lt_of_le HI.out.lt hb4.size
        have hR5:=hR4.set (D':=E) (j:=2+i) (u:=.bool true) hql4 HP.out (by have:=HHl.out.1;omega) (by rw [hE]) (by rw [hE];exact dcells_yes D _ i HHl.out.1)
        rw [<-Nat.add_assoc] at hR5
        have hS5:Save (fun b=>b=g) w4 (w4.setCell ⟨g,k * 9+2+i,none⟩ (.bool true)):=Save.setCell (O:=fun b=>b=g) (Save.refl _ _) (p:=⟨g,k * 9+2+i,none⟩) (fun _=>rfl) _
        have hX5:=hX4.save hS5 (fun e=>by have:=HBg.out.1;have:=HB0.out;omega)
        have HB4:Hid (Below w.heap.size w w4):=hb4
        have hl5:q<(w4.setCell ⟨g,k * 9+2+i,none⟩ (.bool true)).heap.size:=by simpa using hql4
        have hf5:∀j,(w4.setCell ⟨g,k * 9+2+i,none⟩ (.bool true)).frozen? ⟨q,j,none⟩=false:=by simpa [go_sem] using (HI.out.next hb4).loose
        have HSv5:Hid (Save O w (w4.setCell ⟨g,k * 9+2+i,none⟩ (.bool true))):=Save.setCell (Save.of_below hb4) (p:=⟨g,k * 9+2+i,none⟩) (fun _=>HSub.out _ List.mem_cons_self g rfl) _
        go_upto_region 7 with fail
        generalize (w4.setCell ⟨g,k * 9+2+i,none⟩ (.bool true))=w5 at hR5 hX5 hl5 hf5 HSv5 ⊢
        clear hX4 h94 hb4 HW4 x5 z0 fz hgl hR4 hql4 hS5
        have hPk:(P.set k (E,.slice gw D.w.length capw))[k]?=some (E,.slice gw D.w.length capw):=List.getElem?_set_self (List.getElem?_eq_some_iff.1 HP.out).1
        have hEL:(putD B (k:Int) E).L[k]?=some E:=by
         show (B.L.set (k:Int).toNat E)[k]?=some E
         rw [Int.toNat_natCast]
         exact List.getElem?_set_self hk
        obtain ⟨g',cap',v',e',hP',h95,hrow5,_,_⟩:=hR5.deal9 hEL
        have eg:g=g':=by
         simp only [Value.slice.injEq,Option.some.injEq,Addr.mk.injEq] at e'
         exact e'.1.1
        subst eg
        rw [hPk] at hP'
        have ev:v'=.slice gw D.w.length capw:=by simpa using (Option.some.inj hP').symm
        subst ev
        have hEw:E.w=D.w:=by rw [hE]
        obtain ⟨gw',capw',ew,hWa5,_⟩:=wants_of_own hrow5
        obtain ⟨rfl,rfl⟩:gw=gw'∧capw=capw':=by
         simp only [Value.slice.injEq] at ew
         exact ⟨ew.1,ew.2.2⟩
        rw [hEw] at hWa5
        have HEw:Hid (E.w=D.w):=hEw
        have HWa5:Hid (WantsAt w5 gw D.w):=hWa5
        obtain ⟨ll,hll⟩:∃ll,ll=asksR m.deal E.yes 0 D.w:=⟨_,rfl⟩
        have HAs:Hid (∀W,Below w5.heap.size w5 W->Calls Tryz.prog 113 #[.agg #[.slice gw D.w.length capw,.int .i64 E.st,.bool (decide ((0:Int)∈E.yes)),.bool (decide ((1:Int)∈E.yes)),.bool (decide ((2:Int)∈E.yes)),.bool (decide ((3:Int)∈E.yes)),.bool (decide ((0:Int)∈E.ov)),.bool (decide ((1:Int)∈E.ov)),.bool (decide ((2:Int)∈E.ov))],.int .i64 m.deal] W fun e w'=>(∃v,e=.returned v∧w'.ownsRow W.heap.size 142 6 v ll.length (flat6 ll))∧Below W.heap.size W w'):=fun W hW=>by
         have:=rasks_any E m.deal gw capw W (by rw [HEw.out];exact HWa5.out.below hW (Nat.le_refl _)) (by rw [HEw.out];exact HF.out)
         rw [HEw.out] at this
         rw [hll]
         exact this
        have hyn:=HInv.out.ynd D HDm.out
        have hyi:=HInv.out.yin D HDm.out
        have HAll:Hid (ll.length=0 ↔ (addI D.yes (i:Int)).length=D.w.length):=by
         have h1:=asks_empty (n:=m.deal) (w:=D.w) (addI_nodup hyn (i:Int)) (addI_in hyi HHl.out.2 rfl)
         show _ ↔ _
         rw [<-h1,hll,List.length_eq_zero_iff,hE]
        have HEE:Hid (E=({ D with yes:=addI D.yes (i:Int) }:Dl)):=hE
        have HR5:Hid (BrkRaw w5 q (putD B (k:Int) E) (.slice (some ⟨g,0,none⟩) B.L.length cap) dv (P.set k (E,.slice gw D.w.length capw))):=hR5
        have HPk:Hid _:=hPk
        clear hR5 hPk hEL hP' e' hrow5 hEw ew hWa5 hyn hyi hll hE
        obtain ⟨d0,d1,d2,d3,d4,d5,d6,d7,d8,dl,df⟩:=h95
        have x1:=hX5.c1
        have xl:=hX5.lt
        have HK:Hid (∀w',Below w5.heap.size w5 w'->w'.cell? ⟨g,k * 9,none⟩=some (.slice gw D.w.length capw)∧w'.cell? ⟨g,k * 9+1,none⟩=some (.int .i64 E.st)∧w'.cell? ⟨g,k * 9+2,none⟩=some (.bool (decide ((0:Int)∈E.yes)))∧w'.cell? ⟨g,k * 9+3,none⟩=some (.bool (decide ((1:Int)∈E.yes)))∧w'.cell? ⟨g,k * 9+4,none⟩=some (.bool (decide ((2:Int)∈E.yes)))∧w'.cell? ⟨g,k * 9+5,none⟩=some (.bool (decide ((3:Int)∈E.yes)))∧w'.cell? ⟨g,k * 9+6,none⟩=some (.bool (decide ((0:Int)∈E.ov)))∧w'.cell? ⟨g,k * 9+7,none⟩=some (.bool (decide ((1:Int)∈E.ov)))∧w'.cell? ⟨g,k * 9+8,none⟩=some (.bool (decide ((2:Int)∈E.ov)))∧w'.cell? ⟨B0,1,none⟩=some (.int .i64 m.deal)∧Below w5.heap.size w5 w'):=fun w' hb=>⟨((bcell hb).1 _ _ dl).trans d0,((bcell hb).1 _ _ dl).trans d1,((bcell hb).1 _ _ dl).trans d2,((bcell hb).1 _ _ dl).trans d3,((bcell hb).1 _ _ dl).trans d4,((bcell hb).1 _ _ dl).trans d5,((bcell hb).1 _ _ dl).trans d6,((bcell hb).1 _ _ dl).trans d7,((bcell hb).1 _ _ dl).trans d8,((bcell hb).1 _ _ xl).trans x1,hb⟩
        clear d0 d1 d2 d3 d4 d5 d6 d7 d8
        go_region_held3 (fun w'=>w'.cell? ⟨g,k * 9,none⟩=some (.slice gw D.w.length capw)∧w'.cell? ⟨g,k * 9+1,none⟩=some (.int .i64 E.st)∧w'.cell? ⟨g,k * 9+2,none⟩=some (.bool (decide ((0:Int)∈E.yes)))∧w'.cell? ⟨g,k * 9+3,none⟩=some (.bool (decide ((1:Int)∈E.yes)))∧w'.cell? ⟨g,k * 9+4,none⟩=some (.bool (decide ((2:Int)∈E.yes)))∧w'.cell? ⟨g,k * 9+5,none⟩=some (.bool (decide ((3:Int)∈E.yes)))∧w'.cell? ⟨g,k * 9+6,none⟩=some (.bool (decide ((0:Int)∈E.ov)))∧w'.cell? ⟨g,k * 9+7,none⟩=some (.bool (decide ((1:Int)∈E.ov)))∧w'.cell? ⟨g,k * 9+8,none⟩=some (.bool (decide ((2:Int)∈E.ov)))∧w'.cell? ⟨B0,1,none⟩=some (.int .i64 m.deal)∧Below w5.heap.size w5 w')
         (first | exact HK.out _ (by go_grown))
         (first | (go_at_call 113;refine Calls.mono (HAs.out _ (by go_grown)) ?_;rintro e w6 ⟨⟨v6,rfl,hown6⟩,hb6⟩;obtain ⟨ga6,cap6,rfl⟩:=own_sl hown6;clear hown6;have hw6:Below w5.heap.size w5 w6:=after (by go_grown) hb6 (by simp);have hz6:w5.heap.size<=w6.heap.size:=hw6.size))
        have d1:=(HK.out w6 hw6).2.1
        clear HK HAs HWa5
        have hX6:=hX5.next hw6
        have x1:=hX6.c1
        have hf6:=loose q hw6 hl5 hf5
        have hg6:=loose g hw6 dl df
        have hl6:q<w6.heap.size:=Nat.lt_of_lt_of_le hl5 hw6.size
        have hR6:BrkRaw w6 q (putD B (k:Int) E) (.slice (some ⟨g,0,none⟩) B.L.length cap) dv (P.set k (E,.slice gw D.w.length capw)):=HR5.out.save hl5 (.of_below (O:=fun _=>False) hw6) (fun q=>q) (fun _ _ _ _ q=>q)
        have HSv6:Hid (Save O w w6):=HSv5.out.next hw6
        have HRows:Hid (∀u∈(.slice (some ⟨g,0,none⟩) B.L.length cap:Value) :: dv :: (P.set k (E,.slice gw D.w.length capw)).map Prod.snd,∀j,u.ownBlock=some j->O j∧j<w6.heap.size):=by
         intro u hu j hj
         rw [map_set_snd HP.out] at hu
         have h1:=HSub.out u hu j hj
         exact ⟨h1,Nat.lt_of_lt_of_le (HI.out.own j h1) HSv6.out.size⟩
        by_cases hl:(addI D.yes (i:Int)).length=D.w.length
        ·have hl0:ll.length=0:=HAll.out.2 hl
         have hl':((ll.length:Int) == 0)=true:=by simp [hl0]
         have HL:Hid _:=hl
         have hPk6:=HPk.out
         have hR7:=hR6.set (D':={ E with st:=1 }) (j:=1) (u:=.int .i64 1) hl6 hPk6 (by decide) rfl (dcells_st E _ 1)
         have hS7:Save (fun b=>b=g) w6 (w6.setCell ⟨g,k * 9+1,none⟩ (.int .i64 1)):=Save.setCell (O:=fun b=>b=g) (Save.refl _ _) (p:=⟨g,k * 9+1,none⟩) (fun _=>rfl) _
         have hX7:=hX6.save hS7 (fun e=>by have:=HBg.out.1;have:=HB0.out;omega)
         have hl7:q<(w6.setCell ⟨g,k * 9+1,none⟩ (.int .i64 1)).heap.size:=by simpa using hl6
         have hf7:∀j,(w6.setCell ⟨g,k * 9+1,none⟩ (.int .i64 1)).frozen? ⟨q,j,none⟩=false:=by simpa [go_sem] using hf6
         have HSv7:Hid (Save O w (w6.setCell ⟨g,k * 9+1,none⟩ (.int .i64 1))):=HSv6.out.setCell (p:=⟨g,k * 9+1,none⟩) (fun _=>HSub.out _ List.mem_cons_self g rfl) _
         have HRw7:Hid (∀u∈(.slice (some ⟨g,0,none⟩) B.L.length cap:Value) :: dv :: ((P.set k (E,.slice gw D.w.length capw)).set k ({ E with st:=1 },.slice gw D.w.length capw)).map Prod.snd,∀j,u.ownBlock=some j->O j∧j<(w6.setCell ⟨g,k * 9+1,none⟩ (.int .i64 1)).heap.size):=by
          intro u hu j hj
          rw [map_set_snd hPk6] at hu
          have:=HRows.out u hu j hj
          exact ⟨this.1,by simpa using this.2⟩
         clear hl hl0 hPk6 hR6 hX6 x1
         go_upto_region 9 with fail
         generalize (w6.setCell ⟨g,k * 9+1,none⟩ (.int .i64 1))=w7 at hR7 hX7 hl7 hf7 HSv7 HRw7 ⊢
         clear hS7 HSv6 hf6 hg6 hl6 d1 dl df xl
         have c1:=hR7.c1
         have hord:w7.ownsRow (q+1) 3 1 dv B.ord.length (B.ord.map (Value.int .i64)):=hR7.ord
         obtain ⟨gd,capd,rfl⟩:=own_sl hord
         have HOrd:Hid (w7.ownsRow (q+1) 3 1 (.slice gd B.ord.length capd) B.ord.length (B.ord.map (Value.int .i64))):=hord
         have HR7:Hid (BrkRaw w7 q (putD (putD B (k:Int) E) (k:Int) { E with st:=1 }) (.slice (some ⟨g,0,none⟩) B.L.length cap) (.slice gd B.ord.length capd) ((P.set k (E,.slice gw D.w.length capw)).set k ({ E with st:=1 },.slice gw D.w.length capw))):=hR7
         have HN1:Hid (some q ≠ (.slice gd B.ord.length capd:Value).ownBlock):=fun e=>by have:=(HOrd.out.lt q e.symm).1;omega
         have HLo:Hid (B.ord.length<=8):=HInv.out.ordLen
         have x1:=hX7.c1
         have xl:=hX7.lt
         obtain ⟨ii,hi,hz0,hz1,hz2⟩:=info_parts infoInt
         clear hR7 hord hX7
         go_region_law
          (first | (refine step_append_two (by rfl) (.tmp 64) (.tmp 67) 66 (by rfl) (q+1) 3 ii (.int .i64 0) 1 8 Tryz.underlying66 hi hz0 hz1 hz2 rfl (by decide) (.slice gd B.ord.length capd) _ _ (by rfl) (own_next HOrd.out (by go_grown)) ⟨w7.heap.size,0,none⟩ 1 1 [.int .i64 m.deal] (by rfl) rfl (num_lies (by simp [go_sem])) num_cell (by have:=HLo.out;unfold maxLen;omega) (by have:=HLo.out;omega) (by simp;omega) (by decide) ?_;intro v8 w8 hown8 hgrow8 hwh8;obtain ⟨ga8,cap8,rfl⟩:=own_sl hown8;have HO8:Hid (w8.ownsRow (q+1) 3 1 (.slice ga8 (B.ord.length+1) cap8) (B.ord.length+1) (B.ord.map (Value.int .i64)++[.int .i64 m.deal])):=hown8;clear hown8;have HW8:Hid _:=hwh8;clear hwh8;have k8:w8.cell? ⟨q,1,none⟩=some (.slice gd B.ord.length capd):=hgrow8.cell (by simp [go_sem,c1,hl7]) HN1.out;have f8:∀k,w8.frozen? ⟨q,k,none⟩=false:=fun k=>(World.frozen?_of_block (hgrow8.block q (by simp;omega) HN1.out)).trans (by simp [go_sem,hf7,hl7])))
         all_goals
          have h8:Save (fun k=>(Value.slice gd B.ord.length capd).ownBlock=some k) w7 w8:=(Save.of_below (by go_grown)).grown hgrow8 (fun k e _=>e)
          have hW8:∀k,(Value.slice ga8 (B.ord.length+1) cap8).ownBlock=some k->(Value.slice gd B.ord.length capd).ownBlock=some k∨w7.heap.size<=k:=fun k hk=>(HW8.out k hk).imp id (fun e=>by rw [e];simp)
          clear hgrow8 x1 c1
          go_wp2_with fail
          refine bodyPost_end (v:=.tuple #[]) (by simp [results,Tryz.results169,go_sem]) rfl ⟨rfl,?_⟩
          rw [HE.out,if_pos HL.out]
          have e8:(B.ord++[(k:Int)]).length=B.ord.length+1:=by simp
          have e9:(B.ord++[(k:Int)]).map (Value.int .i64)=B.ord.map (Value.int .i64)++[.int .i64 m.deal]:=by rw [hmk.out];simp
          have hR9:=HR7.out.ordr (l:=B.ord++[(k:Int)]) (v8:=.slice ga8 (B.ord.length+1) cap8) hl7 (fun u hu j hj=>(HRw7.out u hu j hj).2) h8 (by rw [e8,e9];exact HO8.out) hW8
          have eB:({ putD (putD B (k:Int) E) (k:Int) { E with st:=1 } with ord:=B.ord++[(k:Int)] }:Bok)={ putD B (k:Int) { D with yes:=addI D.yes (i:Int),st:=1 } with ord:=B.ord++[(k:Int)] }:=by
           rw [HEE.out]
           unfold putD
           simp
          rw [eB] at hR9
          refine brk_to HI.out.own HI.out.mine ?_ hR9 (by simpa [go_sem] using f8) ?_
          ·exact (HSv7.out.trans h8 (fun j _ e=>(HRw7.out _ (by simp) j e).1)).setCell (p:=⟨q,1,none⟩) (fun _=>HI.out.mine) _
          ·intro u hu j hj
           have hsz:(w8.setCell (⟨q,1,none⟩:Addr) (.slice ga8 (B.ord.length+1) cap8)).heap.size=w8.heap.size:=by simp
           rw [hsz]
           have z1:=HSv7.out.size
           have z8:=h8.size
           have old:∀x∈(.slice (some ⟨g,0,none⟩) B.L.length cap:Value) :: (.slice gd B.ord.length capd) :: ((P.set k (E,.slice gw D.w.length capw)).set k ({ E with st:=1 },.slice gw D.w.length capw)).map Prod.snd,x.ownBlock=some j->(O j∨w.heap.size<=j)∧j<w8.heap.size:=fun x hx hj=>⟨.inl (HRw7.out x hx j hj).1,by have:=(HRw7.out x hx j hj).2;omega⟩
           rcases List.mem_cons.1 hu with rfl | hu
           ·exact old _ (by simp) hj
           ·rcases List.mem_cons.1 hu with rfl | hu
            ·refine ⟨?_,(HO8.out.lt j hj).2⟩
             rcases hW8 j hj with e | e
             ·exact (old _ (by simp) e).1
             ·exact .inr (by omega)
            ·exact old _ (List.mem_cons_of_mem _ (List.mem_cons_of_mem _ hu)) hj
        ·have hl0:¬ll.length=0:=fun q=>hl (HAll.out.1 q)
         have hl':((ll.length:Int) == 0)=false:=by rw [beq_eq_false_iff_ne];omega
         have HL:Hid _:=hl
         clear hl hl0
         go_wp2_with fail
         refine bodyPost_end (v:=.tuple #[]) (by simp [results,Tryz.results169,go_sem]) rfl ⟨rfl,?_⟩
         rw [HE.out,if_neg HL.out,<-HEE.out]
         exact brk_to HI.out.own HI.out.mine HSv6.out hR6 hf6 (fun u hu j hj=>⟨.inl (HRows.out u hu j hj).1,(HRows.out u hu j hj).2⟩)
     ·have hs':(shp m.c != m.shop)=true:=by simpa using hs
      have HE:Hid _:=hear_say_no HD.out HK2.out (.inr (.inr hs))
      clear hw hs
      go_upto_region 3 with fail
      go_quiet ((go_at_call 144;exact Calls.quiet_of_same (shop_any _ _)))
      go_wp2_with fail
      exact bodyPost_ret (v:=.tuple #[]) (by simp [results,Tryz.results169,go_sem]) rfl ⟨rfl,by rw [HE.out];exact BrkTo.stay HI.out (bdrewN hb3 _)⟩
  ·have h0':(D.st != 0)=true:=by simpa using h0
   have HE:Hid _:=hear_say_no HD.out HK2.out (.inl h0)
   clear h0
   go_upto_region 3 with fail
   go_quiet (fail)
   go_wp2_with fail
   exact bodyPost_ret (v:=.tuple #[]) (by simp [results,Tryz.results169,go_sem]) rfl ⟨rfl,by rw [HE.out];exact BrkTo.stay HI.out (bdrewN hb3 _)⟩
theorem hear_none {B:Bok} {m:Ml} (h:dealAt B m.deal=none):hearR B m=B:=by
 unfold hearR
 rw [h]
theorem hear_other {B:Bok} {m:Ml} (h2:m.kind ≠ 2) (h4:m.kind ≠ 4):hearR B m=B:=by
 unfold hearR
 cases hd:dealAt B m.deal with
 | none=>rfl
 | some D=>
   simp only
   rw [if_neg (fun q:m.kind=2∧_=>h2 q.1),if_neg (fun q:m.kind=4∧_=>h4 q.1)]
   split <;> rfl
theorem rhear_any (O:Nat->Prop) (B:Bok) (q:Nat) (m:Ml) (w:World) (h:BrkIn O w q B) (hI:BInv B):
 Calls Tryz.prog 158 #[.pointer (some ⟨q,0,none⟩),.agg #[.int .i64 m.kind,.int .i64 m.deal,.int .i64 m.shop,.int .i64 m.c,.int .i64 m.d,.bool m.yes]] w fun e w'=>e=.returned (.tuple #[])∧BrkTo O w w' q (hearR B m):=by
 have HI:Hid (BrkIn O w q B):=h
 have HInv:Hid (BInv B):=hI
 have hql:=h.lt
 clear h hI
 go_enter Tryz.func158,Tryz.ntmps158
 go_upto_region 1 with fail
 have hb1:Below w.heap.size w (w.alloc (.cells #[.int .i64 m.kind,.int .i64 m.deal,.int .i64 m.shop,.int .i64 m.c,.int .i64 m.d,.bool m.yes] 142)):=(Below.refl _ _).alloc (Nat.le_refl _) _
 have hX:=MBx.new w m
 generalize (w.alloc (.cells #[.int .i64 m.kind,.int .i64 m.deal,.int .i64 m.shop,.int .i64 m.c,.int .i64 m.d,.bool m.yes] 142))=w1 at hb1 hX ⊢
 have HI1:Hid (BrkIn O w1 q B):=HI.out.next hb1
 have HH:Hid _:=rhas_any O B q m.deal w1 HI1.out HInv.out.len
 have HB1:Hid (Below w.heap.size w w1):=hb1
 generalize w.heap.size=B0 at hX ⊢
 obtain ⟨_,x0,x1,x2,x3,x4,x5⟩:=hX
 clear hb1
 cases hd:dealAt B m.deal with
 | none=>
   rw [hd] at HH
   have HE:Hid _:=hear_none hd
   clear hd
   go_wp2_with fail
   refine Calls.mono HH.out ?_
   rintro e w' ⟨rfl,rfl⟩
   go_wp2_with fail
   exact bodyPost_ret (v:=.tuple #[]) (by simp [results,Tryz.results158,go_sem]) rfl ⟨rfl,by rw [HE.out];exact BrkTo.stay HI.out HB1.out⟩
 | some D=>
   rw [hd] at HH
   by_cases h2:m.kind=2
   ·have HC:Hid _:=rsay_any O B q m D w1 HI1.out HInv.out hd h2
    have h2':(m.kind == 2)=true:=by simp [h2]
    clear hd h2
    go_wp2_with fail
    refine Calls.mono HH.out ?_
    rintro e w' ⟨rfl,rfl⟩
    go_wp2_with fail
    refine Calls.mono HC.out ?_
    rintro e w2 ⟨rfl,hT⟩
    go_wp2_with fail
    exact bodyPost_end (v:=.tuple #[]) (by simp [results,Tryz.results158,go_sem]) rfl ⟨rfl,hT.behind HB1.out⟩
   ·have h2':(m.kind == 2)=false:=by simpa using h2
    by_cases h4:m.kind=4
    ·have HC:Hid _:=rover_any O B q m D w1 HI1.out HInv.out hd h4
     have h4':(m.kind == 4)=true:=by simp [h4]
     clear hd h2 h4
     go_wp2_with fail
     refine Calls.mono HH.out ?_
     rintro e w' ⟨rfl,rfl⟩
     go_wp2_with fail
     refine Calls.mono HC.out ?_
     rintro e w2 ⟨rfl,hT⟩
     go_wp2_with fail
     exact bodyPost_end (v:=.tuple #[]) (by simp [results,Tryz.results158,go_sem]) rfl ⟨rfl,hT.behind HB1.out⟩
    ·have h4':(m.kind == 4)=false:=by simpa using h4
     have HE:Hid (hearR B m=B):=hear_other h2 h4
     clear hd h2 h4
     go_wp2_with fail
     refine Calls.mono HH.out ?_
     rintro e w' ⟨rfl,rfl⟩
     go_wp2_with fail
     exact bodyPost_end (v:=.tuple #[]) (by simp [results,Tryz.results158,go_sem]) rfl ⟨rfl,by rw [HE.out];exact BrkTo.stay HI.out HB1.out⟩
theorem flatB_put:∀{P:List (Dl × Value)} {k:Nat} {x y:Dl × Value} {a b c d e f g h i:Value},P[k]?=some x->dcells y=[a,b,c,d,e,f,g,h,i]->flatB (P.set k y)=(((((((((flatB P).set (k * 9) a).set (k * 9+1) b).set (k * 9+2) c).set (k * 9+3) d).set (k * 9+4) e).set (k * 9+5) f).set (k * 9+6) g).set (k * 9+7) h).set (k * 9+8) i
 | z :: r,0,x,y,a,b,c,d,e,f,g,h,i,hx,hy=>by
   unfold flatB
   rw [List.set_cons_zero,List.flatMap_cons,List.flatMap_cons,hy]
   simp [dcells]
 | z :: r,k+1,x,y,a,b,c,d,e,f,g,h,i,hx,hy=>by
   have ih:=flatB_put (P:=r) (k:=k) (x:=x) (y:=y) (by simpa using hx) hy
   unfold flatB at ih ⊢
   rw [List.set_cons_succ,List.flatMap_cons,List.flatMap_cons,ih]
   have s:∀(m:List Value) (j:Nat) (u:Value),(dcells z++m).set ((k+1) * 9+j) u=dcells z++m.set (k * 9+j) u:=fun m j u=>by
    rw [List.set_append_right _ _ (by rw [dcells_len];omega),dcells_len,show (k+1) * 9+j - 9=k * 9+j by omega]
   have s0:∀(m:List Value) (u:Value),(dcells z++m).set ((k+1) * 9) u=dcells z++m.set (k * 9) u:=fun m u=>s m 0 u
   rw [s0,s,s,s,s,s,s,s,s]
def put9 (w:World) (g k:Nat) (v:Value) (st:Int):World:=((((((((w.setCell ⟨g,k * 9,none⟩ v).setCell ⟨g,k * 9+1,none⟩ (.int .i64 st)).setCell ⟨g,k * 9+2,none⟩ (.bool false)).setCell ⟨g,k * 9+3,none⟩ (.bool false)).setCell ⟨g,k * 9+4,none⟩ (.bool false)).setCell ⟨g,k * 9+5,none⟩ (.bool false)).setCell ⟨g,k * 9+6,none⟩ (.bool false)).setCell ⟨g,k * 9+7,none⟩ (.bool false)).setCell ⟨g,k * 9+8,none⟩ (.bool false)
theorem save9 {O:Nat->Prop} {a w:World} {g:Nat} (h:Save O a w) (hg:O g) (k:Nat) (v:Value) (st:Int):Save O a (put9 w g k v st):=by
 unfold put9
 exact ((((((((h.setCell (p:=⟨g,_,none⟩) (fun _=>hg) _).setCell (p:=⟨g,_,none⟩) (fun _=>hg) _).setCell (p:=⟨g,_,none⟩) (fun _=>hg) _).setCell (p:=⟨g,_,none⟩) (fun _=>hg) _).setCell (p:=⟨g,_,none⟩) (fun _=>hg) _).setCell (p:=⟨g,_,none⟩) (fun _=>hg) _).setCell (p:=⟨g,_,none⟩) (fun _=>hg) _).setCell (p:=⟨g,_,none⟩) (fun _=>hg) _).setCell (p:=⟨g,_,none⟩) (fun _=>hg) _
theorem row9 {w:World} {q g n cap k:Nat} {P:List (Dl × Value)} {D:Dl} {v:Value} (h:w.ownsRow (q+1) 191 9 (.slice (some ⟨g,0,none⟩) n cap) n (flatB P)) (hk:P[k]?=some (D,v)):(put9 w g k v (crashD D).st).ownsRow (q+1) 191 9 (.slice (some ⟨g,0,none⟩) n cap) n (flatB (P.set k (crashD D,v))):=by
 have hkl:=(List.getElem?_eq_some_iff.1 hk).1
 have hl:=flatB_length P
 rw [flatB_put hk (show dcells (crashD D,v)=[v,.int .i64 (crashD D).st,.bool false,.bool false,.bool false,.bool false,.bool false,.bool false,.bool false] by simp [dcells,crashD])]
 unfold put9
 exact own_set (own_set (own_set (own_set (own_set (own_set (own_set (own_set (own_set h (by omega) _) (by simp only [List.length_set];omega) _) (by simp only [List.length_set];omega) _) (by simp only [List.length_set];omega) _) (by simp only [List.length_set];omega) _) (by simp only [List.length_set];omega) _) (by simp only [List.length_set];omega) _) (by simp only [List.length_set];omega) _) (by simp only [List.length_set];omega) _
theorem map_set_ws {P:List (Dl × Value)} {k:Nat} {D E:Dl} {v:Value} (hk:P[k]?=some (D,v)) (he:E.w=D.w):(P.set k (E,v)).map (fun x=>(x.1.w,x.2))=P.map (fun x=>(x.1.w,x.2)):=by
 rw [List.map_set]
 apply List.ext_getElem?
 intro j
 by_cases e:k=j
 ·subst e
  have hkl:=(List.getElem?_eq_some_iff.1 hk).1
  rw [List.getElem?_set_self (by simpa using hkl),List.getElem?_map,hk]
  simp [he]
 ·rw [List.getElem?_set_ne e]
theorem rcrash_any (O:Nat->Prop) (B:Bok) (q:Nat) (w:World) (h:BrkIn O w q B) (hI:BInv B):
 Calls Tryz.prog 140 #[.pointer (some ⟨q,0,none⟩)] w fun e w'=>e=.returned (.tuple #[])∧BrkTo O w w' q (crashR B):=by
 obtain ⟨rv,dv,P,hR,hsub⟩:=h.raw
 have HI:Hid (BrkIn O w q B):=h
 have hql:=h.lt
 have c0:=hR.c0
 have h8:(B.L.length:Int)<=8:=by have:=hI.len;omega
 by_cases hne:B.L.length=0
 ·obtain ⟨ga,cap,rfl⟩:=own_sl hR.row
  rw [<-hR.len] at c0
  have HE:Hid (crashR B=B):=by
   have:B.L=[]:=List.length_eq_zero_iff.1 hne
   show _=_
   unfold crashR
   rw [this]
   cases B
   simp_all
  have hn':¬(0:Int)<(B.L.length:Int):=by omega
  clear hR hsub h hI hne
  go_enter Tryz.func140,Tryz.ntmps140
  go_wp2_with fail
  go_loopg [2,3,4,10] 0 (fun _ _ _ _ s10 wr=>s10=.int .i64 0∧w=wr)
  case atStart=>exact ⟨rfl,rfl⟩
  case round=>
   obtain ⟨rfl,rfl⟩:=hrel
   go_wp2_with fail
   exact bodyPost_end (v:=.tuple #[]) (by simp [results,Tryz.results140,go_sem]) rfl ⟨rfl,by rw [HE.out];exact BrkTo.stay HI.out (Below.refl _ _)⟩
 ·obtain ⟨g,cap,rfl⟩:=own_any hR.row (by rw [<-hR.len];exact hne)
  have hPl:=hR.len
  rw [<-hPl] at c0 hR hsub
  have HSub:Hid (∀u∈(.slice (some ⟨g,0,none⟩) B.L.length cap:Value) :: dv :: P.map Prod.snd,∀k,u.ownBlock=some k->O k):=hsub
  have hqg:q ≠ g:=by have:=(hR.row.lt g rfl).1;omega
  clear hsub h hI hne
  go_enter Tryz.func140,Tryz.ntmps140
  go_wp2_with fail
  go_loopg [2,3,4,10] B.L.length (fun gg _ _ _ s10 wr=>∃(k:Nat) (P':List (Dl × Value)),k<=B.L.length∧gg=B.L.length - k∧s10=.int .i64 k∧BrkRaw wr q ⟨crashTo B.L k,B.ord⟩ (.slice (some ⟨g,0,none⟩) B.L.length cap) dv P'∧Hid (P'.map (fun x=>(x.1.w,x.2))=P.map (fun x=>(x.1.w,x.2)))∧Hid (Save (fun b=>b=g) w wr))
  case atStart=>exact ⟨0,P,Nat.zero_le _,rfl,rfl,by rw [crashTo_zero];exact hR,rfl,Save.refl _ _⟩
  case round=>
   obtain ⟨k,P',hk,rfl,rfl,hRk,HWs,HSv⟩:=hrel
   clear hR c0
   have c0:=hRk.c0
   have hqr:q<wr.heap.size:=Nat.lt_of_lt_of_le hql HSv.out.size
   by_cases hlt:k<B.L.length
   ·obtain ⟨D,hkD⟩:∃x,B.L[k]?=some x:=⟨_,List.getElem?_eq_getElem hlt⟩
    obtain ⟨g',cap',v,erv,hP',h9,_,_,_⟩:=hRk.deal9 (crashTo_at hkD)
    have e1:g=g':=by
     simp only [Value.slice.injEq,Option.some.injEq,Addr.mk.injEq] at erv
     exact erv.1.1
    subst e1
    have j0:(0:Int)<=(k:Int):=by omega
    have j1:(k:Int)<(B.L.length:Int):=by omega
    obtain ⟨d0,d1,d2,d3,d4,d5,d6,d7,d8,dl,df⟩:=h9
    have HRk:Hid (BrkRaw wr q ⟨crashTo B.L k,B.ord⟩ (.slice (some ⟨g,0,none⟩) B.L.length cap) dv P'):=hRk
    have HP':Hid (P'[k]?=some (D,v)):=hP'
    have HKL:Hid (k<B.L.length):=hlt
    have HkD:Hid _:=hkD
    clear erv hP' hRk hlt hkD hk
    have hw:∃gw nw capw,v=.slice gw nw capw:=by
     obtain ⟨gw,capw,e⟩:=own_sl (HRk.out.deal _ (List.mem_of_getElem? HP'.out))
     exact ⟨gw,_,capw,e⟩
    obtain ⟨gw,nw,capw,rfl⟩:=hw
    go_upto_region 3 with fail
    have hb2:Below wr.heap.size wr (wr.alloc (.cells (dcells (D,.slice gw nw capw)).toArray 191)):=(Below.refl _ _).alloc (Nat.le_refl _) _
    have hY:=BoxAt.new wr (dcells (D,.slice gw nw capw)) 191
    change Below _ _ (wr.alloc (.cells #[.slice gw nw capw,.int .i64 D.st,.bool (decide ((0:Int)∈D.yes)),.bool (decide ((1:Int)∈D.yes)),.bool (decide ((2:Int)∈D.yes)),.bool (decide ((3:Int)∈D.yes)),.bool (decide ((0:Int)∈D.ov)),.bool (decide ((1:Int)∈D.ov)),.bool (decide ((2:Int)∈D.ov))] 191)) at hb2
    change BoxAt (wr.alloc (.cells #[.slice gw nw capw,.int .i64 D.st,.bool (decide ((0:Int)∈D.yes)),.bool (decide ((1:Int)∈D.yes)),.bool (decide ((2:Int)∈D.yes)),.bool (decide ((3:Int)∈D.yes)),.bool (decide ((0:Int)∈D.ov)),.bool (decide ((1:Int)∈D.ov)),.bool (decide ((2:Int)∈D.ov))] 191)) _ _ at hY
    have HB2:Hid (Below wr.heap.size wr (wr.alloc (.cells #[.slice gw nw capw,.int .i64 D.st,.bool (decide ((0:Int)∈D.yes)),.bool (decide ((1:Int)∈D.yes)),.bool (decide ((2:Int)∈D.yes)),.bool (decide ((3:Int)∈D.yes)),.bool (decide ((0:Int)∈D.ov)),.bool (decide ((1:Int)∈D.ov)),.bool (decide ((2:Int)∈D.ov))] 191))):=hb2
    have h92:Deal9 (wr.alloc (.cells #[.slice gw nw capw,.int .i64 D.st,.bool (decide ((0:Int)∈D.yes)),.bool (decide ((1:Int)∈D.yes)),.bool (decide ((2:Int)∈D.yes)),.bool (decide ((3:Int)∈D.yes)),.bool (decide ((0:Int)∈D.ov)),.bool (decide ((1:Int)∈D.ov)),.bool (decide ((2:Int)∈D.ov))] 191)) g k D (.slice gw nw capw):=Deal9.next ⟨d0,d1,d2,d3,d4,d5,d6,d7,d8,dl,df⟩ hb2
    have c02:(wr.alloc (.cells #[.slice gw nw capw,.int .i64 D.st,.bool (decide ((0:Int)∈D.yes)),.bool (decide ((1:Int)∈D.yes)),.bool (decide ((2:Int)∈D.yes)),.bool (decide ((3:Int)∈D.yes)),.bool (decide ((0:Int)∈D.ov)),.bool (decide ((1:Int)∈D.ov)),.bool (decide ((2:Int)∈D.ov))] 191)).cell? ⟨q,0,none⟩=some (.slice (some ⟨g,0,none⟩) B.L.length cap):=((bcell hb2).1 _ _ hqr).trans c0
    have hBg:g ≠ wr.heap.size:=by omega
    generalize (wr.alloc (.cells #[.slice gw nw capw,.int .i64 D.st,.bool (decide ((0:Int)∈D.yes)),.bool (decide ((1:Int)∈D.yes)),.bool (decide ((2:Int)∈D.yes)),.bool (decide ((3:Int)∈D.yes)),.bool (decide ((0:Int)∈D.ov)),.bool (decide ((1:Int)∈D.ov)),.bool (decide ((2:Int)∈D.ov))] 191))=w2 at hY HB2 h92 c02 ⊢
    generalize wr.heap.size=B2 at hY hBg ⊢
    have y0:=hY.2 0 _ rfl
    have y1:=hY.2 1 _ rfl
    clear hb2 hY d0 d1 d2 d3 d4 d5 d6 d7 d8 dl df c0
    obtain ⟨d0,d1,d2,d3,d4,d5,d6,d7,d8,dl,df⟩:=h92
    have HRel:Hid (∀w3,Below w2.heap.size w2 w3->∃P',BrkRaw (put9 w3 g k (.slice gw nw capw) (crashD D).st) q ⟨crashTo B.L (k+1),B.ord⟩ (.slice (some ⟨g,0,none⟩) B.L.length cap) dv P'∧Hid (P'.map (fun x=>(x.1.w,x.2))=P.map (fun x=>(x.1.w,x.2)))∧Hid (Save (fun b=>b=g) w (put9 w3 g k (.slice gw nw capw) (crashD D).st))):=fun w3 h3=>by
     have hb3:=after HB2.out h3 HB2.out.size
     have hR3:=HRk.out.save hqr (.of_below (O:=fun _=>False) hb3) (fun q=>q) (fun _ _ _ _ q=>q)
     have hl3:q<w3.heap.size:=Nat.lt_of_lt_of_le hqr hb3.size
     have hn:=hR3.gcap
     have hrow:=hR3.row
     rw [hn] at hrow
     refine ⟨P'.set k (crashD D,.slice gw nw capw),?_,(map_set_ws (E:=crashD D) HP'.out rfl).trans HWs.out,save9 (O:=fun b=>b=g) (HSv.out.next hb3) rfl k _ _⟩
     have:=hR3.rows (w':=put9 w3 g k (.slice gw nw capw) (crashD D).st) (P':=P'.set k (crashD D,.slice gw nw capw)) hl3 (save9 (O:=fun b=>b=g) (Save.refl _ _) rfl k _ _) (by rw [List.length_set,hn];exact row9 hrow HP'.out) (map_set_ws (E:=crashD D) HP'.out rfl)
     have e2:(P'.set k (crashD D,.slice gw nw capw)).map Prod.fst=crashTo B.L (k+1):=by
      rw [crashTo_next HkD.out,List.map_set,<-HRk.out.fst]
     rw [e2] at this
     exact this
    by_cases hst:D.st=0
    ·have hst':(D.st == 0)=true:=by simp [hst]
     have hcs:(crashD D).st=2:=by simp [crashD,hst]
     rw [hcs] at HRel
     clear hst hcs
     go_upto_region 6 with fail
     go_region
     all_goals
      go_wp2_with fail
      go_roundg (B.L.length - (k+1))
      case measure=>have:=HKL.out;omega
      case rel=>
       obtain ⟨P6,r1,r2,r3⟩:=HRel.out _ (Below.refl _ _)
       have r4:=r3.out
       unfold put9 at r1 r4
       have hb6:∀W:World,Below W.heap.size W W.drew:=fun W=>(Below.refl _ _).drew
       have hl6:∀W:World,Save (fun b=>b=g) w W->q<W.heap.size:=fun W hW=>Nat.lt_of_lt_of_le hql hW.size
       have r5:=r1.save (hl6 _ r4) (.of_below (O:=fun _=>False) (hb6 _)) (fun q=>q) (fun _ _ _ _ q=>q)
       have r6:=r4.next (hb6 _)
       have r7:Hid _:=r6
       have hk1:k+1<=B.L.length:=HKL.out
       with_reducible exact ⟨k+1,P6,hk1,rfl,by simp,r5,r2,r7⟩
    ·have hst':(D.st == 0)=false:=by simpa using hst
     have hcs:(crashD D).st=D.st:=by simp [crashD,hst]
     rw [hcs] at HRel
     clear hst hcs
     go_upto_region 6 with fail
     go_region
     all_goals
      go_wp2_with fail
      go_roundg (B.L.length - (k+1))
      case measure=>have:=HKL.out;omega
      case rel=>
       obtain ⟨P6,r1,r2,r3⟩:=HRel.out _ (Below.refl _ _)
       have r4:=r3.out
       unfold put9 at r1 r4
       have hb6:∀W:World,Below W.heap.size W W.drew:=fun W=>(Below.refl _ _).drew
       have hl6:∀W:World,Save (fun b=>b=g) w W->q<W.heap.size:=fun W hW=>Nat.lt_of_lt_of_le hql hW.size
       have r5:=r1.save (hl6 _ r4) (.of_below (O:=fun _=>False) (hb6 _)) (fun q=>q) (fun _ _ _ _ q=>q)
       have r6:=r4.next (hb6 _)
       have r7:Hid _:=r6
       have hk1:k+1<=B.L.length:=HKL.out
       with_reducible exact ⟨k+1,P6,hk1,rfl,by simp,r5,r2,r7⟩
   ·have hkk:k=B.L.length:=by omega
    subst hkk
    have HT:Hid (BrkTo O w wr q (crashR B)):=by
     rw [crashTo_all] at hRk
     have hgO:O g:=HSub.out _ List.mem_cons_self g rfl
     have e2:P'.map Prod.snd=P.map Prod.snd:=by
      have:=congrArg (List.map Prod.snd) HWs.out
      simpa [List.map_map,Function.comp_def] using this
     refine brk_to HI.out.own HI.out.mine (HSv.out.mono (fun j _ e=>by rw [e];exact hgO)) hRk (fun j=>(HSv.out.frozen (p:=⟨q,j,none⟩) hql hqg).trans (HI.out.loose j)) (fun u hu j hj=>?_)
     rw [e2] at hu
     have h1:=HSub.out u hu j hj
     exact ⟨.inl h1,Nat.lt_of_lt_of_le (HI.out.own j h1) HSv.out.size⟩
    clear hRk hk hlt
    go_wp2_with fail
    exact bodyPost_end (v:=.tuple #[]) (by simp [results,Tryz.results140,go_sem]) rfl ⟨rfl,HT.out⟩
end Go.Proofs.YtbgnajcmhmpjlacGreatDoor
