/- A town in memory: a broker's place, what the counters had first, the clerks' places, the post's; what a step of it leaves; a town that is being made. -/
import Derived.Test.YtbgnajcmhmpjlacGreatDoorA5
import Derived.Test.YtbgnajcmhmpjlacGreatDoorA6
import Derived.Test.YtbgnajcmhmpjlacGreatDoorS0
import Derived.Test.YtbgnajcmhmpjlacGreatDoorA4
set_option maxRecDepth 100000
set_option maxHeartbeats 100000000
namespace Go.Proofs.YtbgnajcmhmpjlacGreatDoor
open Go.RowKit
def sumD (f:Int->Int):List Int->Int
 | []=>0
 | n :: r=>f n+sumD f r
theorem sumD_append (f:Int->Int) (a b:List Int):sumD f (a++b)=sumD f a+sumD f b:=by
 induction a with
 | nil=>simp [sumD]
 | cons x r ih=>simp only [List.cons_append,sumD,ih];omega
theorem sumD_congr {f g:Int->Int} {l:List Int} (h:∀n∈l,f n=g n):sumD f l=sumD g l:=by
 induction l with
 | nil=>rfl
 | cons x r ih=>simp only [sumD];rw [h x (by simp),ih (fun n hn=>h n (by simp [hn]))]
theorem sumD_add (f g:Int->Int) (l:List Int):sumD (fun n=>f n+g n) l=sumD f l+sumD g l:=by
 induction l with
 | nil=>rfl
 | cons x r ih=>simp only [sumD,ih];omega
theorem sumD_zero {f:Int->Int} {l:List Int} (h:∀n∈l,f n=0):sumD f l=0:=by
 induction l with
 | nil=>rfl
 | cons x r ih=>simp only [sumD];rw [h x (by simp),ih (fun n hn=>h n (by simp [hn]))];rfl
theorem sum_gainOf (h:H3) (c:Int) {ks:List Int} (hn:ks.Nodup):sumD (fun k=>gainOf k true h c) ks=if h.1∈ks∧h.2.1=c then h.2.2 else 0:=by
 induction ks with
 | nil=>simp [sumD]
 | cons k r ih=>
   obtain ⟨h1,h2⟩:=List.nodup_cons.1 hn
   simp only [sumD]
   rw [ih h2]
   unfold gainOf
   by_cases hc:h.2.1=c
   ·by_cases hk:h.1=k
    ·subst hk
     simp [hc,h1]
    ·simp [hc,hk]
   ·simp [hc]
theorem gain_bounds (hs:List H3) (c:Int) {ks:List Int} (hn:ks.Nodup): - outs hs c<=sumD (fun k=>gain k true hs c) ks∧sumD (fun k=>gain k true hs c) ks<=inns hs c:=by
 induction hs with
 | nil=>rw [sumD_zero (f:=fun k=>gain k true [] c) (fun n _=>rfl)];simp [outs,inns]
 | cons h r ih=>
   have e:sumD (fun k=>gain k true (h :: r) c) ks=sumD (fun k=>gainOf k true h c) ks+sumD (fun k=>gain k true r c) ks:=by
    rw [<-sumD_add]
    rfl
   rw [e,sum_gainOf h c hn]
   simp only [outs,inns]
   unfold outOf innOf
   by_cases hc:h.2.1=c
   ·by_cases hk:h.1∈ks
    ·by_cases h0:h.2.2<0
     ·simp only [hc,hk,h0,and_self,if_true];omega
     ·simp only [hc,hk,h0,and_self,if_true,if_false];omega
    ·by_cases h0:h.2.2<0
     ·simp only [hc,hk,h0,false_and,if_true,if_false];omega
     ·simp only [hc,hk,h0,false_and,if_true,if_false];omega
   ·simp only [hc,and_false,if_false];omega
def Apart (hs:List H3):Prop:=hs.Pairwise (fun x y=>¬(x.1=y.1∧x.2.1=y.2.1))
theorem apart_snoc {hs:List H3} {n c d:Int} (h:Apart hs) (hf:hs.find? (same n c)=none):Apart (hs++[(n,c,d)]):=by
 unfold Apart
 rw [List.pairwise_append]
 refine ⟨h,by simp,?_⟩
 intro x hx y hy
 rw [List.mem_singleton.1 hy]
 rintro ⟨e1,e2⟩
 have:=(List.find?_eq_none.1 hf) x hx
 unfold same at this
 simp only at e1 e2
 simp [e1,e2] at this
theorem apart_filter {hs:List H3} (h:Apart hs) (q:H3->Bool):Apart (hs.filter q):=List.Pairwise.filter _ h
theorem apart_tell {A:Bk} (h:Apart A.hs) (r:Stp):Apart (tellR A r).2.hs:=by
 unfold tellR
 split
 ·split
  ·rcases holdR_cases A r.deal r.c r.d with ⟨_,e⟩ | ⟨_,m,_,_,⟨y,_,e⟩ | ⟨_,_,e⟩ | ⟨hf,_,e⟩⟩
   ·rw [e];exact h
   ·rw [e];exact h
   ·rw [e];exact h
   ·rw [e];exact apart_snoc h hf
  ·rcases endR_cases A r.deal r.done with ⟨_,e⟩ | ⟨_,_,⟨b,_,e⟩ | ⟨_,e⟩⟩
   ·rw [e];exact h
   ·rw [e];exact h
   ·rw [e];exact apart_filter h _
 ·exact h
theorem gain_none {n c:Int} {hs:List H3} (h:∀x∈hs,¬(x.1=n∧x.2.1=c)):gain n true hs c=0:=by
 induction hs with
 | nil=>rfl
 | cons x r ih=>
   simp only [gain]
   rw [ih (fun y hy=>h y (by simp [hy]))]
   unfold gainOf
   rw [if_neg (fun q=>h x (by simp) ⟨q.1,q.2.1⟩)]
   rfl
theorem gain_one {n c d:Int} {hs:List H3} (ha:Apart hs) (hm:(n,c,d)∈hs):gain n true hs c=d:=by
 induction hs with
 | nil=>simp at hm
 | cons x r ih=>
   obtain ⟨h1,h2⟩:=List.pairwise_cons.1 ha
   simp only [gain]
   rcases List.mem_cons.1 hm with e | hm
   ·subst e
    rw [gain_none (fun y hy q=>h1 y hy ⟨q.1.symm,q.2.symm⟩)]
    simp [gainOf]
   ·rw [ih h2 hm]
    unfold gainOf
    rw [if_neg (fun q=>h1 _ hm ⟨q.1,q.2.1⟩)]
    omega
theorem gain_wants {n:Int} {k:Nat} {hs:List H3} {w:List (Int × Int)} (ha:Apart hs) (hw:w.Pairwise (fun x y=>x.1 ≠ y.1)) (h1:∀d,((k:Int),d)∈w->(n,(k:Int),d)∈hs) (h2:∀d,(n,(k:Int),d)∈hs->((k:Int),d)∈w):gain n true hs (k:Int)=dOf w k:=by
 by_cases h:∃d,((k:Int),d)∈w
 ·obtain ⟨d,hd⟩:=h
  rw [gain_one ha (h1 d hd),dOf_one hw hd rfl]
 ·rw [dOf_none (fun x hx e=>h ⟨x.2,by rw [<-e];exact hx⟩),gain_none]
  rintro ⟨a,b,d⟩ hx ⟨e1,e2⟩
  simp only at e1 e2
  subst e1
  subst e2
  exact h ⟨d,h2 d hx⟩
structure Twn where
 B:Bok
 P:Nat->Kb
 M:List Ml
def updP (P:Nat->Kb) (s:Nat) (K:Kb):Nat->Kb:=fun j=>if j=s then K else P j
def MailOk (B:Bok) (P:Nat->Kb) (m:Ml):Prop:=0<=m.shop∧m.shop<3∧∃D,dealAt B m.deal=some D∧
 ((m.kind=1∧(m.c,m.d)∈D.w∧m.shop=shp m.c)∨
  (m.kind=2∧(m.c,m.d)∈D.w∧m.shop=shp m.c∧(m.yes=true->(m.deal,m.c,m.d)∈(P m.shop.toNat).A.hs∨(over (P m.shop.toNat).A.es m.deal).isSome=true))∨
  (m.kind=3∧D.st ≠ 0∧m.yes=(D.st == 1)∧m.shop∈shopsL D.w)∨
  (m.kind=4∧D.st ≠ 0∧m.shop∈shopsL D.w∧(over (P m.shop.toNat).A.es m.deal).isSome=true))
def Later (B B':Bok):Prop:=∀n D,dealAt B n=some D->∃D',dealAt B' n=some D'∧D'.w=D.w∧(D.st ≠ 0->D'.st=D.st)
theorem Later.refl (B:Bok):Later B B:=fun _ D h=>⟨D,h,rfl,fun _=>rfl⟩
theorem later_put {B:Bok} {n:Int} {D D':Dl} (h:dealAt B n=some D) (hw:D'.w=D.w) (hs:D.st ≠ 0->D'.st=D.st):Later B (putD B n D'):=by
 intro j E hE
 rw [dealAt_put h]
 by_cases e:j=n
 ·subst e
  rw [h] at hE
  obtain rfl:=Option.some.inj hE
  exact ⟨D',by rw [if_pos rfl],hw,hs⟩
 ·exact ⟨E,by rw [if_neg e];exact hE,rfl,fun _=>rfl⟩
def Keeps (K K':Kb):Prop:=(∀n c d,(n,c,d)∈K.A.hs->(n,c,d)∈K'.A.hs∨(over K'.A.es n).isSome=true)∧∀n b,over K.A.es n=some b->over K'.A.es n=some b
theorem Keeps.refl (K:Kb):Keeps K K:=⟨fun _ _ _ h=>.inl h,fun _ _ h=>h⟩
theorem Keeps.some {K K':Kb} (h:Keeps K K') {n:Int} (ho:(over K.A.es n).isSome=true):(over K'.A.es n).isSome=true:=by
 obtain ⟨b,hb⟩:=Option.isSome_iff_exists.1 ho
 rw [h.2 n b hb];rfl
theorem MailOk.later {B B':Bok} {P P':Nat->Kb} {m:Ml} (h:MailOk B P m) (hB:Later B B') (hP:∀s,Keeps (P s) (P' s)):MailOk B' P' m:=by
 obtain ⟨h0,h3,D,hD,hc⟩:=h
 obtain ⟨D',hD',hw,hs⟩:=hB _ D hD
 refine ⟨h0,h3,D',hD',?_⟩
 rw [hw]
 rcases hc with ⟨a,b,c⟩ | ⟨a,b,c,d⟩ | ⟨a,b,c,d⟩ | ⟨a,b,c,d⟩
 ·exact .inl ⟨a,b,c⟩
 ·refine .inr (.inl ⟨a,b,c,fun hy=>?_⟩)
  rcases d hy with q | q
  ·exact (hP _).1 _ _ _ q
  ·exact .inr ((hP _).some q)
 ·rw [hs b]
  exact .inr (.inr (.inl ⟨a,b,c,d⟩))
 ·rw [hs b]
  exact .inr (.inr (.inr ⟨a,b,c,(hP _).some d⟩))
def valT (T:Twn) (k:Nat):Int:=(T.P (k / 2)).A.val (k % 2)
def doneAt (T:Twn) (k:Nat) (n:Int):Int:=if over (T.P (k / 2)).A.es n=some true then dOf (wantsR T.B n) k else 0
structure Inv (w0:Nat->Int) (T:Twn):Prop where
 pens:∀s:Nat,s<3->GoodK (book0 (s:Int) w0) (T.P s)
 apart:∀s:Nat,s<3->Apart (T.P s).A.hs
 len:T.B.L.length<=8
 fit:∀D∈T.B.L,Fit D.w
 st:∀D∈T.B.L,D.st=0∨D.st=1∨D.st=2
 nd:T.B.ord.Nodup
 ord:∀n,n∈T.B.ord ↔ ∃D,dealAt T.B n=some D∧D.st=1
 ynd:∀D∈T.B.L,D.yes.Nodup
 hold:∀s:Nat,s<3->∀n c d,(n,c,d)∈(T.P s).A.hs->∃D,dealAt T.B n=some D∧(c,d)∈D.w
 ovd:∀s:Nat,s<3->∀n b,over (T.P s).A.es n=some b->∃D,dealAt T.B n=some D∧D.st ≠ 0∧b=(D.st == 1)
 yes:∀n D,dealAt T.B n=some D->∀i∈D.yes,∃(k:Nat) (c d:Int),i=(k:Int)∧D.w[k]?=some (c,d)∧(D.st=0->(n,c,d)∈(T.P (shp c).toNat).A.hs)
 done:∀n D,dealAt T.B n=some D->D.st=1->∀c d,(c,d)∈D.w->(n,c,d)∈(T.P (shp c).toNat).A.hs∨over (T.P (shp c).toNat).A.es n=some true
 ovs:∀n D,dealAt T.B n=some D->∀s∈D.ov,0<=s∧s<3∧(over (T.P s.toNat).A.es n).isSome=true
 mail:∀m∈T.M,MailOk T.B T.P m
 mlen:T.M.length<=40
 vals:∀k:Nat,k<6->valT T k=w0 k+sumD (doneAt T k) T.B.ord
theorem Fit.shop {w:List (Int × Int)} (h:Fit w) {c d:Int} (hm:(c,d)∈w):0<=c∧c<6∧0<=shp c∧shp c<3∧shp c=c / 2:=by
 obtain ⟨a,b,_⟩:=wnt_ok (h.each (c,d) hm)
 have e:=shp_eq a b
 exact ⟨a,b,by rw [e];omega,by rw [e];omega,e⟩
theorem inv_new {w0:Nat->Int} (h:∀s:Nat,s<3->newOk (s:Int) w0=true):Inv w0 ⟨⟨[],[]⟩,fun s=>⟨book0 (s:Int) w0,[]⟩,[]⟩:=by
 have hd:∀n,dealAt (⟨[],[]⟩:Bok) n=none:=fun n=>by unfold dealAt;split <;> simp
 refine ⟨fun s hs=>goodK_new (good_new (h s hs)) rfl rfl,fun s _=>List.Pairwise.nil,by simp,by simp,by simp,List.nodup_nil,fun n=>⟨fun q=>by simp at q,fun ⟨D,q,_⟩=>absurd q (by rw [hd];simp)⟩,by simp,fun s _ n c d q=>by simp [book0] at q,fun s _ n b q=>by simp [book0,over] at q,fun n D q=>absurd q (by rw [hd];simp),fun n D q=>absurd q (by rw [hd];simp),fun n D q=>absurd q (by rw [hd];simp),by simp,by simp,?_⟩
 intro k hk
 show (book0 ((k / 2:Nat):Int) w0).val (k % 2)=w0 k+0
 have:k=0∨k=1∨k=2∨k=3∨k=4∨k=5:=by omega
 rcases this with rfl | rfl | rfl | rfl | rfl | rfl <;> simp [book0,Bk.val]
theorem Inv.less {w0:Nat->Int} {T:Twn} {M':List Ml} (h:Inv w0 T) (hm:∀m∈M',MailOk T.B T.P m) (hl:M'.length<=40):Inv w0 { T with M:=M' }:=
 ⟨h.pens,h.apart,h.len,h.fit,h.st,h.nd,h.ord,h.ynd,h.hold,h.ovd,h.yes,h.done,h.ovs,hm,hl,h.vals⟩
theorem wants_later {B B':Bok} (hL:Later B B') {n:Int} {D:Dl} (h:dealAt B n=some D):wantsR B' n=wantsR B n:=by
 obtain ⟨D',hD',hw,_⟩:=hL n D h
 rw [wantsR_some h,wantsR_some hD',hw]
theorem Inv.book {w0:Nat->Int} {T:Twn} {B':Bok} (h:Inv w0 T) (hL:Later T.B B') (len:B'.L.length<=8) (fit:∀D∈B'.L,Fit D.w) (st:∀D∈B'.L,D.st=0∨D.st=1∨D.st=2)
 (ord:∀n,n∈B'.ord ↔ ∃D,dealAt B' n=some D∧D.st=1) (ynd:∀D∈B'.L,D.yes.Nodup)
 (yes:∀n D,dealAt B' n=some D->∀i∈D.yes,∃(k:Nat) (c d:Int),i=(k:Int)∧D.w[k]?=some (c,d)∧(D.st=0->(n,c,d)∈(T.P (shp c).toNat).A.hs))
 (done:∀n D,dealAt B' n=some D->D.st=1->∀c d,(c,d)∈D.w->(n,c,d)∈(T.P (shp c).toNat).A.hs∨over (T.P (shp c).toNat).A.es n=some true)
 (ovs:∀n D,dealAt B' n=some D->∀s∈D.ov,0<=s∧s<3∧(over (T.P s.toNat).A.es n).isSome=true)
 (hord:B'.ord=T.B.ord∨∃n0 D0,B'.ord=T.B.ord++[n0]∧dealAt T.B n0=some D0∧D0.st=0):Inv w0 { T with B:=B' }:=by
 have hnone:∀n0 D0,dealAt T.B n0=some D0->D0.st=0->∀s:Nat,s<3->over (T.P s).A.es n0=none:=by
  intro n0 D0 h1 h2 s hs
  cases ho:over (T.P s).A.es n0 with
  | none=>rfl
  | some b=>
    obtain ⟨D,hD,h3,_⟩:=h.ovd s hs n0 b ho
    rw [h1] at hD
    obtain rfl:=Option.some.inj hD
    exact absurd h2 h3
 refine ⟨h.pens,h.apart,len,fit,st,?_,ord,ynd,?_,?_,yes,done,ovs,fun m hm=>(h.mail m hm).later hL (fun s=>Keeps.refl _),h.mlen,?_⟩
 ·rcases hord with e | ⟨n0,D0,e,h1,h2⟩
  ·show B'.ord.Nodup;rw [e];exact h.nd
  ·show B'.ord.Nodup
   rw [e]
   refine List.nodup_append.2 ⟨h.nd,by simp,?_⟩
   intro a ha b hb
   rw [List.mem_singleton.1 hb]
   intro q
   subst q
   obtain ⟨D,hD,h3⟩:=(h.ord a).1 ha
   rw [h1] at hD
   obtain rfl:=Option.some.inj hD
   omega
 ·intro s hs n c d hm
  obtain ⟨D,hD,hw⟩:=h.hold s hs n c d hm
  obtain ⟨D',hD',e,_⟩:=hL n D hD
  exact ⟨D',hD',by rw [e];exact hw⟩
 ·intro s hs n b ho
  obtain ⟨D,hD,h1,h2⟩:=h.ovd s hs n b ho
  obtain ⟨D',hD',_,e⟩:=hL n D hD
  exact ⟨D',hD',by rw [e h1];exact h1,by rw [e h1];exact h2⟩
 ·intro k hk
  show valT T k=w0 k+sumD (doneAt { T with B:=B' } k) B'.ord
  have hc:sumD (doneAt { T with B:=B' } k) T.B.ord=sumD (doneAt T k) T.B.ord:=sumD_congr (fun n hn=>by
   obtain ⟨D,hD,_⟩:=(h.ord n).1 hn
   show (if over (T.P (k / 2)).A.es n=some true then dOf (wantsR B' n) k else 0)=_
   rw [wants_later hL hD]
   rfl)
  rw [h.vals k hk]
  rcases hord with e | ⟨n0,D0,e,h1,h2⟩
  ·rw [e,hc]
  ·rw [e,sumD_append,hc]
   have:doneAt { T with B:=B' } k n0=0:=by
    show (if over (T.P (k / 2)).A.es n0=some true then dOf (wantsR B' n0) k else 0)=0
    rw [hnone n0 D0 h1 h2 (k / 2) (by omega),if_neg (by simp)]
   simp only [sumD]
   omega
theorem put_mem {B:Bok} {n:Int} {D' E:Dl} (h:E∈(putD B n D').L):E∈B.L∨E=D':=by
 unfold putD at h
 exact List.mem_or_eq_of_mem_set h
theorem put_all {B:Bok} {n:Int} {D D':Dl} {R:Int->Dl->Prop} (hd:dealAt B n=some D) (h:∀j E,dealAt B j=some E->R j E) (hn:R n D'):∀j E,dealAt (putD B n D') j=some E->R j E:=by
 intro j E hE
 rw [dealAt_put hd] at hE
 by_cases e:j=n
 ·rw [if_pos e] at hE
  obtain rfl:=Option.some.inj hE
  rw [e];exact hn
 ·rw [if_neg e] at hE
  exact h j E hE
theorem Inv.put {w0:Nat->Int} {T:Twn} {n:Int} {D D':Dl} (h:Inv w0 T) (hd:dealAt T.B n=some D) (hw:D'.w=D.w) (hs:D.st ≠ 0->D'.st=D.st) (h2:D.st=0->D'.st=0∨D'.st=2) (hy:D'.yes.Nodup)
 (yes:∀i∈D'.yes,∃(k:Nat) (c d:Int),i=(k:Int)∧D'.w[k]?=some (c,d)∧(D'.st=0->(n,c,d)∈(T.P (shp c).toNat).A.hs))
 (ovs:∀s∈D'.ov,0<=s∧s<3∧(over (T.P s.toNat).A.es n).isSome=true):Inv w0 { T with B:=putD T.B n D' }:=by
 have hm:=dealAt_mem hd
 have hs1:D'.st=1 ↔ D.st=1:=by
  by_cases e:D.st=0
  ·have:=h2 e;omega
  ·rw [hs e]
 refine h.book (later_put hd hw hs) (by rw [put_len];exact h.len) ?_ ?_ ?_ ?_ (put_all hd h.yes yes) (put_all (R:=fun j E=>E.st=1->∀c d,(c,d)∈E.w->(j,c,d)∈(T.P (shp c).toNat).A.hs∨over (T.P (shp c).toNat).A.es j=some true) hd h.done ?_) (put_all (R:=fun j E=>∀s∈E.ov,0<=s∧s<3∧(over (T.P s.toNat).A.es j).isSome=true) hd h.ovs ovs) (.inl rfl)
 ·intro E hE
  rcases put_mem hE with q | q
  ·exact h.fit E q
  ·rw [q,hw];exact h.fit D hm
 ·intro E hE
  rcases put_mem hE with q | q
  ·exact h.st E q
  ·rw [q]
   by_cases e:D.st=0
   ·have:=h2 e;omega
   ·rw [hs e];exact h.st D hm
 ·intro j
  rw [put_ord,h.ord j]
  constructor
  ·rintro ⟨E,hE,h1⟩
   by_cases e:j=n
   ·subst e
    rw [hd] at hE
    obtain rfl:=Option.some.inj hE
    exact ⟨D',by rw [dealAt_put hd,if_pos rfl],hs1.2 h1⟩
   ·exact ⟨E,by rw [dealAt_put hd,if_neg e];exact hE,h1⟩
  ·rintro ⟨E,hE,h1⟩
   rw [dealAt_put hd] at hE
   by_cases e:j=n
   ·rw [if_pos e] at hE
    obtain rfl:=Option.some.inj hE
    exact ⟨D,by rw [e];exact hd,hs1.1 h1⟩
   ·rw [if_neg e] at hE
    exact ⟨E,hE,h1⟩
 ·intro E hE
  rcases put_mem hE with q | q
  ·exact h.ynd E q
  ·rw [q];exact hy
 ·intro h1 c d hcd
  rw [hw] at hcd
  exact h.done n D hd (hs1.1 h1) c d hcd
theorem Inv.quit {w0:Nat->Int} {T:Twn} (h:Inv w0 T) (n:Int):Inv w0 { T with B:=(quitR T.B n).2 }:=by
 unfold quitR
 cases hd:dealAt T.B n with
 | none=>exact h
 | some D=>
   simp only
   by_cases h0:D.st=0
   ·rw [if_pos h0]
    exact h.put hd rfl (fun q=>absurd h0 q) (fun _=>.inr rfl) (h.ynd D (dealAt_mem hd)) (fun i hi=>by
     obtain ⟨k,c,d,e1,e2,_⟩:=h.yes n D hd i hi
     exact ⟨k,c,d,e1,e2,fun q=>absurd (show (2:Int)=0 from q) (by decide)⟩) (h.ovs n D hd)
   ·rw [if_neg h0];exact h
theorem dealAt_crashT (B:Bok) (n:Int):dealAt (crashR B) n=(dealAt B n).map crashD:=by
 unfold dealAt crashR
 split
 ·rfl
 ·simp
theorem Inv.crash {w0:Nat->Int} {T:Twn} (h:Inv w0 T):Inv w0 { T with B:=crashR T.B }:=by
 have key:∀{n D'},dealAt (crashR T.B) n=some D'->∃D,dealAt T.B n=some D∧D'=crashD D:=fun {n D'} q=>by
  rw [dealAt_crashT] at q
  obtain ⟨D,h1,h2⟩:=Option.map_eq_some_iff.1 q
  exact ⟨D,h1,h2.symm⟩
 have hmem:∀{E},E∈(crashR T.B).L->∃D∈T.B.L,E=crashD D:=fun {E} q=>by
  obtain ⟨D,h1,h2⟩:=List.mem_map.1 q
  exact ⟨D,h1,h2.symm⟩
 have hst:∀D:Dl,(crashD D).st=1 ↔ D.st=1:=fun D=>by
  unfold crashD
  simp only
  split <;> omega
 refine h.book ?_ (by show (T.B.L.map crashD).length<=8;rw [List.length_map];exact h.len) ?_ ?_ ?_ ?_ ?_ ?_ ?_ (.inl rfl)
 ·intro n D hD
  refine ⟨crashD D,by rw [dealAt_crashT,hD];rfl,rfl,fun q=>?_⟩
  unfold crashD
  simp only
  rw [if_neg q]
 ·intro E hE
  obtain ⟨D,h1,rfl⟩:=hmem hE
  exact h.fit D h1
 ·intro E hE
  obtain ⟨D,h1,rfl⟩:=hmem hE
  have:=h.st D h1
  unfold crashD
  simp only
  split <;> omega
 ·intro n
  show n∈T.B.ord ↔ _
  rw [h.ord n]
  constructor
  ·rintro ⟨D,h1,h2⟩
   exact ⟨crashD D,by rw [dealAt_crashT,h1];rfl,(hst D).2 h2⟩
  ·rintro ⟨E,h1,h2⟩
   obtain ⟨D,h3,rfl⟩:=key h1
   exact ⟨D,h3,(hst D).1 h2⟩
 ·intro E hE
  obtain ⟨D,h1,rfl⟩:=hmem hE
  exact List.nodup_nil
 ·intro n E hE i hi
  obtain ⟨D,h1,rfl⟩:=key hE
  simp [crashD] at hi
 ·intro n E hE h1 c d hcd
  obtain ⟨D,h2,rfl⟩:=key hE
  exact h.done n D h2 ((hst D).1 h1) c d hcd
 ·intro n E hE s hs
  obtain ⟨D,h1,rfl⟩:=key hE
  simp [crashD] at hs
theorem dealAt_begin (B:Bok) (E:Dl) (n:Int):dealAt { B with L:=B.L++[E] } n=if n=(B.L.length:Int) then some E else dealAt B n:=by
 unfold dealAt
 simp only
 by_cases e:n=(B.L.length:Int)
 ·rw [if_pos e,if_neg (by omega),e]
  simp
 ·rw [if_neg e]
  by_cases hn:n<0
  ·rw [if_pos hn,if_pos hn]
  ·rw [if_neg hn,if_neg hn,List.getElem?_append]
   split
   ·rfl
   ·rename_i q
    rw [List.getElem?_eq_none (by simp;omega),List.getElem?_eq_none (by omega)]
theorem Inv.start {w0:Nat->Int} {T:Twn} (h:Inv w0 T) (l:List (Int × Int)):Inv w0 { T with B:=(beginR T.B l).2.2 }:=by
 unfold beginR
 by_cases hf:(chkW l).1=0
 ·rw [if_pos hf]
  by_cases h8:8<=T.B.L.length
  ·rw [if_pos h8];exact h
  ·rw [if_neg h8]
   have hno:dealAt T.B (T.B.L.length:Int)=none:=by rw [dealAt_nat];exact List.getElem?_eq_none (Nat.le_refl _)
   have hne:∀n D,dealAt T.B n=some D->n ≠ (T.B.L.length:Int):=fun n D q e=>by rw [e,hno] at q;cases q
   have hall:∀{R:Int->Dl->Prop},(∀n D,dealAt T.B n=some D->R n D)->R (T.B.L.length:Int) ⟨l,0,[],[]⟩->∀n D,dealAt { T.B with L:=T.B.L++[⟨l,0,[],[]⟩] } n=some D->R n D:=fun {R} h1 h2 n D q=>by
    rw [dealAt_begin] at q
    by_cases e:n=(T.B.L.length:Int)
    ·rw [if_pos e] at q
     obtain rfl:=Option.some.inj q
     rw [e];exact h2
    ·rw [if_neg e] at q
     exact h1 n D q
   have hmem:∀{E},E∈T.B.L++[(⟨l,0,[],[]⟩:Dl)]->E∈T.B.L∨E=⟨l,0,[],[]⟩:=fun {E} q=>by
    rcases List.mem_append.1 q with q | q
    ·exact .inl q
    ·exact .inr (List.mem_singleton.1 q)
   refine h.book ?_ (by simp;omega) ?_ ?_ ?_ ?_ (hall h.yes (fun i hi=>by simp at hi)) (hall (R:=fun j E=>E.st=1->∀c d,(c,d)∈E.w->(j,c,d)∈(T.P (shp c).toNat).A.hs∨over (T.P (shp c).toNat).A.es j=some true) h.done (fun q=>absurd (show (0:Int)=1 from q) (by decide))) (hall (R:=fun j E=>∀s∈E.ov,0<=s∧s<3∧(over (T.P s.toNat).A.es j).isSome=true) h.ovs (fun s hs=>by simp at hs)) (.inl rfl)
   ·intro n D hD
    exact ⟨D,by rw [dealAt_begin,if_neg (hne n D hD)];exact hD,rfl,fun _=>rfl⟩
   ·intro E hE
    rcases hmem hE with q | q
    ·exact h.fit E q
    ·rw [q];exact fit_iff.1 hf
   ·intro E hE
    rcases hmem hE with q | q
    ·exact h.st E q
    ·rw [q];exact .inl rfl
   ·intro n
    show n∈T.B.ord ↔ _
    rw [h.ord n]
    constructor
    ·rintro ⟨D,h1,h2⟩
     exact ⟨D,by rw [dealAt_begin,if_neg (hne n D h1)];exact h1,h2⟩
    ·rintro ⟨D,h1,h2⟩
     rw [dealAt_begin] at h1
     by_cases e:n=(T.B.L.length:Int)
     ·rw [if_pos e] at h1
      obtain rfl:=Option.some.inj h1
      exact absurd (show (0:Int)=1 from h2) (by decide)
     ·rw [if_neg e] at h1
      exact ⟨D,h1,h2⟩
   ·intro E hE
    rcases hmem hE with q | q
    ·exact h.ynd E q
    ·rw [q];exact List.nodup_nil
 ·rw [if_neg hf];exact h
theorem Inv.decide {w0:Nat->Int} {T:Twn} {n:Int} {D:Dl} {ys:List Int} (h:Inv w0 T) (hd:dealAt T.B n=some D) (h0:D.st=0) (hy:ys.Nodup) (hl:ys.length=D.w.length)
 (yes:∀i∈ys,∃(k:Nat) (c d:Int),i=(k:Int)∧D.w[k]?=some (c,d)∧(n,c,d)∈(T.P (shp c).toNat).A.hs):
 Inv w0 { T with B:={ putD T.B n { D with yes:=ys,st:=1 } with ord:=T.B.ord++[n] } }∧∀c d,(c,d)∈D.w->(n,c,d)∈(T.P (shp c).toNat).A.hs:=by
 have hall:∀c d,(c,d)∈D.w->(n,c,d)∈(T.P (shp c).toNat).A.hs:=by
  intro c d hm
  obtain ⟨i,hi,e⟩:=List.getElem_of_mem hm
  have hin:=all_of_length hy (fun x hx=>by
   obtain ⟨k,c',d',e1,e2,_⟩:=yes x hx
   have:=(List.getElem?_eq_some_iff.1 e2).1
   omega) hl i hi
  obtain ⟨k,c',d',e1,e2,e3⟩:=yes _ hin
  obtain rfl:i=k:=by omega
  rw [List.getElem?_eq_getElem hi,e] at e2
  have:=Option.some.inj e2
  simp only [Prod.mk.injEq] at this
  rw [this.1,this.2];exact e3
 refine ⟨?_,hall⟩
 have hm:=dealAt_mem hd
 have hda:∀j,dealAt { putD T.B n { D with yes:=ys,st:=1 } with ord:=T.B.ord++[n] } j=dealAt (putD T.B n { D with yes:=ys,st:=1 }) j:=fun j=>rfl
 have hput:∀{R:Int->Dl->Prop},(∀j E,dealAt T.B j=some E->R j E)->R n { D with yes:=ys,st:=1 }->∀j E,dealAt { putD T.B n { D with yes:=ys,st:=1 } with ord:=T.B.ord++[n] } j=some E->R j E:=fun {R} q1 q2=>put_all hd q1 q2
 refine h.book ?_ (by show (putD T.B n _).L.length<=8;rw [put_len];exact h.len) ?_ ?_ ?_ ?_ (hput h.yes (fun i hi=>?_)) (hput (R:=fun j E=>E.st=1->∀c d,(c,d)∈E.w->(j,c,d)∈(T.P (shp c).toNat).A.hs∨over (T.P (shp c).toNat).A.es j=some true) h.done (fun _ c d hcd=>.inl (hall c d hcd))) (hput (R:=fun j E=>∀s∈E.ov,0<=s∧s<3∧(over (T.P s.toNat).A.es j).isSome=true) h.ovs (h.ovs n D hd)) (.inr ⟨n,D,rfl,hd,h0⟩)
 ·exact later_put hd rfl (fun q=>absurd h0 q)
 ·intro E hE
  rcases put_mem hE with q | q
  ·exact h.fit E q
  ·rw [q];exact h.fit D hm
 ·intro E hE
  rcases put_mem hE with q | q
  ·exact h.st E q
  ·rw [q];exact .inr (.inl rfl)
 ·intro j
  show j∈T.B.ord++[n] ↔ _
  rw [List.mem_append,List.mem_singleton,h.ord j]
  constructor
  ·rintro (⟨E,hE,h1⟩ | e)
   ·have:j ≠ n:=fun e=>by
     rw [e,hd] at hE
     obtain rfl:=Option.some.inj hE
     omega
    exact ⟨E,by rw [hda,dealAt_put hd,if_neg this];exact hE,h1⟩
   ·exact ⟨{ D with yes:=ys,st:=1 },by rw [hda,dealAt_put hd,if_pos e],rfl⟩
  ·rintro ⟨E,hE,h1⟩
   rw [hda,dealAt_put hd] at hE
   by_cases e:j=n
   ·exact .inr e
   ·rw [if_neg e] at hE
    exact .inl ⟨E,hE,h1⟩
 ·intro E hE
  rcases put_mem hE with q | q
  ·exact h.ynd E q
  ·rw [q];exact hy
 ·obtain ⟨k,c,d,e1,e2,_⟩:=yes i hi
  exact ⟨k,c,d,e1,e2,fun q=>absurd (show (1:Int)=0 from q) (by decide)⟩
theorem Inv.open_none {w0:Nat->Int} {T:Twn} (h:Inv w0 T) {n:Int} {D:Dl} (hd:dealAt T.B n=some D) (h0:D.st=0) {s:Nat} (hs:s<3):over (T.P s).A.es n=none:=by
 cases ho:over (T.P s).A.es n with
 | none=>rfl
 | some b=>
   obtain ⟨D',hD,h3,_⟩:=h.ovd s hs n b ho
   rw [hd] at hD
   obtain rfl:=Option.some.inj hD
   exact absurd h0 h3
theorem Inv.hear {w0:Nat->Int} {T:Twn} (h:Inv w0 T) {m:Ml} (hm:MailOk T.B T.P m):Inv w0 { T with B:=hearR T.B m }:=by
 rcases hearR_cases T.B m with e | ⟨D,i,hd,h0,hk,hs,hw,hc⟩ | ⟨D,hd,h0,hk,hs,ho,e⟩
 ·rw [e];exact h
 ·have hmem:(m.c,m.d)∈D.w:=List.mem_of_getElem? hw
  obtain ⟨_,_,s0,s3,_⟩:=(h.fit D (dealAt_mem hd)).shop hmem
  have hheld:m.yes=true->(m.deal,m.c,m.d)∈(T.P (shp m.c).toNat).A.hs:=by
   intro hy
   obtain ⟨q0,q3,D',hD',hcs⟩:=hm
   rcases hcs with ⟨a,_⟩ | ⟨_,_,q,hq⟩ | ⟨a,_⟩ | ⟨a,_⟩
   ·omega
   ·rcases hq hy with r | r
    ·rw [hs];exact r
    ·rw [h.open_none hd h0 (by omega)] at r;cases r
   ·omega
   ·omega
  rcases hc with ⟨_,e⟩ | ⟨hy,_,e⟩ | ⟨hy,hl,e⟩
  ·rw [e]
   exact h.put hd rfl (fun q=>absurd h0 q) (fun _=>.inr rfl) (h.ynd D (dealAt_mem hd)) (fun i hi=>by
    obtain ⟨k,c,d,e1,e2,_⟩:=h.yes _ D hd i hi
    exact ⟨k,c,d,e1,e2,fun q=>absurd (show (2:Int)=0 from q) (by decide)⟩) (h.ovs _ D hd)
  ·rw [e]
   refine h.put hd rfl (fun q=>absurd h0 q) (fun _=>.inl h0) (addI_nodup (h.ynd D (dealAt_mem hd)) _) (fun j hj=>?_) (h.ovs _ D hd)
   rcases addI_mem.1 hj with q | q
   ·exact h.yes _ D hd j q
   ·exact ⟨i,m.c,m.d,q,hw,fun _=>hheld hy⟩
  ·rw [e]
   refine (h.decide hd h0 (addI_nodup (h.ynd D (dealAt_mem hd)) _) hl (fun j hj=>?_)).1
   rcases addI_mem.1 hj with q | q
   ·obtain ⟨k,c,d,e1,e2,e3⟩:=h.yes _ D hd j q
    exact ⟨k,c,d,e1,e2,e3 h0⟩
   ·exact ⟨i,m.c,m.d,q,hw,hheld hy⟩
 ·rw [e]
  refine h.put hd rfl (fun _=>rfl) (fun q=>absurd q h0) (h.ynd D (dealAt_mem hd)) (h.yes _ D hd) (fun s hsm=>?_)
  rcases List.mem_append.1 hsm with q | q
  ·exact h.ovs _ D hd s q
  ·rw [List.mem_singleton.1 q]
   obtain ⟨q0,q3,D',hD',hcs⟩:=hm
   rcases hcs with ⟨a,_⟩ | ⟨a,_⟩ | ⟨a,_⟩ | ⟨_,_,_,r⟩
   ·omega
   ·omega
   ·omega
   ·exact ⟨q0,q3,r⟩
theorem updP_same (P:Nat->Kb) (s:Nat) (K:Kb):updP P s K s=K:=by unfold updP;rw [if_pos rfl]
theorem updP_other (P:Nat->Kb) (s:Nat) (K:Kb) {j:Nat} (h:j ≠ s):updP P s K j=P j:=by unfold updP;rw [if_neg h]
theorem Inv.pen {w0:Nat->Int} {T:Twn} {s:Nat} {K':Kb} (h:Inv w0 T) (good:GoodK (book0 (s:Int) w0) K') (apart:Apart K'.A.hs) (keeps:Keeps (T.P s) K')
 (hold:∀n c d,(n,c,d)∈K'.A.hs->∃D,dealAt T.B n=some D∧(c,d)∈D.w) (ovd:∀n b,over K'.A.es n=some b->∃D,dealAt T.B n=some D∧D.st ≠ 0∧b=(D.st == 1))
 (vals:∀k:Nat,k<6->k / 2=s->K'.A.val (k % 2)=w0 k+sumD (fun n=>if over K'.A.es n=some true then dOf (wantsR T.B n) k else 0) T.B.ord):Inv w0 { T with P:=updP T.P s K' }:=by
 have hk:∀j,Keeps (T.P j) (updP T.P s K' j):=fun j=>by
  by_cases e:j=s
  ·rw [e,updP_same];exact keeps
  ·rw [updP_other _ _ _ e];exact Keeps.refl _
 have hov:∀j:Nat,j<3->∀n b,over (updP T.P s K' j).A.es n=some b->∃D,dealAt T.B n=some D∧D.st ≠ 0∧b=(D.st == 1):=fun j hj n b q=>by
  by_cases e:j=s
  ·rw [e,updP_same] at q;exact ovd n b q
  ·rw [updP_other _ _ _ e] at q;exact h.ovd j hj n b q
 refine ⟨?_,?_,h.len,h.fit,h.st,h.nd,h.ord,h.ynd,?_,hov,?_,?_,?_,fun m hm=>(h.mail m hm).later (Later.refl _) hk,h.mlen,?_⟩
 ·intro j hj
  show GoodK _ (updP T.P s K' j)
  by_cases e:j=s
  ·rw [e,updP_same];exact good
  ·rw [updP_other _ _ _ e];exact h.pens j hj
 ·intro j hj
  show Apart (updP T.P s K' j).A.hs
  by_cases e:j=s
  ·rw [e,updP_same];exact apart
  ·rw [updP_other _ _ _ e];exact h.apart j hj
 ·intro j hj n c d hm
  have hm':(n,c,d)∈(updP T.P s K' j).A.hs:=hm
  by_cases e:j=s
  ·rw [e,updP_same] at hm';exact hold n c d hm'
  ·rw [updP_other _ _ _ e] at hm';exact h.hold j hj n c d hm'
 ·intro n D hd i hi
  obtain ⟨k,c,d,e1,e2,e3⟩:=h.yes n D hd i hi
  refine ⟨k,c,d,e1,e2,fun h0=>?_⟩
  obtain ⟨_,_,s0,s3,_⟩:=(h.fit D (dealAt_mem hd)).shop (List.mem_of_getElem? e2)
  rcases (hk (shp c).toNat).1 n c d (e3 h0) with q | q
  ·exact q
  ·obtain ⟨b,hb⟩:=Option.isSome_iff_exists.1 q
   obtain ⟨D',hD',q1,_⟩:=hov (shp c).toNat (by omega) n b hb
   have hD2:dealAt T.B n=some D:=hd
   rw [hD2] at hD'
   obtain rfl:=Option.some.inj hD'
   exact absurd h0 q1
 ·intro n D hd h1 c d hcd
  obtain ⟨_,_,s0,s3,_⟩:=(h.fit D (dealAt_mem hd)).shop hcd
  rcases h.done n D hd h1 c d hcd with q | q
  ·rcases (hk (shp c).toNat).1 n c d q with r | r
   ·exact .inl r
   ·right
    obtain ⟨b,hb⟩:=Option.isSome_iff_exists.1 r
    obtain ⟨D',hD',_,q2⟩:=hov (shp c).toNat (by omega) n b hb
    have hD2:dealAt T.B n=some D:=hd
    rw [hD2] at hD'
    obtain rfl:=Option.some.inj hD'
    rw [h1] at q2
    show over (updP T.P s K' (shp c).toNat).A.es n=some true
    rw [hb,q2];rfl
  ·exact .inr ((hk _).2 n true q)
 ·intro n D hd j hj
  obtain ⟨a,b,c⟩:=h.ovs n D hd j hj
  exact ⟨a,b,(hk _).some c⟩
 ·intro k hk6
  show (updP T.P s K' (k / 2)).A.val (k % 2)=w0 k+sumD (fun n=>if over (updP T.P s K' (k / 2)).A.es n=some true then dOf (wantsR T.B n) k else 0) T.B.ord
  by_cases e:k / 2=s
  ·rw [e,updP_same]
   exact vals k hk6 e
  ·rw [updP_other _ _ _ e]
   exact h.vals k hk6
theorem ask_book (K:Kb) (m:Ml):(doR K (askS m)).2.A=K.A∨((doR K (askS m)).2.A=more1 K.A m.deal m.c m.d∧K.A.hs.find? (same m.deal m.c)=none):=by
 rw [doR_book,tellR_hold (r:=askS m) (by rfl) (by rfl)]
 rcases holdR_cases K.A (askS m).deal (askS m).c (askS m).d with ⟨_,e⟩ | ⟨_,k,_,_,⟨y,_,e⟩ | ⟨_,_,e⟩ | ⟨hf,_,e⟩⟩
 ·rw [e];exact .inl rfl
 ·rw [e];exact .inl rfl
 ·rw [e];exact .inl rfl
 ·rw [e];exact .inr ⟨rfl,hf⟩
theorem fin_book (K:Kb) (m:Ml):(doR K (endS m)).2.A=K.A∨((doR K (endS m)).2.A=endA K.A m.deal m.yes∧over K.A.es m.deal=none):=by
 rw [doR_book,tellR_end (r:=endS m) (by rfl) (by show (2:Int) ≠ 1;decide)]
 rcases endR_cases K.A (endS m).deal (endS m).done with ⟨_,e⟩ | ⟨_,_,⟨b,_,e⟩ | ⟨hn,e⟩⟩
 ·rw [e];exact .inl rfl
 ·rw [e];exact .inl rfl
 ·rw [e];exact .inr ⟨rfl,hn⟩
theorem more1_val (A:Bk) (n c d:Int) (k:Nat):(more1 A n c d).val k=A.val k:=by unfold more1 Bk.val;cases k <;> rfl
theorem Inv.ask {w0:Nat->Int} {T:Twn} (h:Inv w0 T) {m:Ml} (hm:MailOk T.B T.P m) (hk:m.kind=1):Inv w0 { T with P:=updP T.P m.shop.toNat (doR (T.P m.shop.toNat) (askS m)).2 }:=by
 obtain ⟨s0,s3,D,hD,hc⟩:=hm
 have hw:(m.c,m.d)∈D.w:=by
  rcases hc with ⟨_,a,_⟩ | ⟨a,_⟩ | ⟨a,_⟩ | ⟨a,_⟩
  ·exact a
  ·omega
  ·omega
  ·omega
 have hs:m.shop.toNat<3:=by omega
 have hgk:=goodK_do (h.pens _ hs) (askS m)
 have hap:=apart_tell (h.apart _ hs) (askS m)
 rw [<-doR_book] at hap
 rcases ask_book (T.P m.shop.toNat) m with e | ⟨e,_⟩
 ·refine h.pen hgk hap ⟨fun n c d q=>.inl (by rw [e];exact q),fun n b q=>by rw [e];exact q⟩ (fun n c d q=>h.hold _ hs n c d (by rw [e] at q;exact q)) (fun n b q=>h.ovd _ hs n b (by rw [e] at q;exact q)) (fun k hk6 e2=>?_)
  rw [e,<-e2]
  exact h.vals k hk6
 ·refine h.pen hgk hap ⟨fun n c d q=>.inl (by rw [e];exact List.mem_append_left _ q),fun n b q=>by rw [e];exact q⟩ (fun n c d q=>?_) (fun n b q=>h.ovd _ hs n b (by rw [e] at q;exact q)) (fun k hk6 e2=>?_)
  ·rw [e] at q
   rcases List.mem_append.1 q with q | q
   ·exact h.hold _ hs n c d q
   ·have:=List.mem_singleton.1 q
    simp only [Prod.mk.injEq] at this
    obtain ⟨rfl,rfl,rfl⟩:=this
    exact ⟨D,hD,hw⟩
  ·rw [e,more1_val,<-e2]
   exact h.vals k hk6
theorem gain_false (n:Int) (hs:List H3) (c:Int):gain n false hs c=0:=by
 induction hs with
 | nil=>rfl
 | cons x r ih=>
   simp only [gain]
   rw [ih]
   simp [gainOf]
theorem endA_val (A:Bk) (n:Int) (b:Bool) {k:Nat} (hk:k<2):(endA A n b).val k=A.val k+gain n b A.hs (A.no * 2+k):=by
 have:k=0∨k=1:=by omega
 rcases this with rfl | rfl
 ·show A.v0+gain n b A.hs (A.no * 2)=A.v0+gain n b A.hs (A.no * 2+((0:Nat):Int))
  simp
 ·rfl
theorem over_snoc {es:List (Int × Bool)} {n j:Int} {b:Bool} (hn:over es n=none):over (es++[(n,b)]) j=if j=n then some b else over es j:=by
 rw [over_append]
 by_cases e:j=n
 ·subst e
  rw [hn,if_pos rfl]
  simp [over]
 ·rw [if_neg e]
  cases over es j with
  | some b'=>rfl
  | none=>simp [over,Ne.symm e]
theorem sum_one {f g:Int->Int} {n:Int} {x:Int} {l:List Int} (hn:l.Nodup) (hm:n∈l) (he:∀j∈l,j ≠ n->g j=f j) (h1:g n=f n+x):sumD g l=sumD f l+x:=by
 induction l with
 | nil=>simp at hm
 | cons j r ih=>
   obtain ⟨q1,q2⟩:=List.nodup_cons.1 hn
   simp only [sumD]
   by_cases e:j=n
   ·subst e
    rw [h1,sumD_congr (f:=g) (g:=f) (fun k hk=>he k (by simp [hk]) (fun e=>q1 (e ▸ hk)))]
    omega
   ·have hm':n∈r:=by
     rcases List.mem_cons.1 hm with q | q
     ·exact absurd q.symm e
     ·exact q
    rw [he j (by simp) e,ih q2 hm' (fun k hk=>he k (by simp [hk]))]
    omega
theorem Inv.fin {w0:Nat->Int} {T:Twn} (h:Inv w0 T) {m:Ml} (hm:MailOk T.B T.P m) (hk:m.kind=3):Inv w0 { T with P:=updP T.P m.shop.toNat (doR (T.P m.shop.toNat) (endS m)).2 }:=by
 obtain ⟨s0,s3,D,hD,hc⟩:=hm
 obtain ⟨h0,hy⟩:D.st ≠ 0∧m.yes=(D.st == 1):=by
  rcases hc with ⟨a,_⟩ | ⟨a,_⟩ | ⟨_,a,b,_⟩ | ⟨a,_⟩
  ·omega
  ·omega
  ·exact ⟨a,b⟩
  ·omega
 have hs:m.shop.toNat<3:=by omega
 have hgk:=goodK_do (h.pens _ hs) (endS m)
 have hap:=apart_tell (h.apart _ hs) (endS m)
 rw [<-doR_book] at hap
 rcases fin_book (T.P m.shop.toNat) m with e | ⟨e,hn⟩
 ·refine h.pen hgk hap ⟨fun n c d q=>.inl (by rw [e];exact q),fun n b q=>by rw [e];exact q⟩ (fun n c d q=>h.hold _ hs n c d (by rw [e] at q;exact q)) (fun n b q=>h.ovd _ hs n b (by rw [e] at q;exact q)) (fun k hk6 e2=>?_)
  rw [e,<-e2]
  exact h.vals k hk6
 ·have hes:∀j,over (doR (T.P m.shop.toNat) (endS m)).2.A.es j=if j=m.deal then some m.yes else over (T.P m.shop.toNat).A.es j:=fun j=>by
   rw [e];exact over_snoc hn
  have hhs:(doR (T.P m.shop.toNat) (endS m)).2.A.hs=(T.P m.shop.toNat).A.hs.filter (fun x=>x.1 != m.deal):=by rw [e];rfl
  refine h.pen hgk hap ⟨fun n c d q=>?_,fun n b q=>?_⟩ (fun n c d q=>?_) (fun n b q=>?_) (fun k hk6 e2=>?_)
  ·by_cases en:n=m.deal
   ·right;rw [hes,if_pos en];rfl
   ·left;rw [hhs];exact List.mem_filter.2 ⟨q,by simpa using en⟩
  ·rw [hes,if_neg (fun en=>by rw [en,hn] at q;cases q)];exact q
  ·rw [hhs] at q
   exact h.hold _ hs n c d (List.mem_filter.1 q).1
  ·rw [hes] at q
   by_cases en:n=m.deal
   ·rw [if_pos en] at q
    exact ⟨D,by rw [en];exact hD,h0,by rw [<-Option.some.inj q,hy]⟩
   ·rw [if_neg en] at q
    exact h.ovd _ hs n b q
  ·have hno:(T.P m.shop.toNat).A.no=(m.shop.toNat:Int):=(h.pens _ hs).no
   have hkc:(T.P m.shop.toNat).A.no * 2+((k % 2:Nat):Int)=(k:Int):=by rw [hno];omega
   rw [e,endA_val _ _ _ (by omega),hkc]
   have hv:=h.vals k hk6
   unfold valT at hv
   rw [e2] at hv
   rw [hv]
   have hsum:sumD (doneAt T k) T.B.ord=sumD (fun n=>if over (T.P m.shop.toNat).A.es n=some true then dOf (wantsR T.B n) k else 0) T.B.ord:=by
    unfold doneAt
    rw [e2]
   rw [hsum,<-e]
   by_cases h1:D.st=1
   ·have hyt:m.yes=true:=by rw [hy,h1];rfl
    have hin:m.deal∈T.B.ord:=(h.ord _).2 ⟨D,hD,h1⟩
    have hfit:=h.fit D (dealAt_mem hD)
    have hg:gain m.deal m.yes (T.P m.shop.toNat).A.hs (k:Int)=dOf D.w k:=by
     rw [hyt]
     refine gain_wants (h.apart _ hs) hfit.apart (fun d hd=>?_) (fun d hd=>?_)
     ·have hsh:(shp (k:Int)).toNat=m.shop.toNat:=by
       obtain ⟨_,_,_,_,q⟩:=hfit.shop hd
       rw [q];omega
      rcases h.done _ D hD h1 _ d hd with q | q
      ·rw [hsh] at q;exact q
      ·rw [hsh,hn] at q;cases q
     ·obtain ⟨D',hD',q⟩:=h.hold _ hs _ _ _ hd
      rw [hD] at hD'
      obtain rfl:=Option.some.inj hD'
      exact q
    have hA:sumD (fun n=>if over (doR (T.P m.shop.toNat) (endS m)).2.A.es n=some true then dOf (wantsR T.B n) k else 0) T.B.ord=sumD (fun n=>if over (T.P m.shop.toNat).A.es n=some true then dOf (wantsR T.B n) k else 0) T.B.ord+dOf D.w k:=by
     refine sum_one h.nd hin (fun j _ hj=>?_) ?_
     ·rw [hes,if_neg hj]
     ·rw [hes,if_pos rfl,hn,hyt,wantsR_some hD]
      simp
    rw [hg,hA]
    omega
   ·have hyf:m.yes=false:=by rw [hy];simpa using h1
    have hnin:∀j∈T.B.ord,j ≠ m.deal:=fun j hj ej=>by
     obtain ⟨D',hD',q⟩:=(h.ord j).1 hj
     rw [ej,hD] at hD'
     obtain rfl:=Option.some.inj hD'
     exact h1 q
    have hA:sumD (fun n=>if over (doR (T.P m.shop.toNat) (endS m)).2.A.es n=some true then dOf (wantsR T.B n) k else 0) T.B.ord=sumD (fun n=>if over (T.P m.shop.toNat).A.es n=some true then dOf (wantsR T.B n) k else 0) T.B.ord:=sumD_congr (fun j hj=>by rw [hes,if_neg (hnin j hj)])
    rw [hyf,gain_false,hA]
    omega
def comeR (T:Twn) (x:Ml):Twn:=
 if x.kind=2∨x.kind=4 then { T with B:=hearR T.B x }
 else if 0<=x.shop∧x.shop<3 then { T with P:=updP T.P x.shop.toNat (ansR x.shop (T.P x.shop.toNat) x).2.2,M:=if (ansR x.shop (T.P x.shop.toNat) x).2.1=true then (sendR T.M (ansR x.shop (T.P x.shop.toNat) x).1).2 else T.M }
 else T
def delivR (T:Twn) (n:Int):Int × Twn:=if (takeR T.M n).2.1=true then (0,comeR { T with M:=(takeR T.M n).2.2 } (takeR T.M n).1) else (7,T)
def sendAll (l:List Ml):List Ml->List Ml
 | []=>l
 | m :: r=>sendAll (sendR l m).2 r
def tickR (T:Twn):Twn:={ T with M:=sendAll T.M (dueR T.B) }
structure TSp where
 kind:Int
 n:Int
 w:List (Int × Int)
def townR (T:Twn) (x:TSp):Int × Twn:=
 if x.kind=1 then ((beginR T.B x.w).2.1,{ T with B:=(beginR T.B x.w).2.2 })
 else if x.kind=2 then (0,tickR T)
 else if x.kind=3 then delivR T x.n
 else if x.kind=4 then (if (takeR T.M x.n).2.1=true then 0 else 7,{ T with M:=(takeR T.M x.n).2.2 })
 else if x.kind=5 then (if T.M.length=0 then 7 else if (dblR T.M x.n).1=true then 0 else 6,{ T with M:=(dblR T.M x.n).2 })
 else if x.kind=6 then ((quitR T.B x.n).1,{ T with B:=(quitR T.B x.n).2 })
 else if x.kind=7 then (if x.n<0 then 1 else if 3<=x.n then 1 else 0,T)
 else if x.kind=8 then (0,{ T with B:=crashR T.B })
 else (10,T)
theorem send_ok {B:Bok} {P:Nat->Kb} {l:List Ml} {m:Ml} (h:∀x∈l,MailOk B P x) (hm:MailOk B P m):∀x∈(sendR l m).2,MailOk B P x:=by
 unfold sendR
 split
 ·exact h
 ·intro x hx
  rcases List.mem_append.1 hx with q | q
  ·exact h x q
  ·rw [List.mem_singleton.1 q];exact hm
theorem all_ok {B:Bok} {P:Nat->Kb} {r:List Ml}:∀{l:List Ml},(∀x∈l,MailOk B P x)->(∀x∈r,MailOk B P x)->∀x∈sendAll l r,MailOk B P x:=by
 induction r with
 | nil=>intro l h _;exact h
 | cons m r ih=>intro l h1 h2;exact ih (send_ok h1 (h2 m (by simp))) (fun x hx=>h2 x (by simp [hx]))
theorem all_len {r:List Ml}:∀{l:List Ml},l.length<=40->(sendAll l r).length<=40:=by
 induction r with
 | nil=>intro l h;exact h
 | cons m r ih=>intro l h;exact ih (sendR_len l m h)
theorem take_ok {B:Bok} {P:Nat->Kb} {l:List Ml} (h:∀x∈l,MailOk B P x) (n:Int):(∀x∈(takeR l n).2.2,MailOk B P x)∧((takeR l n).2.1=true->MailOk B P (takeR l n).1):=by
 by_cases hne:l=[]
 ·subst hne
  exact ⟨by rw [takeR_nil];simp,fun q=>by rw [takeR_nil] at q;cases q⟩
 ·obtain ⟨m,hm⟩:=rnd_some n hne
  rw [takeR_some hm]
  exact ⟨fun x hx=>h x (List.mem_of_mem_eraseIdx hx),fun _=>h m (List.mem_of_getElem? hm)⟩
theorem dbl_ok {B:Bok} {P:Nat->Kb} {l:List Ml} (h:∀x∈l,MailOk B P x) (n:Int):∀x∈(dblR l n).2,MailOk B P x:=by
 by_cases hne:l=[]
 ·subst hne;rw [dblR_nil];simp
 ·obtain ⟨m,hm⟩:=rnd_some n hne
  rw [dblR_some hm]
  exact send_ok h (h m (List.mem_of_getElem? hm))
theorem Inv.due {w0:Nat->Int} {T:Twn} (h:Inv w0 T):∀m∈dueR T.B,MailOk T.B T.P m:=by
 intro m hm
 obtain ⟨n,D,hD,hd⟩:=due_mem hm
 unfold dueD at hd
 split at hd
 ·obtain ⟨c,d,h1,rfl⟩:=asks_mem hd
  obtain ⟨_,_,s0,s3,_⟩:=(h.fit D (dealAt_mem hD)).shop h1
  exact ⟨s0,s3,D,hD,.inl ⟨rfl,h1,rfl⟩⟩
 ·rename_i h0
  unfold endsR at hd
  obtain ⟨s,hs,rfl⟩:=List.mem_map.1 hd
  obtain ⟨h1,_⟩:=List.mem_filter.1 hs
  obtain ⟨s0,s3⟩:=shopsL_range h1
  exact ⟨s0,s3,D,hD,.inr (.inr (.inl ⟨rfl,h0,rfl,h1⟩))⟩
theorem Inv.tick {w0:Nat->Int} {T:Twn} (h:Inv w0 T):Inv w0 (tickR T):=h.less (all_ok h.mail h.due) (all_len h.mlen)
theorem Inv.fin_code {w0:Nat->Int} {T:Twn} (h:Inv w0 T) {m:Ml} (hm:MailOk T.B T.P m) (hk:m.kind=3):(doR (T.P m.shop.toNat) (endS m)).1=0:=by
 obtain ⟨s0,s3,D,hD,hc⟩:=hm
 obtain ⟨h0,hy⟩:D.st ≠ 0∧m.yes=(D.st == 1):=by
  rcases hc with ⟨a,_⟩ | ⟨a,_⟩ | ⟨_,a,b,_⟩ | ⟨a,_⟩
  ·omega
  ·omega
  ·exact ⟨a,b⟩
  ·omega
 obtain ⟨k,hk1,hk2,_⟩:=dealAt_some hD
 have hl:=h.len
 rw [doR_fst,tellR_end (r:=endS m) (by rfl) (by show (2:Int) ≠ 1;decide)]
 rcases endR_cases (T.P m.shop.toNat).A (endS m).deal (endS m).done with ⟨q,_⟩ | ⟨_,_,⟨b,hb,e⟩ | ⟨_,e⟩⟩
 ·have q':m.deal<0∨8<=m.deal:=q
  omega
 ·rw [e]
  obtain ⟨D',hD',_,q⟩:=h.ovd _ (by omega) _ b hb
  have hD2:dealAt T.B (endS m).deal=some D:=hD
  rw [hD2] at hD'
  obtain rfl:=Option.some.inj hD'
  show (if b=m.yes then (0:Int) else 9)=0
  rw [q,hy,if_pos rfl]
 ·rw [e]
theorem fin_over {K:Kb} {m:Ml} (hz:(doR K (endS m)).1=0):over (doR K (endS m)).2.A.es m.deal=some m.yes:=by
 rw [doR_fst] at hz
 rw [doR_book]
 have h:=wrote_new hz
 exact h.2.2 (by show (2:Int) ≠ 1;decide)
theorem Inv.come {w0:Nat->Int} {T:Twn} (h:Inv w0 T) {x:Ml} (hx:MailOk T.B T.P x):Inv w0 (comeR T x):=by
 have hx':=hx
 obtain ⟨s0,s3,D,hD,hc⟩:=hx'
 unfold comeR
 rcases hc with ⟨hk,hw,hsh⟩ | ⟨hk,_⟩ | ⟨hk,h0,hy,hsl⟩ | ⟨hk,_⟩
 ·rw [if_neg (by omega),if_pos ⟨s0,s3⟩,ans_ask rfl hk]
  simp only [if_true]
  have h1:=h.ask hx hk
  refine h1.less (send_ok h1.mail ⟨s0,s3,D,hD,.inr (.inl ⟨rfl,hw,hsh,fun q=>.inl ?_⟩)⟩) (sendR_len _ _ h.mlen)
  have hz:(doR (T.P x.shop.toNat) (askS x)).1=0:=by simpa using q
  show (x.deal,x.c,x.d)∈(updP T.P x.shop.toNat _ x.shop.toNat).A.hs
  rw [updP_same]
  exact (ask_yes hz).1
 ·rw [if_pos (.inl hk)]
  exact h.hear hx
 ·rw [if_neg (by omega),if_pos ⟨s0,s3⟩]
  have hz:=h.fin_code hx hk
  rw [ans_end rfl hk hz]
  simp only [if_true]
  have h1:=h.fin hx hk
  refine h1.less (send_ok h1.mail ⟨s0,s3,D,hD,.inr (.inr (.inr ⟨rfl,h0,hsl,?_⟩))⟩) (sendR_len _ _ h.mlen)
  show (over (updP T.P x.shop.toNat _ x.shop.toNat).A.es x.deal).isSome=true
  rw [updP_same,fin_over hz]
  rfl
 ·rw [if_pos (.inr hk)]
  exact h.hear hx
theorem Inv.deliv {w0:Nat->Int} {T:Twn} (h:Inv w0 T) (n:Int):Inv w0 (delivR T n).2:=by
 unfold delivR
 obtain ⟨h1,h2⟩:=take_ok h.mail n
 by_cases ht:(takeR T.M n).2.1=true
 ·rw [if_pos ht]
  exact (h.less h1 (takeR_len T.M n h.mlen)).come (h2 ht)
 ·rw [if_neg ht];exact h
theorem Inv.step {w0:Nat->Int} {T:Twn} (h:Inv w0 T) (x:TSp):Inv w0 (townR T x).2:=by
 unfold townR
 split
 ·exact h.start x.w
 ·split
  ·exact h.tick
  ·split
   ·exact h.deliv x.n
   ·split
    ·exact h.less (take_ok h.mail x.n).1 (takeR_len T.M x.n h.mlen)
    ·split
     ·exact h.less (dbl_ok h.mail x.n) (dblR_len T.M x.n h.mlen)
     ·split
      ·exact h.quit x.n
      ·split
       ·exact h
       ·split
        ·exact h.crash
        ·exact h
def serR (B:Bok) (ws:Nat->Int):List Int->(Nat->Int) × Int
 | []=>(ws,0)
 | n :: r=>if (appW ws (wantsR B n)).2.1=0 then serR B (appW ws (wantsR B n)).1 r else (noW,(appW ws (wantsR B n)).2.1)
theorem serR_snoc (B:Bok) (n:Int):∀(a:List Int) (ws:Nat->Int),(serR B ws a).2=0->serR B ws (a++[n])=serR B (serR B ws a).1 [n]:=by
 intro a
 induction a with
 | nil=>intro ws _;rfl
 | cons x r ih=>
   intro ws h
   by_cases hz:(appW ws (wantsR B x)).2.1=0
   ·have e:∀t,serR B ws (x :: t)=serR B (appW ws (wantsR B x)).1 t:=fun t=>by
     show (if (appW ws (wantsR B x)).2.1=0 then _ else _)=_
     rw [if_pos hz]
    rw [e] at h ⊢
    show serR B ws (x :: (r++[n]))=_
    rw [e]
    exact ih _ h
   ·have e:serR B ws (x :: r)=(noW,(appW ws (wantsR B x)).2.1):=by
     show (if (appW ws (wantsR B x)).2.1=0 then _ else _)=_
     rw [if_neg hz]
    rw [e] at h
    exact absurd h hz
theorem serR_congr {B B':Bok} {l:List Int} (h:∀n∈l,wantsR B' n=wantsR B n):∀ws,serR B' ws l=serR B ws l:=by
 induction l with
 | nil=>intro ws;rfl
 | cons x r ih=>
   intro ws
   simp only [serR]
   rw [h x (by simp),ih (fun n hn=>h n (by simp [hn]))]
def curR (w0:Nat->Int) (T:Twn):Nat->Int:=fun k=>w0 k+sumD (fun n=>dOf (wantsR T.B n) k) T.B.ord
def SerOk (w0:Nat->Int) (T:Twn):Prop:=serR T.B w0 T.B.ord=(curR w0 T,0)
theorem Inv.cur {w0:Nat->Int} {T:Twn} (h:Inv w0 T) {k:Nat} (hk:k<6):curR w0 T k=valT T k+sumD (fun n=>gain n true (T.P (k / 2)).A.hs (k:Int)) T.B.ord:=by
 unfold curR
 rw [h.vals k hk,Int.add_assoc,<-sumD_add]
 congr 1
 refine sumD_congr (fun n hn=>?_)
 obtain ⟨D,hD,h1⟩:=(h.ord n).1 hn
 have hs:k / 2<3:=by omega
 have hfit:=h.fit D (dealAt_mem hD)
 have hgood:=(h.pens _ hs).good
 unfold doneAt
 rw [wantsR_some hD]
 by_cases ho:over (T.P (k / 2)).A.es n=some true
 ·rw [if_pos ho,gain_none]
  ·omega
  ·rintro ⟨a,b,d⟩ hx ⟨e1,_⟩
   have:=(hgood.each _ hx).2.2.2.2
   simp only at e1 this
   rw [e1,ho] at this
   cases this
 ·rw [if_neg ho,gain_wants (h.apart _ hs) hfit.apart (fun d hd=>?_) (fun d hd=>?_)]
  ·omega
  ·have hsh:(shp (k:Int)).toNat=k / 2:=by
    obtain ⟨_,_,_,_,q⟩:=hfit.shop hd
    rw [q];omega
   rcases h.done n D hD h1 _ d hd with q | q
   ·rw [hsh] at q;exact q
   ·rw [hsh] at q;exact absurd q ho
  ·obtain ⟨D',hD',q⟩:=h.hold _ hs _ _ _ hd
   rw [hD] at hD'
   obtain rfl:=Option.some.inj hD'
   exact q
theorem Inv.count {w0:Nat->Int} {T:Twn} (h:Inv w0 T) {k:Nat} (hk:k<6):0<=outs (T.P (k / 2)).A.hs (k:Int)∧outs (T.P (k / 2)).A.hs (k:Int)<=valT T k∧0<=inns (T.P (k / 2)).A.hs (k:Int)∧valT T k+inns (T.P (k / 2)).A.hs (k:Int)<=100:=by
 have hs:k / 2<3:=by omega
 have hg:=h.pens _ hs
 have hno:(T.P (k / 2)).A.no=((k / 2:Nat):Int):=hg.no
 have hc:=hg.good.cnt (k % 2) (by omega)
 unfold Bk.out Bk.inn at hc
 have e:(T.P (k / 2)).A.no * 2+((k % 2:Nat):Int)=(k:Int):=by rw [hno];omega
 rw [e] at hc
 obtain ⟨_,_,a,b,c,d⟩:=chk_ok hc
 exact ⟨a,b,c,d⟩
theorem Inv.can {w0:Nat->Int} {T:Twn} (h:Inv w0 T) {n:Int} {D:Dl} (hd:dealAt T.B n=some D) (h0:D.st=0) (hall:∀c d,(c,d)∈D.w->(n,c,d)∈(T.P (shp c).toNat).A.hs):Can (curR w0 T) D.w:=by
 have hfit:=h.fit D (dealAt_mem hd)
 have hnin:n ∉ T.B.ord:=fun q=>by
  obtain ⟨D',hD',q1⟩:=(h.ord n).1 q
  rw [hd] at hD'
  obtain rfl:=Option.some.inj hD'
  omega
 refine ⟨hfit,?_⟩
 rintro ⟨c,d⟩ hx
 obtain ⟨c0,c6,s0,s3,sh⟩:=hfit.shop hx
 obtain ⟨k,rfl⟩:∃k:Nat,c=(k:Int):=⟨c.toNat,by omega⟩
 have hk:k<6:=by omega
 have hsh:(shp (k:Int)).toNat=k / 2:=by rw [sh];omega
 have hheld:=hall _ d hx
 rw [hsh] at hheld
 have hg:=gain_one (h.apart (k / 2) (by omega)) hheld
 have hcur:=h.cur hk
 obtain ⟨b1,b2⟩:=gain_bounds (T.P (k / 2)).A.hs (k:Int) h.nd
 obtain ⟨b3,b4⟩:=gain_bounds (T.P (k / 2)).A.hs (k:Int) (List.nodup_cons.2 ⟨hnin,h.nd⟩)
 simp only [sumD] at b3 b4
 rw [hg] at b3 b4
 obtain ⟨a1,a2,a3,a4⟩:=h.count hk
 simp only [Int.toNat_natCast]
 refine mor_of ?_ ?_ ?_ ?_
 ·omega
 ·omega
 ·omega
 ·omega
theorem Inv.ser_book {w0:Nat->Int} {T:Twn} {B':Bok} (h:Inv w0 T) (hL:Later T.B B') (ho:B'.ord=T.B.ord) (hs:SerOk w0 T):SerOk w0 { T with B:=B' }:=by
 have hw:∀n∈T.B.ord,wantsR B' n=wantsR T.B n:=fun n hn=>by
  obtain ⟨D,hD,_⟩:=(h.ord n).1 hn
  exact wants_later hL hD
 unfold SerOk curR at hs ⊢
 show serR B' w0 B'.ord=_
 rw [ho,serR_congr hw,hs]
 congr 1
 funext k
 show w0 k+sumD _ T.B.ord=w0 k+sumD (fun n=>dOf (wantsR B' n) k) T.B.ord
 rw [sumD_congr (f:=fun n=>dOf (wantsR B' n) k) (fun n hn=>by rw [hw n hn])]
theorem SerOk.same {w0:Nat->Int} {T T':Twn} (hs:SerOk w0 T) (e:T'.B=T.B):SerOk w0 T':=by
 unfold SerOk curR at hs ⊢
 rw [e];exact hs
theorem Inv.ser_hear {w0:Nat->Int} {T:Twn} (h:Inv w0 T) {m:Ml} (hm:MailOk T.B T.P m) (hser:SerOk w0 T):SerOk w0 { T with B:=hearR T.B m }:=by
 rcases hearR_cases T.B m with e | ⟨D,i,hd,h0,hk,hs,hw,hc⟩ | ⟨D,hd,h0,hk,hs,ho,e⟩
 ·rw [e];exact hser
 ·rcases hc with ⟨_,e⟩ | ⟨hy,_,e⟩ | ⟨hy,hl,e⟩
  ·rw [e];exact h.ser_book (later_put hd rfl (fun q=>absurd h0 q)) rfl hser
  ·rw [e];exact h.ser_book (later_put hd rfl (fun q=>absurd h0 q)) rfl hser
  ·have hmem:(m.c,m.d)∈D.w:=List.mem_of_getElem? hw
   obtain ⟨_,_,s0,s3,_⟩:=(h.fit D (dealAt_mem hd)).shop hmem
   have hheld:(m.deal,m.c,m.d)∈(T.P (shp m.c).toNat).A.hs:=by
    obtain ⟨q0,q3,D',hD',hcs⟩:=hm
    rcases hcs with ⟨a,_⟩ | ⟨_,_,q,hq⟩ | ⟨a,_⟩ | ⟨a,_⟩
    ·omega
    ·rcases hq hy with r | r
     ·rw [hs];exact r
     ·rw [h.open_none hd h0 (by omega)] at r;cases r
    ·omega
    ·omega
   have hall:=(h.decide hd h0 (addI_nodup (h.ynd D (dealAt_mem hd)) _) hl (fun j hj=>by
    rcases addI_mem.1 hj with q | q
    ·obtain ⟨k,c,d,e1,e2,e3⟩:=h.yes _ D hd j q
     exact ⟨k,c,d,e1,e2,e3 h0⟩
    ·exact ⟨i,m.c,m.d,q,hw,hheld⟩)).2
   have hcan:=h.can hd h0 hall
   have hL:Later T.B { putD T.B m.deal { D with yes:=addI D.yes i,st:=1 } with ord:=T.B.ord++[m.deal] }:=later_put hd rfl (fun q=>absurd h0 q)
   rw [e]
   have hw2:∀n∈T.B.ord,wantsR { putD T.B m.deal { D with yes:=addI D.yes i,st:=1 } with ord:=T.B.ord++[m.deal] } n=wantsR T.B n:=fun n hn=>by
    obtain ⟨E,hE,_⟩:=(h.ord n).1 hn
    exact wants_later hL hE
   have hwn:wantsR { putD T.B m.deal { D with yes:=addI D.yes i,st:=1 } with ord:=T.B.ord++[m.deal] } m.deal=D.w:=by rw [wants_later hL hd,wantsR_some hd]
   have hser':=hser
   unfold SerOk at hser'
   have hz:(serR { putD T.B m.deal { D with yes:=addI D.yes i,st:=1 } with ord:=T.B.ord++[m.deal] } w0 T.B.ord)=(curR w0 T,0):=by rw [serR_congr hw2,hser']
   unfold SerOk
   show serR _ w0 (T.B.ord++[m.deal])=_
   rw [serR_snoc _ _ _ _ (by rw [hz]),hz]
   simp only [serR]
   rw [hwn,app_can hcan,if_pos rfl]
   congr 1
   funext k
   show curR w0 T k+dOf D.w k=w0 k+sumD (fun n=>dOf (wantsR _ n) k) (T.B.ord++[m.deal])
   rw [sumD_append,sumD_congr (g:=fun n=>dOf (wantsR T.B n) k) (fun n hn=>by rw [hw2 n hn])]
   simp only [sumD]
   rw [hwn]
   unfold curR
   omega
 ·rw [e];exact h.ser_book (later_put hd rfl (fun _=>rfl)) rfl hser
theorem Inv.ser_come {w0:Nat->Int} {T:Twn} (h:Inv w0 T) {x:Ml} (hx:MailOk T.B T.P x) (hser:SerOk w0 T):SerOk w0 (comeR T x):=by
 unfold comeR
 split
 ·exact h.ser_hear hx hser
 ·split
  ·exact hser.same rfl
  ·exact hser
theorem Inv.ser_deliv {w0:Nat->Int} {T:Twn} (h:Inv w0 T) (hser:SerOk w0 T) (n:Int):SerOk w0 (delivR T n).2:=by
 unfold delivR
 obtain ⟨h1,h2⟩:=take_ok h.mail n
 by_cases ht:(takeR T.M n).2.1=true
 ·rw [if_pos ht]
  exact (h.less h1 (takeR_len T.M n h.mlen)).ser_come (h2 ht) (hser.same rfl)
 ·rw [if_neg ht];exact hser
theorem later_crash (B:Bok):Later B (crashR B):=by
 intro n D hD
 refine ⟨crashD D,by rw [dealAt_crashT,hD];rfl,rfl,fun q=>?_⟩
 unfold crashD
 simp only
 rw [if_neg q]
theorem later_quit (B:Bok) (n:Int):Later B (quitR B n).2∧(quitR B n).2.ord=B.ord:=by
 unfold quitR
 cases hd:dealAt B n with
 | none=>exact ⟨Later.refl _,rfl⟩
 | some D=>
   simp only
   by_cases h0:D.st=0
   ·rw [if_pos h0];exact ⟨later_put hd rfl (fun q=>absurd h0 q),rfl⟩
   ·rw [if_neg h0];exact ⟨Later.refl _,rfl⟩
theorem later_begin (B:Bok) (l:List (Int × Int)):Later B (beginR B l).2.2∧(beginR B l).2.2.ord=B.ord:=by
 unfold beginR
 split
 ·split
  ·exact ⟨Later.refl _,rfl⟩
  ·refine ⟨fun n D hD=>⟨D,?_,rfl,fun _=>rfl⟩,rfl⟩
   show dealAt { B with L:=B.L++[⟨l,0,[],[]⟩] } n=some D
   rw [dealAt_begin,if_neg (fun e=>?_)]
   ·exact hD
   ·rw [e,dealAt_nat,List.getElem?_eq_none (Nat.le_refl _)] at hD
    cases hD
 ·exact ⟨Later.refl _,rfl⟩
theorem Inv.ser_step {w0:Nat->Int} {T:Twn} (h:Inv w0 T) (hser:SerOk w0 T) (x:TSp):SerOk w0 (townR T x).2:=by
 unfold townR
 split
 ·exact h.ser_book (later_begin T.B x.w).1 (later_begin T.B x.w).2 hser
 ·split
  ·exact hser.same rfl
  ·split
   ·exact h.ser_deliv hser x.n
   ·split
    ·exact hser.same rfl
    ·split
     ·exact hser.same rfl
     ·split
      ·exact h.ser_book (later_quit T.B x.n).1 (later_quit T.B x.n).2 hser
      ·split
       ·exact hser
       ·split
        ·exact h.ser_book (later_crash T.B) rfl hser
        ·exact hser
theorem ser_new (w0:Nat->Int) (P:Nat->Kb):SerOk w0 ⟨⟨[],[]⟩,P,[]⟩:=by
 unfold SerOk curR
 show (w0,(0:Int))=_
 congr 1
 funext k
 simp [sumD]
def drainR:Nat->Twn->Twn
 | 0,T=>T
 | f+1,T=>if T.M.length=0 then T else drainR f (delivR T 0).2
def wtM (m:Ml):Nat:=if m.kind=2∨m.kind=4 then 1 else 2
def wtL:List Ml->Nat
 | []=>0
 | m :: r=>wtM m+wtL r
theorem wtL_append (a b:List Ml):wtL (a++b)=wtL a+wtL b:=by
 induction a with
 | nil=>simp [wtL]
 | cons x r ih=>simp only [List.cons_append,wtL,ih];omega
theorem wtL_le (l:List Ml):wtL l<=2 * l.length:=by
 induction l with
 | nil=>simp [wtL]
 | cons x r ih=>
   have:wtM x<=2:=by unfold wtM;split <;> omega
   simp only [wtL,List.length_cons]
   omega
theorem take_first (m:Ml) (r:List Ml):takeR (m :: r) 0=(m,true,r):=by
 have e:rnd 0 (m :: r).length=0:=by unfold rnd;simp
 have h:(m :: r)[rnd 0 (m :: r).length]?=some m:=by rw [e];rfl
 rw [takeR_some h,e]
 rfl
theorem deliv_first {T:Twn} {m:Ml} {r:List Ml} (h:T.M=m :: r):(delivR T 0).2=comeR { T with M:=r } m:=by
 unfold delivR
 rw [h,take_first]
 rfl
theorem sendR_room6 {l:List Ml} {m:Ml} (h:¬40<=l.length):(sendR l m).2=l++[m]:=by unfold sendR;rw [if_neg h]
theorem come_mail (T:Twn) (m:Ml) (hl:T.M.length<40):(comeR T m).M=T.M∨∃y,(comeR T m).M=T.M++[y]∧(y.kind=2∨y.kind=4)∧¬(m.kind=2∨m.kind=4):=by
 unfold comeR
 split
 ·exact .inl rfl
 ·rename_i hk
  split
  ·by_cases ho:(ansR m.shop (T.P m.shop.toNat) m).2.1=true
   ·right
    refine ⟨(ansR m.shop (T.P m.shop.toNat) m).1,?_,?_,hk⟩
    ·show (if (ansR m.shop (T.P m.shop.toNat) m).2.1=true then _ else _)=_
     rw [if_pos ho,sendR_room6 (by omega)]
    ·by_cases h1:m.kind=1
     ·rw [ans_ask rfl h1];exact .inl rfl
     ·by_cases h3:m.kind=3
      ·by_cases hz:(doR (T.P m.shop.toNat) (endS m)).1=0
       ·rw [ans_end rfl h3 hz];exact .inr rfl
       ·rw [ans_noend rfl h3 hz] at ho;cases ho
      ·rw [ans_kind rfl h1 h3] at ho;cases ho
   ·left
    show (if (ansR m.shop (T.P m.shop.toNat) m).2.1=true then _ else _)=_
    rw [if_neg ho]
  ·exact .inl rfl
theorem drain_ends {w0:Nat->Int} {R:Twn->Prop} (hstep:∀(T:Twn) (m:Ml) (r:List Ml),Inv w0 T->T.M=m :: r->R T->R (comeR { T with M:=r } m)):∀(f:Nat) (T:Twn),Inv w0 T->R T->wtL T.M<=f->(drainR f T).M=[]∧Inv w0 (drainR f T)∧R (drainR f T):=by
 intro f
 induction f with
 | zero=>
   intro T h hR hf
   refine ⟨?_,h,hR⟩
   show T.M=[]
   cases hM:T.M with
   | nil=>rfl
   | cons m r=>
     rw [hM] at hf
     have:1<=wtM m:=by unfold wtM;split <;> omega
     simp only [wtL] at hf
     omega
 | succ f ih=>
   intro T h hR hf
   cases hM:T.M with
   | nil=>
     have e:drainR (f+1) T=T:=by
      show (if T.M.length=0 then _ else _)=_
      rw [if_pos (by rw [hM];rfl)]
     rw [e]
     exact ⟨hM,h,hR⟩
   | cons m r=>
     have e:drainR (f+1) T=drainR f (comeR { T with M:=r } m):=by
      show (if T.M.length=0 then _ else _)=_
      rw [if_neg (by rw [hM];simp),deliv_first hM]
     rw [e]
     have hd:=h.deliv 0
     rw [deliv_first hM] at hd
     refine ih _ hd (hstep T m r h hM hR) ?_
     have hl:({ T with M:=r }:Twn).M.length<40:=by
      have:=h.mlen
      rw [hM] at this
      simp only [List.length_cons] at this
      show r.length<40
      omega
     rw [hM] at hf
     simp only [wtL] at hf
     rcases come_mail { T with M:=r } m hl with q | ⟨y,q,hy,hn⟩
     ·rw [q]
      have:1<=wtM m:=by unfold wtM;split <;> omega
      show wtL r<=f
      omega
     ·rw [q,wtL_append]
      have e1:wtM m=2:=by unfold wtM;rw [if_neg hn]
      have e2:wtL [y]=1:=by simp only [wtL];unfold wtM;rw [if_pos hy]
      show wtL r+wtL [y]<=f
      omega
def Part (B:Bok):Prop:=∀D∈B.L,D.st=0->D.yes.length ≠ D.w.length
theorem part_put {B:Bok} {n:Int} {D':Dl} (h:Part B) (hd:D'.st=0->D'.yes.length ≠ D'.w.length):Part (putD B n D'):=by
 intro E hE h0
 rcases put_mem hE with q | q
 ·exact h E q h0
 ·rw [q] at h0 ⊢;exact hd h0
theorem part_hear {B:Bok} (h:Part B) (m:Ml):Part (hearR B m):=by
 rcases hearR_cases B m with e | ⟨D,i,hd,h0,_,_,_,hc⟩ | ⟨D,hd,h0,_,_,_,e⟩
 ·rw [e];exact h
 ·rcases hc with ⟨_,e⟩ | ⟨_,hl,e⟩ | ⟨_,_,e⟩
  ·rw [e];exact part_put h (fun q=>absurd (show (2:Int)=0 from q) (by decide))
  ·rw [e];exact part_put h (fun _=>hl)
  ·rw [e]
   intro E hE
   exact part_put (n:=m.deal) (D':={ D with yes:=addI D.yes i,st:=1 }) h (fun q=>absurd (show (1:Int)=0 from q) (by decide)) E hE
 ·rw [e];exact part_put h (fun q=>absurd q h0)
theorem part_come {T:Twn} (h:Part T.B) (m:Ml):Part (comeR T m).B:=by
 unfold comeR
 split
 ·exact part_hear h m
 ·split
  ·exact h
  ·exact h
theorem part_step {w0:Nat->Int} {T:Twn} (hI:Inv w0 T) (h:Part T.B) (x:TSp):Part (townR T x).2.B:=by
 unfold townR
 split
 ·show Part (beginR T.B x.w).2.2
  unfold beginR
  split
  ·rename_i hf
   split
   ·exact h
   ·intro E hE h0
    rcases List.mem_append.1 hE with q | q
    ·exact h E q h0
    ·rw [List.mem_singleton.1 q]
     have:=(fit_iff.1 hf).pos
     show (0:Nat) ≠ x.w.length
     omega
  ·exact h
 ·split
  ·exact h
  ·split
   ·unfold delivR
    split
    ·exact part_come (T:={ T with M:=(takeR T.M x.n).2.2 }) h _
    ·exact h
   ·split
    ·exact h
    ·split
     ·exact h
     ·split
      ·show Part (quitR T.B x.n).2
       unfold quitR
       cases hd:dealAt T.B x.n with
       | none=>exact h
       | some D=>
         simp only
         split
         ·exact part_put h (fun q=>absurd (show (2:Int)=0 from q) (by decide))
         ·exact h
      ·split
       ·exact h
       ·split
        ·intro E hE h0
         obtain ⟨D,hD,rfl⟩:=List.mem_map.1 hE
         have:=hI.st D hD
         unfold crashD at h0
         simp only at h0
         split at h0 <;> omega
        ·exact h
def AskedAll (T:Twn):Prop:=∀n D,dealAt T.B n=some D->D.st=0->∀(k:Nat) (c d:Int),D.w[k]?=some (c,d)->(k:Int) ∉ D.yes->∃m∈T.M,m.deal=n∧m.c=c∧m.d=d∧(m.kind=1∨m.kind=2)
def AllDec (B:Bok):Prop:=∀D∈B.L,D.st ≠ 0
def ToldAll (T:Twn):Prop:=∀n D,dealAt T.B n=some D->∀s∈shopsL D.w,s ∉ D.ov->∃m∈T.M,m.deal=n∧m.shop=s∧(m.kind=3∨m.kind=4)
theorem sendAll_room:∀{r l:List Ml},l.length+r.length<=40->sendAll l r=l++r:=by
 intro r
 induction r with
 | nil=>intro l _;simp [sendAll]
 | cons m r ih=>
   intro l h
   simp only [List.length_cons] at h
   show sendAll (sendR l m).2 r=_
   rw [sendR_room6 (by omega),ih (by simp;omega)]
   simp
theorem Inv.tick_all {w0:Nat->Int} {T:Twn} (h:Inv w0 T) (hM:T.M=[]):(tickR T).M=dueR T.B:=by
 show sendAll T.M (dueR T.B)=_
 rw [hM,sendAll_room]
 ·rfl
 ·have h1:(dueR T.B).length<=4 * T.B.L.length:=dues_len h.fit
  have:=h.len
  simp only [List.length_nil]
  omega
theorem Inv.tick_asked {w0:Nat->Int} {T:Twn} (h:Inv w0 T) (hM:T.M=[]):AskedAll (tickR T):=by
 intro n D hD h0 k c d hw hn
 refine ⟨⟨1,n,shp c,c,d,false⟩,?_,rfl,rfl,rfl,.inl rfl⟩
 rw [h.tick_all hM]
 refine mem_due hD ?_
 unfold dueD
 rw [if_pos h0]
 exact asks_in hw (by simpa using hn)
theorem Inv.tick_told {w0:Nat->Int} {T:Twn} (h:Inv w0 T) (hM:T.M=[]) (hA:AllDec T.B):ToldAll (tickR T):=by
 intro n D hD s hs ho
 refine ⟨⟨3,n,s,0,0,D.st == 1⟩,?_,rfl,rfl,.inl rfl⟩
 rw [h.tick_all hM]
 refine mem_due hD ?_
 unfold dueD
 rw [if_neg (hA D (dealAt_mem hD))]
 unfold endsR
 exact List.mem_map.2 ⟨s,List.mem_filter.2 ⟨hs,by simpa using ho⟩,rfl⟩
theorem fit_idx {w:List (Int × Int)} (h:Fit w) {i k:Nat} {c d d':Int} (h1:w[i]?=some (c,d)) (h2:w[k]?=some (c,d')):i=k:=by
 obtain ⟨hi,e1⟩:=List.getElem?_eq_some_iff.1 h1
 obtain ⟨hk,e2⟩:=List.getElem?_eq_some_iff.1 h2
 have hp:=List.pairwise_iff_getElem.1 h.apart
 apply Classical.byContradiction
 intro hne
 rcases Nat.lt_or_gt_of_ne hne with q | q
 ·exact hp i k hi hk q (by rw [e1,e2])
 ·exact hp k i hk hi q (by rw [e1,e2])
theorem hear_deal {B:Bok} {m:Ml} {n:Int} {D':Dl} (h:dealAt (hearR B m) n=some D'):∃D,dealAt B n=some D∧D'.w=D.w∧(D'.st=0->D.st=0)∧(∀i∈D.yes,i∈D'.yes)∧(∀s∈D.ov,s∈D'.ov):=by
 have hput:∀{D E:Dl},dealAt B m.deal=some D->E.w=D.w->(E.st=0->D.st=0)->(∀i∈D.yes,i∈E.yes)->(∀s∈D.ov,s∈E.ov)->dealAt (putD B m.deal E) n=some D'->∃D,dealAt B n=some D∧D'.w=D.w∧(D'.st=0->D.st=0)∧(∀i∈D.yes,i∈D'.yes)∧(∀s∈D.ov,s∈D'.ov):=by
  intro D E hd h1 h2 h3 h4 hq
  rw [dealAt_put hd] at hq
  by_cases e:n=m.deal
  ·rw [if_pos e] at hq
   obtain rfl:=Option.some.inj hq
   exact ⟨D,by rw [e];exact hd,h1,h2,h3,h4⟩
  ·rw [if_neg e] at hq
   exact ⟨D',hq,rfl,id,fun _ q=>q,fun _ q=>q⟩
 rcases hearR_cases B m with e | ⟨D,i,hd,h0,_,_,_,hc⟩ | ⟨D,hd,h0,_,_,_,e⟩
 ·rw [e] at h
  exact ⟨D',h,rfl,id,fun _ q=>q,fun _ q=>q⟩
 ·rcases hc with ⟨_,e⟩ | ⟨_,_,e⟩ | ⟨_,_,e⟩
  ·rw [e] at h
   exact hput (E:={ D with st:=2 }) hd rfl (fun _=>h0) (fun _ q=>q) (fun _ q=>q) h
  ·rw [e] at h
   exact hput (E:={ D with yes:=addI D.yes i }) hd rfl (fun _=>h0) (fun _ q=>addI_mem.2 (.inl q)) (fun _ q=>q) h
  ·rw [e] at h
   exact hput (E:={ D with yes:=addI D.yes i,st:=1 }) hd rfl (fun _=>h0) (fun _ q=>addI_mem.2 (.inl q)) (fun _ q=>q) h
 ·rw [e] at h
  exact hput (E:={ D with ov:=D.ov++[m.shop] }) hd rfl (fun q=>q) (fun _ q=>q) (fun _ q=>List.mem_append_left _ q) h
theorem hear_say {B:Bok} {m:Ml} {D:Dl} {k:Nat} (hd:dealAt B m.deal=some D) (hf:Fit D.w) (hk:m.kind=2) (hs:m.shop=shp m.c) (hw:D.w[k]?=some (m.c,m.d)) {D':Dl} (hD':dealAt (hearR B m) m.deal=some D') (h0':D'.st=0):(k:Int)∈D'.yes:=by
 obtain ⟨E,hE,_,hst,_⟩:=hear_deal hD'
 rw [hd] at hE
 obtain rfl:=Option.some.inj hE
 have h0:=hst h0'
 obtain ⟨i,hq⟩:∃i,wantAt D.w m.c m.d=some i:=by
  cases hq:wantAt D.w m.c m.d with
  | none=>exact absurd (List.mem_of_getElem? hw) (wantAt_none hq)
  | some i=>exact ⟨i,rfl⟩
 have hik:i=k:=fit_idx hf (wantAt_some hq) hw
 subst hik
 have hh:hearR B m=if m.yes=true then (if (addI D.yes i).length=D.w.length then { putD B m.deal { D with yes:=addI D.yes i,st:=1 } with ord:=B.ord++[m.deal] } else putD B m.deal { D with yes:=addI D.yes i }) else putD B m.deal { D with st:=2 }:=by
  unfold hearR
  rw [hd]
  simp only
  rw [if_pos h0,if_pos ⟨hk,hs.symm⟩,hq]
 rw [hh] at hD'
 by_cases hy:m.yes=true
 ·rw [if_pos hy] at hD'
  by_cases hl:(addI D.yes i).length=D.w.length
  ·rw [if_pos hl] at hD'
   have h5:dealAt (putD B m.deal { D with yes:=addI D.yes i,st:=1 }) m.deal=some D':=hD'
   rw [dealAt_put hd,if_pos rfl] at h5
   obtain rfl:=Option.some.inj h5
   exact absurd (show (1:Int)=0 from h0') (by decide)
  ·rw [if_neg hl,dealAt_put hd,if_pos rfl] at hD'
   obtain rfl:=Option.some.inj hD'
   exact addI_mem.2 (.inr rfl)
 ·rw [if_neg hy,dealAt_put hd,if_pos rfl] at hD'
  obtain rfl:=Option.some.inj hD'
  exact absurd (show (2:Int)=0 from h0') (by decide)
theorem hear_overT {B:Bok} {m:Ml} {D D':Dl} (hd:dealAt B m.deal=some D) (h0:D.st ≠ 0) (hk:m.kind=4) (hs:m.shop∈shopsL D.w) (hD':dealAt (hearR B m) m.deal=some D'):m.shop∈D'.ov:=by
 have hh:hearR B m=if m.kind=4∧m.shop∈shopsL D.w∧m.shop ∉ D.ov then putD B m.deal { D with ov:=D.ov++[m.shop] } else B:=by
  unfold hearR
  rw [hd]
  simp only
  rw [if_neg h0]
 rw [hh] at hD'
 by_cases ho:m.shop∈D.ov
 ·rw [if_neg (fun q=>q.2.2 ho),hd] at hD'
  obtain rfl:=Option.some.inj hD'
  exact ho
 ·rw [if_pos ⟨hk,hs,ho⟩,dealAt_put hd,if_pos rfl] at hD'
  obtain rfl:=Option.some.inj hD'
  exact List.mem_append_right _ (by simp)
theorem come_deals (T:Twn) (m:Ml):(comeR T m).B=if m.kind=2∨m.kind=4 then hearR T.B m else T.B:=by
 unfold comeR
 split
 ·rfl
 ·split <;> rfl
theorem asked_step {w0:Nat->Int} (T:Twn) (m:Ml) (r:List Ml) (h:Inv w0 T) (hM:T.M=m :: r) (hA:AskedAll T):AskedAll (comeR { T with M:=r } m):=by
 have hl:({ T with M:=r }:Twn).M.length<40:=by
  have:=h.mlen
  rw [hM] at this
  simp only [List.length_cons] at this
  show r.length<40
  omega
 have hm:=h.mail m (by rw [hM];simp)
 have hsub:∀x∈r,x∈(comeR { T with M:=r } m).M:=fun x hx=>by
  rcases come_mail { T with M:=r } m hl with q | ⟨y,q,_⟩
  ·rw [q];exact hx
  ·rw [q];exact List.mem_append_left _ hx
 intro n D' hD' h0' k c d hw hn
 have hB:=come_deals { T with M:=r } m
 rw [hB] at hD'
 by_cases hk:m.kind=2∨m.kind=4
 ·rw [if_pos hk] at hD'
  obtain ⟨D,hD,ew,est,ey,_⟩:=hear_deal hD'
  rw [ew] at hw
  obtain ⟨x,hx,x1,x2,x3,x4⟩:=hA n D hD (est h0') k c d hw (fun q=>hn (ey _ q))
  rw [hM] at hx
  rcases List.mem_cons.1 hx with e | hx
  ·subst e
   have hk2:x.kind=2:=by omega
   exfalso
   refine hn ?_
   obtain ⟨_,_,E,hE,hc⟩:=hm
   have hsh:x.shop=shp x.c:=by
    rcases hc with ⟨a,_⟩ | ⟨_,_,a,_⟩ | ⟨a,_⟩ | ⟨a,_⟩
    ·omega
    ·exact a
    ·omega
    ·omega
   subst x1
   exact hear_say hD (h.fit D (dealAt_mem hD)) hk2 hsh (by rw [x2,x3];exact hw) hD' h0'
  ·exact ⟨x,hsub x hx,x1,x2,x3,x4⟩
 ·rw [if_neg hk] at hD'
  obtain ⟨x,hx,x1,x2,x3,x4⟩:=hA n D' hD' h0' k c d hw hn
  rw [hM] at hx
  rcases List.mem_cons.1 hx with e | hx
  ·subst e
   have hk1:x.kind=1:=by omega
   obtain ⟨s0,s3,_⟩:=hm
   refine ⟨⟨2,x.deal,x.shop,x.c,x.d,(doR (T.P x.shop.toNat) (askS x)).1 == 0⟩,?_,x1,x2,x3,.inr rfl⟩
   unfold comeR
   rw [if_neg hk,if_pos ⟨s0,s3⟩,ans_ask rfl hk1]
   simp only [if_true]
   rw [sendR_room6 (by have hl':r.length<40:=hl;omega)]
   simp
  ·exact ⟨x,hsub x hx,x1,x2,x3,x4⟩
theorem dec_step {T:Twn} {m:Ml} (h:AllDec T.B):AllDec (comeR T m).B:=by
 rw [come_deals]
 split
 ·intro E hE h0
  obtain ⟨k,_,hk⟩:=mem_dealAt hE
  obtain ⟨D,hD,_,hst,_⟩:=hear_deal hk
  exact h D (dealAt_mem hD) (hst h0)
 ·exact h
theorem told_step {w0:Nat->Int} (T:Twn) (m:Ml) (r:List Ml) (h:Inv w0 T) (hM:T.M=m :: r) (hA:ToldAll T∧AllDec T.B):ToldAll (comeR { T with M:=r } m)∧AllDec (comeR { T with M:=r } m).B:=by
 refine ⟨?_,dec_step (T:={ T with M:=r }) hA.2⟩
 have hl:({ T with M:=r }:Twn).M.length<40:=by
  have:=h.mlen
  rw [hM] at this
  simp only [List.length_cons] at this
  show r.length<40
  omega
 have hm:=h.mail m (by rw [hM];simp)
 have hsub:∀x∈r,x∈(comeR { T with M:=r } m).M:=fun x hx=>by
  rcases come_mail { T with M:=r } m hl with q | ⟨y,q,_⟩
  ·rw [q];exact hx
  ·rw [q];exact List.mem_append_left _ hx
 intro n D' hD' s hs hn
 have hB:=come_deals { T with M:=r } m
 rw [hB] at hD'
 by_cases hk:m.kind=2∨m.kind=4
 ·rw [if_pos hk] at hD'
  obtain ⟨D,hD,ew,est,_,eo⟩:=hear_deal hD'
  rw [ew] at hs
  obtain ⟨x,hx,x1,x2,x3⟩:=hA.1 n D hD s hs (fun q=>hn (eo _ q))
  rw [hM] at hx
  rcases List.mem_cons.1 hx with e | hx
  ·subst e
   have hk4:x.kind=4:=by omega
   exfalso
   refine hn ?_
   subst x1
   subst x2
   exact hear_overT hD (hA.2 D (dealAt_mem hD)) hk4 hs hD'
  ·exact ⟨x,hsub x hx,x1,x2,x3⟩
 ·rw [if_neg hk] at hD'
  obtain ⟨x,hx,x1,x2,x3⟩:=hA.1 n D' hD' s hs hn
  rw [hM] at hx
  rcases List.mem_cons.1 hx with e | hx
  ·subst e
   have hk3:x.kind=3:=by omega
   have hz:=h.fin_code hm hk3
   obtain ⟨s0,s3,_⟩:=hm
   refine ⟨⟨4,x.deal,x.shop,x.c,x.d,x.yes⟩,?_,x1,x2,.inr rfl⟩
   unfold comeR
   rw [if_neg hk,if_pos ⟨s0,s3⟩,ans_end rfl hk3 hz]
   simp only [if_true]
   rw [sendR_room6 (by have hl':r.length<40:=hl;omega)]
   simp
  ·exact ⟨x,hsub x hx,x1,x2,x3⟩
def calmR:Nat->Nat->Twn->Nat × Twn
 | 0,n,T=>(n,T)
 | f+1,n,T=>if (dueR (drainR 80 T).B).length=0 then (n,drainR 80 T) else calmR f (n+1) (tickR (drainR 80 T))
structure Town (w0:Nat->Int) (T:Twn):Prop where
 inv:Inv w0 T
 ser:SerOk w0 T
 part:Part T.B
theorem Town.step {w0:Nat->Int} {T:Twn} (h:Town w0 T) (x:TSp):Town w0 (townR T x).2:=⟨h.inv.step x,h.inv.ser_step h.ser x,part_step h.inv h.part x⟩
theorem Town.tick {w0:Nat->Int} {T:Twn} (h:Town w0 T):Town w0 (tickR T):=⟨h.inv.tick,h.ser.same rfl,h.part⟩
theorem town_new {w0:Nat->Int} (h:∀s:Nat,s<3->newOk (s:Int) w0=true):Town w0 ⟨⟨[],[]⟩,fun s=>⟨book0 (s:Int) w0,[]⟩,[]⟩:=⟨inv_new h,ser_new w0 _,fun D hD=>by simp at hD⟩
theorem come_town {w0:Nat->Int} {T:Twn} {m:Ml} {r:List Ml} (h:Inv w0 T) (hM:T.M=m :: r) (hR:SerOk w0 T∧Part T.B):SerOk w0 (comeR { T with M:=r } m)∧Part (comeR { T with M:=r } m).B:=by
 have hl:r.length<=40:=by
  have:=h.mlen
  rw [hM] at this
  simp only [List.length_cons] at this
  omega
 have h1:Inv w0 { T with M:=r }:=h.less (fun x hx=>h.mail x (by rw [hM];simp [hx])) hl
 exact ⟨h1.ser_come (h.mail m (by rw [hM];simp)) (hR.1.same rfl),part_come (T:={ T with M:=r }) hR.2 m⟩
theorem Town.drain {w0:Nat->Int} {T:Twn} (h:Town w0 T) {R:Twn->Prop} (hstep:∀(T:Twn) (m:Ml) (r:List Ml),Inv w0 T->T.M=m :: r->R T->R (comeR { T with M:=r } m)) (hR:R T):(drainR 80 T).M=[]∧Town w0 (drainR 80 T)∧R (drainR 80 T):=by
 obtain ⟨a,b,⟨c1,c2⟩,d⟩:=drain_ends (w0:=w0) (R:=fun T=>(SerOk w0 T∧Part T.B)∧R T) (fun T m r q1 q2 q3=>⟨come_town q1 q2 q3.1,hstep T m r q1 q2 q3.2⟩) 80 T h.inv ⟨⟨h.ser,h.part⟩,hR⟩ (by
  have:=wtL_le T.M
  have:=h.inv.mlen
  omega)
 exact ⟨a,⟨b,c1,c2⟩,d⟩
theorem length_ge_of_all:∀{n:Nat} {l:List Int},(∀k:Nat,k<n->(k:Int)∈l)->n<=l.length:=by
 intro n
 induction n with
 | zero=>intro l _;exact Nat.zero_le _
 | succ n ih=>
   intro l h
   have h1:=ih (l:=l.erase (n:Int)) (fun k hk=>(List.mem_erase_of_ne (by omega)).2 (h k (by omega)))
   have h2:=List.length_erase_of_mem (h n (Nat.lt_succ_self n))
   have h3:=List.length_pos_of_mem (h n (Nat.lt_succ_self n))
   omega
theorem Town.dec_asked {w0:Nat->Int} {T:Twn} (h:Town w0 T) (hM:T.M=[]) (hA:AskedAll T):AllDec T.B:=by
 intro D hD h0
 obtain ⟨n,_,hn⟩:=mem_dealAt hD
 refine h.part D hD h0 ?_
 have hyn:=h.inv.ynd D hD
 have hle:D.yes.length<=D.w.length:=length_le_of_below hyn (fun i hi=>by
  obtain ⟨k,c,d,e1,e2,_⟩:=h.inv.yes _ D hn i hi
  have:=(List.getElem?_eq_some_iff.1 e2).1
  omega)
 have hin:∀k:Nat,k<D.w.length->(k:Int)∈D.yes:=fun k hk=>by
  apply Classical.byContradiction
  intro hno
  obtain ⟨m,hm,_⟩:=hA _ D hn h0 k (D.w[k]).1 (D.w[k]).2 (List.getElem?_eq_getElem hk) hno
  rw [hM] at hm
  simp at hm
 have hge:D.w.length<=D.yes.length:=length_ge_of_all hin
 omega
theorem dues_nil:∀{L:List Dl} {k:Nat},(∀(i:Nat) (D:Dl),L[i]?=some D->dueD ((k+i:Nat):Int) D=[])->duesR k L=[]:=by
 intro L
 induction L with
 | nil=>intro k _;rfl
 | cons D r ih=>
   intro k h
   simp only [duesR]
   rw [show dueD (k:Int) D=[] by simpa using h 0 D rfl,ih (fun i E hE=>by
    have:=h (i+1) E (by simpa using hE)
    rw [show k+1+i=k+(i+1) by omega]
    exact this)]
   rfl
theorem due_nil {B:Bok} (h:∀n D,dealAt B n=some D->dueD n D=[]):dueR B=[]:=
 dues_nil (fun i D hD=>by
  rw [Nat.zero_add]
  exact h (i:Int) D (by rw [dealAt_nat];exact hD))
theorem nil_due {B:Bok} (h:dueR B=[]) {n:Int} {D:Dl} (hD:dealAt B n=some D):dueD n D=[]:=by
 rw [List.eq_nil_iff_forall_not_mem]
 intro m hm
 have:=mem_due hD hm
 rw [h] at this
 simp at this
theorem due_told {T:Twn} (hM:T.M=[]) (hA:ToldAll T) (hd:AllDec T.B):dueR T.B=[]:=by
 refine due_nil (fun n D hD=>?_)
 unfold dueD
 rw [if_neg (hd D (dealAt_mem hD))]
 unfold endsR
 rw [List.map_eq_nil_iff,List.filter_eq_nil_iff]
 intro s hs
 have:s∈D.ov:=by
  apply Classical.byContradiction
  intro hno
  obtain ⟨m,hm,_⟩:=hA n D hD s hs hno
  rw [hM] at hm
  simp at hm
 simpa using this
structure Still (w0:Nat->Int) (T:Twn):Prop where
 town:Town w0 T
 mail:T.M=[]
 due:dueR T.B=[]
 dec:AllDec T.B
 ovs:∀n D,dealAt T.B n=some D->∀s∈shopsL D.w,s∈D.ov
theorem still_of {w0:Nat->Int} {T:Twn} (h:Town w0 T) (hM:T.M=[]) (hd:dueR T.B=[]):Still w0 T:=by
 have hdec:AllDec T.B:=h.dec_asked hM (fun n D hD h0 k c d hw hn=>by
  have h1:=nil_due hd hD
  unfold dueD at h1
  rw [if_pos h0] at h1
  have:=asks_in (n:=n) (yes:=D.yes) (j:=0) hw (by simpa using hn)
  rw [h1] at this
  simp at this)
 refine ⟨h,hM,hd,hdec,fun n D hD s hs=>?_⟩
 have h1:=nil_due hd hD
 unfold dueD at h1
 rw [if_neg (hdec D (dealAt_mem hD))] at h1
 unfold endsR at h1
 rw [List.map_eq_nil_iff,List.filter_eq_nil_iff] at h1
 simpa using h1 s hs
theorem calm_all {w0:Nat->Int} {T:Twn} (h:Town w0 T):(calmR 20 0 T).1<=2∧Still w0 (calmR 20 0 T).2:=by
 have hc:∀(f n:Nat) (T:Twn),calmR (f+1) n T=if (dueR (drainR 80 T).B).length=0 then (n,drainR 80 T) else calmR f (n+1) (tickR (drainR 80 T)):=fun _ _ _=>rfl
 obtain ⟨m1,t1,_⟩:=h.drain (R:=fun _=>True) (fun _ _ _ _ _ _=>trivial) trivial
 rw [hc 19]
 by_cases d1:(dueR (drainR 80 T).B).length=0
 ·rw [if_pos d1]
  exact ⟨Nat.zero_le _,still_of t1 m1 (List.length_eq_zero_iff.1 d1)⟩
 ·rw [if_neg d1]
  obtain ⟨m2,t2,a2⟩:=t1.tick.drain (R:=AskedAll) asked_step (t1.inv.tick_asked m1)
  have dec2:=t2.dec_asked m2 a2
  rw [hc 18]
  by_cases d2:(dueR (drainR 80 (tickR (drainR 80 T))).B).length=0
  ·rw [if_pos d2]
   exact ⟨by show (1:Nat)<=2;omega,still_of t2 m2 (List.length_eq_zero_iff.1 d2)⟩
  ·rw [if_neg d2]
   obtain ⟨m3,t3,a3⟩:=t2.tick.drain (R:=fun T=>ToldAll T∧AllDec T.B) told_step ⟨t2.inv.tick_told m2 dec2,dec2⟩
   have d3:=due_told m3 a3.1 a3.2
   rw [hc 17,if_pos (by rw [d3];rfl)]
   exact ⟨Nat.le_refl _,still_of t3 m3 d3⟩
theorem drain_nil {T:Twn} (h:T.M=[]):∀f,drainR f T=T
 | 0=>rfl
 | f+1=>by
   show (if T.M.length=0 then _ else _)=_
   rw [if_pos (by rw [h];rfl)]
def six (f:Nat->Int):Int:=f 0+f 1+f 2+f 3+f 4+f 5
def recKey (no:Int) (r:Stp):Int:=if r.what=1 then r.deal * 2+(r.c - no * 2) else 16+r.deal
structure RecOk (K:Kb):Prop where
 held:∀n c d,(n,c,d)∈K.A.hs->(⟨1,n,c,d,false⟩:Stp)∈K.rs
 hold:∀r∈K.rs,r.what=1->0<=r.deal∧r.deal<8∧K.A.no * 2<=r.c∧r.c<=K.A.no * 2+1
 fin:∀r∈K.rs,r.what ≠ 1->0<=r.deal∧r.deal<8
 keys:(K.rs.map (recKey K.A.no)).Nodup
theorem recOk_new {A0:Bk} (hh:A0.hs=[]):RecOk ⟨A0,[]⟩:=⟨fun n c d h=>(by have h':(n,c,d)∈A0.hs:=h;rw [hh] at h';simp at h'),by simp,by simp,by simp⟩
theorem wrote_hold {A:Bk} {r:Stp} (h:Wrote A r) (h1:r.what=1) (ho:over A.es r.deal=none):(r.deal,r.c,r.d)∈A.hs:=by
 obtain ⟨_,h2,_⟩:=h
 rcases h2 h1 with ⟨x,hx,hd⟩ | q
 ·have hm:=List.mem_of_find?_eq_some hx
  have hs:=List.find?_some hx
  unfold same at hs
  simp only [Bool.and_eq_true,beq_iff_eq] at hs
  obtain ⟨x0,x1,x2⟩:=x
  simp only at hs hd
  rw [<-hs.1,<-hs.2,<-hd]
  exact hm
 ·rw [ho] at q;cases q
theorem RecOk.note {A0:Bk} {K:Kb} (hG:GoodK A0 K) (h:RecOk K) {r:Stp} (hz:(tellR K.A r).1=0):RecOk ⟨(tellR K.A r).2,noteR K.rs r⟩:=by
 by_cases h0:rchk r=0
 ·by_cases h1:r.what=1
  ·have hdone:r.done=false:=by
    unfold rchk at h0
    rw [if_pos h1] at h0
    cases hd:r.done with
    | false=>rfl
    | true=>rw [hd] at h0;simp at h0
   have hr:r=⟨1,r.deal,r.c,r.d,false⟩:=by
    obtain ⟨a,b,c,d,e⟩:=r
    simp only at h1 hdone
    rw [h1,hdone]
   rw [tellR_hold h0 h1] at hz ⊢
   rcases holdR_cases K.A r.deal r.c r.d with ⟨hc,e⟩ | ⟨hc,m,hm,hcm,⟨y,hy,e⟩ | ⟨_,hz',e⟩ | ⟨hf,_,e⟩⟩
   ·rw [e] at hz;exact absurd hz hc
   ·rw [e] at hz
    have hz1:(if y.2.2=r.d then (0:Int) else 9)=0:=hz
    have hq:y.2.2=r.d:=by
     by_cases q:y.2.2=r.d
     ·exact q
     ·rw [if_neg q] at hz1;omega
    have hin:(r.deal,r.c,r.d)∈K.A.hs:=by
     have h2:=List.mem_of_find?_eq_some hy
     have hs:=List.find?_some hy
     unfold same at hs
     simp only [Bool.and_eq_true,beq_iff_eq] at hs
     obtain ⟨x0,x1,x2⟩:=y
     simp only at hs hq
     rw [<-hs.1,<-hs.2,<-hq]
     exact h2
    have hrs:r∈K.rs:=by rw [hr];exact h.held _ _ _ hin
    rw [e,noteR_in hrs]
    exact h
   ·rw [e] at hz;exact absurd hz hz'
   ·rw [e]
    obtain ⟨d0,d8,_,_,hov⟩:=chkS_zero hc
    have hno:∀s∈K.rs,recKey K.A.no s ≠ recKey K.A.no r:=by
     intro s hs hk
     unfold recKey at hk
     rw [if_pos h1] at hk
     by_cases hs1:s.what=1
     ·rw [if_pos hs1] at hk
      obtain ⟨a,b,c,d⟩:=h.hold s hs hs1
      have e1:s.deal=r.deal:=by omega
      have e2:s.c=r.c:=by omega
      have hin:=wrote_hold (hG.wrote s hs) hs1 (by rw [e1];exact hov)
      rw [e1,e2] at hin
      have:=List.find?_eq_none.1 hf _ hin
      simp [same] at this
     ·rw [if_neg hs1] at hk
      obtain ⟨a,b⟩:=h.fin s hs hs1
      omega
    have hnew:¬r∈K.rs:=fun q=>hno r q rfl
    rw [noteR_out hnew]
    refine ⟨fun n c d hm=>?_,fun s hs hs1=>?_,fun s hs hs1=>?_,?_⟩
    ·have hm':(n,c,d)∈K.A.hs++[(r.deal,r.c,r.d)]:=hm
     rcases List.mem_append.1 hm' with q | q
     ·exact List.mem_append_left _ (h.held _ _ _ q)
     ·refine List.mem_append_right _ ?_
      have q':=List.mem_singleton.1 q
      have e1:n=r.deal:=congrArg (fun t=>t.1) q'
      have e2:c=r.c:=congrArg (fun t=>t.2.1) q'
      have e3:d=r.d:=congrArg (fun t=>t.2.2) q'
      rw [e1,e2,e3]
      rw [<-hr]
      exact List.mem_singleton.2 rfl
    ·show 0<=s.deal∧s.deal<8∧K.A.no * 2<=s.c∧s.c<=K.A.no * 2+1
     rcases List.mem_append.1 hs with q | q
     ·exact h.hold s q hs1
     ·rw [List.mem_singleton.1 q]
      exact ⟨d0,d8,by omega,by omega⟩
    ·rcases List.mem_append.1 hs with q | q
     ·exact h.fin s q hs1
     ·rw [List.mem_singleton.1 q] at hs1
      exact absurd h1 hs1
    ·show ((K.rs++[r]).map (recKey K.A.no)).Nodup
     rw [List.map_append]
     refine List.nodup_append.2 ⟨h.keys,by simp,?_⟩
     intro a ha b hb e2
     obtain ⟨s,hs,rfl⟩:=List.mem_map.1 ha
     have hb':b=recKey K.A.no r:=by simpa using hb
     rw [hb'] at e2
     exact hno s hs e2
  ·have h2:r.what=2∧r.c=0∧r.d=0:=by
    unfold rchk at h0
    rw [if_neg h1] at h0
    by_cases q:r.what=2
    ·rw [if_pos q] at h0
     by_cases q2:r.c=0∧r.d=0
     ·exact ⟨q,q2⟩
     ·rw [if_neg q2] at h0;omega
    ·rw [if_neg q] at h0;omega
   have old:∀s∈K.rs,s.what ≠ 1->over K.A.es s.deal=some s.done∧s.what=2∧s.c=0∧s.d=0:=by
    intro s hs hs1
    obtain ⟨q0,_,q2⟩:=hG.wrote s hs
    refine ⟨q2 hs1,?_⟩
    unfold rchk at q0
    rw [if_neg hs1] at q0
    by_cases q:s.what=2
    ·rw [if_pos q] at q0
     by_cases q3:s.c=0∧s.d=0
     ·exact ⟨q,q3⟩
     ·rw [if_neg q3] at q0;omega
    ·rw [if_neg q] at q0;omega
   rw [tellR_end h0 h1] at hz ⊢
   have add:∀A':Bk,A'.no=K.A.no->(∀x∈A'.hs,x∈K.A.hs)->0<=r.deal->r.deal<8->(¬r∈K.rs->∀s∈K.rs,s.what ≠ 1->s.deal ≠ r.deal)->RecOk ⟨A',noteR K.rs r⟩:=by
    intro A' hno hsub d0 d8 hne
    by_cases hin:r∈K.rs
    ·rw [noteR_in hin]
     exact ⟨fun n c d hm=>h.held _ _ _ (hsub _ hm),fun s hs hs1=>by show 0<=s.deal∧s.deal<8∧A'.no * 2<=s.c∧s.c<=A'.no * 2+1;rw [hno];exact h.hold s hs hs1,h.fin,by show (K.rs.map (recKey A'.no)).Nodup;rw [hno];exact h.keys⟩
    ·rw [noteR_out hin]
     refine ⟨fun n c d hm=>List.mem_append_left _ (h.held _ _ _ (hsub _ hm)),fun s hs hs1=>?_,fun s hs hs1=>?_,?_⟩
     ·show 0<=s.deal∧s.deal<8∧A'.no * 2<=s.c∧s.c<=A'.no * 2+1
      rw [hno]
      rcases List.mem_append.1 hs with q | q
      ·exact h.hold s q hs1
      ·rw [List.mem_singleton.1 q] at hs1
       exact absurd hs1 h1
     ·rcases List.mem_append.1 hs with q | q
      ·exact h.fin s q hs1
      ·rw [List.mem_singleton.1 q];exact ⟨d0,d8⟩
     ·show ((K.rs++[r]).map (recKey A'.no)).Nodup
      rw [hno,List.map_append]
      refine List.nodup_append.2 ⟨h.keys,by simp,?_⟩
      intro a ha b hb e2
      obtain ⟨s,hs,rfl⟩:=List.mem_map.1 ha
      have hb':b=recKey K.A.no r:=by simpa using hb
      rw [hb'] at e2
      unfold recKey at e2
      rw [if_neg h1] at e2
      by_cases hs1:s.what=1
      ·rw [if_pos hs1] at e2
       obtain ⟨a1,a2,a3,a4⟩:=h.hold s hs hs1
       omega
      ·rw [if_neg hs1] at e2
       exact hne hin s hs hs1 (by omega)
   have hov:over K.A.es r.deal=none∨over K.A.es r.deal=some r.done:=by
    rcases endR_cases K.A r.deal r.done with ⟨_,e⟩ | ⟨_,_,⟨b,hb,e⟩ | ⟨hn,e⟩⟩
    ·rw [e] at hz;exact absurd (show (1:Int)=0 from hz) (by decide)
    ·rw [e] at hz
     right
     have hz1:(if b=r.done then (0:Int) else 9)=0:=hz
     by_cases q:b=r.done
     ·rw [hb,q]
     ·rw [if_neg q] at hz1;omega
    ·exact .inl hn
   have hne:¬r∈K.rs->∀s∈K.rs,s.what ≠ 1->s.deal ≠ r.deal:=by
    intro hin s hs hs1 hd
    obtain ⟨o1,o2,o3,o4⟩:=old s hs hs1
    rw [hd] at o1
    rcases hov with q | q
    ·rw [q] at o1;cases o1
    ·rw [q] at o1
     have e4:r.done=s.done:=Option.some.inj o1
     apply hin
     have:s=r:=by
      obtain ⟨a,b,c,d,e⟩:=s
      obtain ⟨a',b',c',d',e'⟩:=r
      simp only at o2 o3 o4 hd e4 h2
      obtain ⟨p1,p2,p3⟩:=h2
      rw [o2,o3,o4,hd,p1,p2,p3,e4]
     rw [<-this];exact hs
   rcases endR_cases K.A r.deal r.done with ⟨_,e⟩ | ⟨d0,d8,⟨b,hb,e⟩ | ⟨hn,e⟩⟩
   ·rw [e] at hz;exact absurd (show (1:Int)=0 from hz) (by decide)
   ·rw [e];exact add K.A rfl (fun _ hx=>hx) d0 d8 hne
   ·rw [e]
    refine add _ rfl (fun x hx=>?_) d0 d8 hne
    exact (List.mem_filter.1 hx).1
 ·rw [tellR_bad h0] at hz
  exact absurd hz h0
theorem RecOk.do {A0:Bk} {K:Kb} (hG:GoodK A0 K) (h:RecOk K) (r:Stp):RecOk (doR K r).2:=by
 by_cases hz:(tellR K.A r).1=0
 ·rw [doR_done hz]
  exact h.note hG hz
 ·rw [doR_code hz]
  exact h
theorem RecOk.ans {A0:Bk} {K:Kb} (hG:GoodK A0 K) (h:RecOk K) (no:Int) (m:Ml):RecOk (ansR no K m).2.2:=by
 unfold ansR
 split
 ·split
  ·exact h.do hG _
  ·split
   ·split
    ·exact h.do hG _
    ·exact h
   ·exact h
 ·exact h
theorem RecOk.few {K:Kb} (h:RecOk K):K.rs.length<=24:=by
 have:=length_le_of_below (k:=24) h.keys (fun x hx=>by
  obtain ⟨r,hr,rfl⟩:=List.mem_map.1 hx
  unfold recKey
  split
  ·rename_i h1
   obtain ⟨a,b,c,d⟩:=h.hold r hr h1
   omega
  ·rename_i h1
   obtain ⟨a,b⟩:=h.fin r hr h1
   omega)
 simpa using this
structure Full (w0:Nat->Int) (T:Twn):Prop where
 town:Town w0 T
 recs:∀s:Nat,s<3->RecOk (T.P s)
 brk:BInv T.B
theorem full_new {w0:Nat->Int} (h:∀s:Nat,s<3->newOk (s:Int) w0=true):Full w0 ⟨⟨[],[]⟩,fun s=>⟨book0 (s:Int) w0,[]⟩,[]⟩:=⟨town_new h,fun _ _=>recOk_new rfl,binv_new⟩
theorem Full.shop {w0:Nat->Int} {T:Twn} (h:Full w0 T) {s:Nat} (hs:s<3):GoodK (book0 (s:Int) w0) (T.P s)∧Good (T.P s).A∧(T.P s).A.no=(s:Int)∧(T.P s).A.hs.length<=24∧(T.P s).A.es.length<=24∧(T.P s).rs.length<=24:=by
 have g:=h.town.inv.pens s hs
 have f:=(h.recs s hs).few
 exact ⟨g,g.good,g.no,Nat.le_trans g.hl f,Nat.le_trans g.el f,f⟩
theorem rec_come {w0:Nat->Int} {T:Twn} (hI:∀s:Nat,s<3->GoodK (book0 (s:Int) w0) (T.P s)) (h:∀s:Nat,s<3->RecOk (T.P s)) (m:Ml):∀s:Nat,s<3->RecOk ((comeR T m).P s):=by
 intro s hs
 unfold comeR
 split
 ·exact h s hs
 ·split
  ·show RecOk (updP T.P m.shop.toNat (ansR m.shop (T.P m.shop.toNat) m).2.2 s)
   by_cases e:s=m.shop.toNat
   ·subst e
    rw [updP_same]
    exact (h _ hs).ans (hI _ hs) _ m
   ·rw [updP_other _ _ _ e]
    exact h s hs
  ·exact h s hs
theorem brk_come {T:Twn} (h:BInv T.B) (m:Ml):BInv (comeR T m).B:=by
 rw [come_deals]
 split
 ·exact h.hear m
 ·exact h
theorem Full.deliv {w0:Nat->Int} {T:Twn} (h:Full w0 T) (n:Int):(∀s:Nat,s<3->RecOk ((delivR T n).2.P s))∧BInv (delivR T n).2.B:=by
 unfold delivR
 split
 ·exact ⟨rec_come (T:={ T with M:=(takeR T.M n).2.2 }) h.town.inv.pens h.recs _,brk_come (T:={ T with M:=(takeR T.M n).2.2 }) h.brk _⟩
 ·exact ⟨h.recs,h.brk⟩
theorem Full.step {w0:Nat->Int} {T:Twn} (h:Full w0 T) (x:TSp):Full w0 (townR T x).2:=by
 have ht:=h.town.step x
 refine ⟨ht,?_,?_⟩
 ·unfold townR
  split
  ·exact h.recs
  ·split
   ·exact h.recs
   ·split
    ·exact (h.deliv x.n).1
    ·split
     ·exact h.recs
     ·split
      ·exact h.recs
      ·split
       ·exact h.recs
       ·split
        ·exact h.recs
        ·split
         ·exact h.recs
         ·exact h.recs
 ·unfold townR
  split
  ·exact h.brk.begin x.w
  ·split
   ·exact h.brk
   ·split
    ·exact (h.deliv x.n).2
    ·split
     ·exact h.brk
     ·split
      ·exact h.brk
      ·split
       ·exact h.brk.quit x.n
       ·split
        ·exact h.brk
        ·split
         ·exact h.brk.crash
         ·exact h.brk
theorem Full.tick {w0:Nat->Int} {T:Twn} (h:Full w0 T):Full w0 (tickR T):=⟨h.town.tick,h.recs,h.brk⟩
structure Drn (w0:Nat->Int) (T0:Twn) (f:Nat) (T:Twn):Prop where
 full:Full w0 T
 wt:wtL T.M<=f
 eq:drainR f T=drainR 80 T0
theorem drn_start {w0:Nat->Int} {T:Twn} (h:Full w0 T):Drn w0 T 80 T:=by
 refine ⟨h,?_,rfl⟩
 have:=wtL_le T.M
 have:=h.town.inv.mlen
 omega
theorem Drn.done {w0:Nat->Int} {T0 T:Twn} {f:Nat} (h:Drn w0 T0 f T) (hM:T.M=[]):drainR 80 T0=T:=by rw [<-h.eq,drain_nil hM]
theorem full_come {w0:Nat->Int} {T:Twn} (h:Full w0 T) {m:Ml} {r:List Ml} (hM:T.M=m :: r):Full w0 (comeR { T with M:=r } m):=by
 have h1:(delivR T 0).2=comeR { T with M:=r } m:=deliv_first hM
 have ht:=h.town.step ⟨3,0,[]⟩
 have e:(townR T ⟨3,0,[]⟩).2=(delivR T 0).2:=by unfold townR;simp
 rw [e] at ht
 rw [<-h1]
 exact ⟨ht,(h.deliv 0).1,(h.deliv 0).2⟩
theorem Drn.step {w0:Nat->Int} {T0 T:Twn} {f:Nat} (h:Drn w0 T0 f T) (hM:T.M ≠ []):(delivR T 0).1=0∧∃f',f=f'+1∧Drn w0 T0 f' (delivR T 0).2:=by
 obtain ⟨m,r,e⟩:∃m r,T.M=m :: r:=by
  cases hT:T.M with
  | nil=>exact absurd hT hM
  | cons m r=>exact ⟨m,r,rfl⟩
 have hw:=h.wt
 have h1:=deliv_first e
 rw [e] at hw
 simp only [wtL] at hw
 have hm:1<=wtM m:=by unfold wtM;split <;> omega
 obtain ⟨f',rfl⟩:∃f',f=f'+1:=⟨f - 1,by omega⟩
 refine ⟨?_,f',rfl,?_,?_,?_⟩
 ·unfold delivR
  rw [e,take_first]
  simp
 ·rw [h1];exact full_come h.full e
 ·rw [h1]
  have hl:({ T with M:=r }:Twn).M.length<40:=by
   have:=h.full.town.inv.mlen
   rw [e] at this
   simp only [List.length_cons] at this
   exact Nat.lt_of_succ_le this
  rcases come_mail { T with M:=r } m hl with q | ⟨y,q,hy,hn⟩
  ·rw [q]
   show wtL r<=f'
   omega
  ·rw [q,wtL_append]
   have h2:wtM m=2:=by unfold wtM;rw [if_neg hn]
   have h3:wtM y=1:=by unfold wtM;rw [if_pos hy]
   show wtL r+(wtM y+0)<=f'
   omega
 ·have q:=h.eq
  rw [drainR,if_neg (by rw [e];simp)] at q
  exact q
theorem drain_full {w0:Nat->Int} {T0:Twn}:∀(f:Nat) (T:Twn),Drn w0 T0 f T->Full w0 (drainR 80 T0)∧(drainR 80 T0).M=[]
 | 0,T,h=>by
   have e:T.M=[]:=by
    cases hT:T.M with
    | nil=>rfl
    | cons m r=>obtain ⟨_,f',q,_⟩:=h.step (by rw [hT];simp);omega
   rw [h.done e]
   exact ⟨h.full,e⟩
 | f+1,T,h=>by
   by_cases e:T.M=[]
   ·rw [h.done e]
    exact ⟨h.full,e⟩
   ·obtain ⟨_,f',q,k⟩:=h.step e
    obtain rfl:f=f':=by omega
    exact drain_full f _ k
structure Clm (w0:Nat->Int) (T0:Twn) (n:Nat) (T:Twn):Prop where
 full:Full w0 T
 le:n<=20
 eq:calmR (20 - n) n T=calmR 20 0 T0
theorem clm_start {w0:Nat->Int} {T:Twn} (h:Full w0 T):Clm w0 T 0 T:=⟨h,by omega,rfl⟩
theorem Clm.drained {w0:Nat->Int} {T0 T:Twn} {n:Nat} (h:Clm w0 T0 n T):Full w0 (drainR 80 T)∧(drainR 80 T).M=[]:=drain_full 80 T (drn_start h.full)
theorem Clm.out {w0:Nat->Int} {T0 T:Twn} {n:Nat} (h:Clm w0 T0 n T) (hn:n<20) (hd:dueR (drainR 80 T).B=[]):calmR 20 0 T0=(n,drainR 80 T):=by
 have q:=h.eq
 obtain ⟨f,hf⟩:∃f,20 - n=f+1:=⟨19 - n,by omega⟩
 rw [hf,calmR,if_pos (by rw [hd];rfl)] at q
 exact q.symm
theorem Clm.turn {w0:Nat->Int} {T0 T:Twn} {n:Nat} (h:Clm w0 T0 n T) (hn:n<20) (hd:dueR (drainR 80 T).B ≠ []):Clm w0 T0 (n+1) (tickR (drainR 80 T)):=by
 refine ⟨h.drained.1.tick,by omega,?_⟩
 have q:=h.eq
 obtain ⟨f,hf⟩:∃f,20 - n=f+1:=⟨19 - n,by omega⟩
 rw [hf,calmR,if_neg (fun e=>hd (List.eq_nil_of_length_eq_zero e))] at q
 have e:20 - (n+1)=f:=by omega
 rw [e]
 exact q
theorem Clm.few {w0:Nat->Int} {T0 T:Twn} {n:Nat} (h0:Full w0 T0) (h:Clm w0 T0 n T):n<20:=by
 by_cases e:n<20
 ·exact e
 ·have hn:n=20:=by have:=h.le;omega
  subst hn
  have q:=h.eq
  have:=(calm_all h0.town).1
  rw [<-q,show (20 - 20:Nat)=0 from rfl,calmR] at this
  simp only at this
  omega
theorem calm_full {w0:Nat->Int} {T0:Twn}:∀(k n:Nat) (T:Twn),n+k=20->Clm w0 T0 n T->Full w0 (calmR 20 0 T0).2
 | 0,n,T,hk,h=>by
   have hn:n=20:=by omega
   subst hn
   have q:=h.eq
   rw [<-q,show (20 - 20:Nat)=0 from rfl,calmR]
   exact h.full
 | k+1,n,T,hk,h=>by
   by_cases hd:dueR (drainR 80 T).B=[]
   ·rw [h.out (by omega) hd]
    exact h.drained.1
   ·exact calm_full k (n+1) _ (by omega) (h.turn (by omega) hd)
theorem Full.calm {w0:Nat->Int} {T:Twn} (h:Full w0 T):Full w0 (calmR 20 0 T).2∧Still w0 (calmR 20 0 T).2∧(calmR 20 0 T).1<=2:=⟨calm_full 20 0 T rfl (clm_start h),(calm_all h.town).2,(calm_all h.town).1⟩
structure Stands (A:(Nat->Prop)->World->Prop):Prop where
 own:∀{O w},A O w->∀k,O k->k<w.heap.size
 save:∀{O O' w w1},A O w->Save O' w w1->(∀k,O k->¬O' k)->A O w1
theorem Stands.next {A:(Nat->Prop)->World->Prop} (hA:Stands A) {O:Nat->Prop} {w w1:World} (h:A O w) (hb:Below w.heap.size w w1):A O w1:=hA.save (O':=fun _=>False) h (.of_below hb) (fun _ _ q=>q)
def To (A:(Nat->Prop)->World->Prop) (O:Nat->Prop) (w w':World):Prop:=∃O',A O' w'∧Save O w w'∧Moved O O' w
theorem To.stay {A:(Nat->Prop)->World->Prop} (hA:Stands A) {O:Nat->Prop} {w w':World} (h:A O w) (hb:Below w.heap.size w w'):To A O w w':=⟨O,hA.next h hb,.of_below hb,.refl _ _⟩
theorem To.behind {A:(Nat->Prop)->World->Prop} {O:Nat->Prop} {w w1 w':World} (hb:Below w.heap.size w w1) (hs:To A O w1 w'):To A O w w':=by
 obtain ⟨O',h1,h2,h3⟩:=hs
 exact ⟨O',h1,(Save.of_below hb).trans h2 (fun _ _ hj=>hj),fun k hk=>(h3 k hk).imp id (fun q=>Nat.le_trans hb.size q)⟩
theorem To.next {A:(Nat->Prop)->World->Prop} (hA:Stands A) {O:Nat->Prop} {w w1 w':World} (hs:To A O w w1) (hb:Below w1.heap.size w1 w'):To A O w w':=by
 obtain ⟨O',h1,h2,h3⟩:=hs
 exact ⟨O',hA.next h1 hb,h2.next hb,h3⟩
theorem To.mono {A B:(Nat->Prop)->World->Prop} {O:Nat->Prop} {w w':World} (hs:To A O w w') (hk:∀O1,A O1 w'->B O1 w'):To B O w w':=by
 obtain ⟨O1,h1,h2,h3⟩:=hs
 exact ⟨O1,hk O1 h1,h2,h3⟩
structure Beside (n:Nat) (A:Nat->(Nat->Prop)->World->Prop) (O:Nat->Prop) (w:World):Prop where
 own:∀k,O k->k<w.heap.size
 raw:∃Q:Nat->Nat->Prop,(∀i,i<n->A i (Q i) w)∧(∀i,i<n->∀k,Q i k->O k)∧∀i j,i<n->j<n->i ≠ j->∀k,Q i k->¬Q j k
theorem Beside.stands {n:Nat} {A:Nat->(Nat->Prop)->World->Prop} (hA:∀i,i<n->Stands (A i)):Stands (Beside n A):=by
 refine ⟨fun h=>h.own,fun {O O' w w1} h hb hn=>?_⟩
 obtain ⟨Q,h1,h2,h3⟩:=h.raw
 exact ⟨fun k hk=>Nat.lt_of_lt_of_le (h.own k hk) hb.size,Q,fun i hi=>(hA i hi).save (h1 i hi) hb (fun k hk=>hn k (h2 i hi k hk)),h2,h3⟩
def putQ (Q:Nat->Nat->Prop) (i:Nat) (O1:Nat->Prop):Nat->Nat->Prop:=fun j=>if j=i then O1 else Q j
theorem putQ_at (Q:Nat->Nat->Prop) (i:Nat) (O1:Nat->Prop):putQ Q i O1 i=O1:=by unfold putQ;rw [if_pos rfl]
theorem putQ_off (Q:Nat->Nat->Prop) {i j:Nat} (O1:Nat->Prop) (h:j ≠ i):putQ Q i O1 j=Q j:=by unfold putQ;rw [if_neg h]
def putA (A:Nat->(Nat->Prop)->World->Prop) (i:Nat) (B:(Nat->Prop)->World->Prop):Nat->(Nat->Prop)->World->Prop:=fun j=>if j=i then B else A j
theorem putA_at (A:Nat->(Nat->Prop)->World->Prop) (i:Nat) (B:(Nat->Prop)->World->Prop):putA A i B i=B:=by unfold putA;rw [if_pos rfl]
theorem putA_off (A:Nat->(Nat->Prop)->World->Prop) {i j:Nat} (B:(Nat->Prop)->World->Prop) (h:j ≠ i):putA A i B j=A j:=by unfold putA;rw [if_neg h]
theorem Beside.step {n:Nat} {A:Nat->(Nat->Prop)->World->Prop} (hA:∀i,i<n->Stands (A i)) {O:Nat->Prop} {w:World} (h:Beside n A O w) {i:Nat} (hi:i<n):∃Oi,A i Oi w∧(∀k,Oi k->O k)∧∀(w':World) (B:(Nat->Prop)->World->Prop),Stands B->To B Oi w w'->To (Beside n (putA A i B)) O w w':=by
 obtain ⟨Q,h1,h2,h3⟩:=h.raw
 refine ⟨Q i,h1 i hi,h2 i hi,fun w' B hB ⟨O1,b1,b2,b3⟩=>?_⟩
 have off:∀k,O1 k->k<w.heap.size->Q i k:=fun k a b=>(b3 k a).elim id (fun q=>by omega)
 have lt:∀j,j<n->∀k,Q j k->k<w.heap.size:=fun j hj k hk=>h.own k (h2 j hj k hk)
 refine ⟨fun k=>O k∨O1 k,⟨fun k hk=>hk.elim (fun q=>Nat.lt_of_lt_of_le (h.own k q) b2.size) (hB.own b1 k),putQ Q i O1,fun j hj=>?_,fun j hj k hk=>?_,fun j l hj hl hjl k hk=>?_⟩,b2.mono (fun j _ hj=>h2 i hi j hj),fun k hk=>?_⟩
 ·by_cases e:j=i
  ·subst e
   rw [putQ_at,putA_at]
   exact b1
  ·rw [putQ_off _ _ e,putA_off _ _ e]
   exact (hA j hj).save (h1 j hj) b2 (fun k a b=>h3 j i hj hi e k a b)
 ·by_cases e:j=i
  ·subst e
   rw [putQ_at] at hk
   exact .inr hk
  ·rw [putQ_off _ _ e] at hk
   exact .inl (h2 j hj k hk)
 ·by_cases e:j=i
  ·subst e
   rw [putQ_at] at hk
   rw [putQ_off _ _ (fun a=>hjl a.symm)]
   exact fun a=>h3 j l hj hl hjl k (off k hk (lt l hl k a)) a
  ·rw [putQ_off _ _ e] at hk
   by_cases e':l=i
   ·subst e'
    rw [putQ_at]
    exact fun a=>h3 j l hj hl hjl k hk (off k a (lt j hj k hk))
   ·rw [putQ_off _ _ e']
    exact h3 j l hj hl hjl k hk
 ·rcases hk with a | a
  ·exact .inl a
  ·exact (b3 k a).imp (h2 i hi k) id
theorem Beside.same {n:Nat} {A B:Nat->(Nat->Prop)->World->Prop} {O:Nat->Prop} {w:World} (h:Beside n A O w) (he:∀i,i<n->∀Q,A i Q w->B i Q w):Beside n B O w:=by
 obtain ⟨Q,h1,h2,h3⟩:=h.raw
 exact ⟨h.own,Q,fun i hi=>he i hi (Q i) (h1 i hi),h2,h3⟩
theorem Beside.more {n:Nat} {A:Nat->(Nat->Prop)->World->Prop} (hA:∀i,i<n+1->Stands (A i)) {O O1:Nat->Prop} {w w1:World} (h:Beside n A O w) (hb:Below w.heap.size w w1) (h1:A n O1 w1) (hn:∀k,O1 k->w.heap.size<=k):Beside (n+1) A (fun k=>O k∨O1 k) w1:=by
 obtain ⟨Q,q1,q2,q3⟩:=h.raw
 have lt:∀j,j<n->∀k,Q j k->k<w.heap.size:=fun j hj k hk=>h.own k (q2 j hj k hk)
 refine ⟨fun k hk=>hk.elim (fun q=>Nat.lt_of_lt_of_le (h.own k q) hb.size) ((hA n (by omega)).own h1 k),putQ Q n O1,fun j hj=>?_,fun j hj k hk=>?_,fun j l hj hl hjl k hk=>?_⟩
 ·by_cases e:j=n
  ·subst e
   rw [putQ_at]
   exact h1
  ·rw [putQ_off _ _ e]
   exact (hA j hj).next (q1 j (by omega)) hb
 ·by_cases e:j=n
  ·subst e
   rw [putQ_at] at hk
   exact .inr hk
  ·rw [putQ_off _ _ e] at hk
   exact .inl (q2 j (by omega) k hk)
 ·by_cases e:j=n
  ·subst e
   rw [putQ_at] at hk
   rw [putQ_off _ _ (fun a=>hjl a.symm)]
   intro a
   have:=lt l (by omega) k a
   have:=hn k hk
   omega
  ·rw [putQ_off _ _ e] at hk
   by_cases e':l=n
   ·subst e'
    rw [putQ_at]
    intro a
    have:=lt j (by omega) k hk
    have:=hn k a
    omega
   ·rw [putQ_off _ _ e']
    exact q3 j l (by omega) (by omega) hjl k hk
def Cells (b:Nat) (vs:List Value) (O:Nat->Prop) (w:World):Prop:=(∀k,O k->k<w.heap.size)∧O b∧(∀k,w.frozen? ⟨b,k,Option.none⟩=false)∧∀j u,vs[j]?=some u->w.cell? ⟨b,j,Option.none⟩=some u
theorem cells_stands (b:Nat) (vs:List Value):Stands (Cells b vs):=by
 refine ⟨fun h=>h.1,fun {O O' w w1} h hb hn=>?_⟩
 obtain ⟨h1,h2,h3,h4⟩:=h
 have hl:=h1 b h2
 exact ⟨fun k hk=>Nat.lt_of_lt_of_le (h1 k hk) hb.size,h2,fun k=>(hb.frozen (p:=⟨b,k,Option.none⟩) hl (hn b h2)).trans (h3 k),fun j u hj=>(hb.cell (p:=⟨b,j,Option.none⟩) hl (hn b h2)).trans (h4 j u hj)⟩
theorem brk_stands (q:Nat) (B:Bok):Stands (fun O w=>BrkIn O w q B):=⟨fun h=>h.own,fun h hb hn=>h.save hb hn⟩
theorem mail_stands (p o:Nat) (l:List Ml):Stands (fun O w=>MailIn O w p o l):=⟨fun h=>h.own,fun h hb hn=>h.save hb hn⟩
theorem clk_stands (c:Nat) (no:Int) (ws:Nat->Int) (K:Kb):Stands (fun O w=>ClkIn O w c no ws K):=⟨fun h=>h.own,fun h hb hn=>h.save hb hn⟩
theorem Sent.to {O:Nat->Prop} {w w':World} {p o:Nat} {l:List Ml} (h:Sent O w w' p o l):To (fun O w=>MailIn O w p o l) O w w':=by
 obtain ⟨O',h1,h2,h3,_⟩:=h
 exact ⟨O',h1,h2,h3⟩
def townA (p:Nat) (vs:List Value) (b m:Nat) (c:Nat->Nat) (ws:Nat->Int) (T:Twn):Nat->(Nat->Prop)->World->Prop
 | 0=>Cells p vs
 | 1=>fun O w=>BrkIn O w b T.B
 | 2=>fun O w=>MailIn O w m 0 T.M
 | s+3=>fun O w=>ClkIn O w (c s) (s:Int) ws (T.P s)
theorem townA_stands (p:Nat) (vs:List Value) (b m:Nat) (c:Nat->Nat) (ws:Nat->Int) (T:Twn):∀i,i<6->Stands (townA p vs b m c ws T i)
 | 0,_=>cells_stands p vs
 | 1,_=>brk_stands b T.B
 | 2,_=>mail_stands m 0 T.M
 | s+3,_=>clk_stands (c s) s ws (T.P s)
def TwAt (p:Nat) (vs:List Value) (b m:Nat) (c:Nat->Nat) (ws:Nat->Int) (T:Twn) (O:Nat->Prop) (w:World):Prop:=Beside 6 (townA p vs b m c ws T) O w
theorem tw_stands (p:Nat) (vs:List Value) (b m:Nat) (c:Nat->Nat) (ws:Nat->Int) (T:Twn):Stands (TwAt p vs b m c ws T):=Beside.stands (townA_stands p vs b m c ws T)
theorem TwAt.cells {p b m:Nat} {vs:List Value} {c:Nat->Nat} {ws:Nat->Int} {T:Twn} {O:Nat->Prop} {w:World} (h:TwAt p vs b m c ws T O w):p<w.heap.size∧O p∧∀j u,vs[j]?=some u->w.cell? ⟨p,j,none⟩=some u:=by
 obtain ⟨Q,h1,h2,_⟩:=h.raw
 have h0:Cells p vs (Q 0) w:=h1 0 (by omega)
 exact ⟨h0.1 p h0.2.1,h2 0 (by omega) p h0.2.1,h0.2.2.2⟩
theorem TwAt.brk {p b m:Nat} {vs:List Value} {c:Nat->Nat} {ws:Nat->Int} {T:Twn} {O:Nat->Prop} {w:World} (h:TwAt p vs b m c ws T O w):∃Ob,BrkIn Ob w b T.B∧(∀k,Ob k->O k)∧∀(w':World) (B':Bok),BrkTo Ob w w' b B'->To (TwAt p vs b m c ws { T with B:=B' }) O w w':=by
 obtain ⟨Ob,h1,h2,h3⟩:=Beside.step (townA_stands p vs b m c ws T) h (i:=1) (by omega)
 refine ⟨Ob,h1,h2,fun w' B' hB=>(h3 w' _ (brk_stands b B') hB).mono (fun O1 k=>?_)⟩
 refine k.same (fun i hi Q hq=>?_)
 match i,hi,hq with
 | 0,_,hq=>exact hq
 | 1,_,hq=>exact hq
 | 2,_,hq=>exact hq
 | s+3,_,hq=>rw [putA_off _ _ (by omega)] at hq;exact hq
theorem TwAt.mail {p b m:Nat} {vs:List Value} {c:Nat->Nat} {ws:Nat->Int} {T:Twn} {O:Nat->Prop} {w:World} (h:TwAt p vs b m c ws T O w):∃Om,MailIn Om w m 0 T.M∧(∀k,Om k->O k)∧∀(w':World) (l':List Ml),Sent Om w w' m 0 l'->To (TwAt p vs b m c ws { T with M:=l' }) O w w':=by
 obtain ⟨Om,h1,h2,h3⟩:=Beside.step (townA_stands p vs b m c ws T) h (i:=2) (by omega)
 refine ⟨Om,h1,h2,fun w' l' hB=>(h3 w' _ (mail_stands m 0 l') hB.to).mono (fun O1 k=>?_)⟩
 refine k.same (fun i hi Q hq=>?_)
 match i,hi,hq with
 | 0,_,hq=>exact hq
 | 1,_,hq=>exact hq
 | 2,_,hq=>exact hq
 | s+3,_,hq=>rw [putA_off _ _ (by omega)] at hq;exact hq
theorem TwAt.clk {p b m:Nat} {vs:List Value} {c:Nat->Nat} {ws:Nat->Int} {T:Twn} {O:Nat->Prop} {w:World} (h:TwAt p vs b m c ws T O w) {s:Nat} (hs:s<3):∃Oc,ClkIn Oc w (c s) (s:Int) ws (T.P s)∧(∀k,Oc k->O k)∧∀(w':World) (K':Kb),ClkTo Oc w w' (c s) (s:Int) ws K'->To (TwAt p vs b m c ws { T with P:=updP T.P s K' }) O w w':=by
 obtain ⟨Oc,h1,h2,h3⟩:=Beside.step (townA_stands p vs b m c ws T) h (i:=s+3) (by omega)
 refine ⟨Oc,h1,h2,fun w' K' hB=>(h3 w' _ (clk_stands (c s) s ws K') hB).mono (fun O1 k=>?_)⟩
 refine k.same (fun i hi Q hq=>?_)
 match i,hi,hq with
 | 0,_,hq=>rw [putA_off _ _ (by omega)] at hq;exact hq
 | 1,_,hq=>rw [putA_off _ _ (by omega)] at hq;exact hq
 | 2,_,hq=>rw [putA_off _ _ (by omega)] at hq;exact hq
 | j+3,_,hq=>
   by_cases e:j=s
   ·subst e
    rw [putA_at] at hq
    show ClkIn Q _ (c j) (j:Int) ws (updP T.P j K' j)
    rw [updP_same]
    exact hq
   ·rw [putA_off _ _ (by omega)] at hq
    show ClkIn Q _ (c j) (j:Int) ws (updP T.P s K' j)
    rw [updP_other _ _ _ e]
    exact hq
structure Lv (A:(Nat->Prop)->World->Prop) (w0:World) (Z:Nat->Prop) (w:World):Prop where
 inn:∃O,A O w∧∀k,O k->w0.heap.size<=k∧¬Z k
 below:Below w0.heap.size w0 w
 kept:∀k,Z k->k<w.heap.size
theorem Lv.more {A:(Nat->Prop)->World->Prop} (hA:Stands A) {w0 w w1:World} {Z Z':Nat->Prop} (h:Lv A w0 Z w) (hb:Below w.heap.size w w1) (hZ:∀k,Z' k->Z k∨(w.heap.size<=k∧k<w1.heap.size)):Lv A w0 Z' w1:=by
 obtain ⟨O,h1,h2⟩:=h.inn
 refine ⟨⟨O,hA.next h1 hb,fun k hk=>⟨(h2 k hk).1,fun hk'=>?_⟩⟩,after h.below hb h.below.size,fun k hk=>?_⟩
 ·rcases hZ k hk' with q | q
  ·exact (h2 k hk).2 q
  ·have:=hA.own h1 k hk
   omega
 ·rcases hZ k hk with q | q
  ·exact Nat.lt_of_lt_of_le (h.kept k q) hb.size
  ·exact q.2
theorem Lv.next {A:(Nat->Prop)->World->Prop} (hA:Stands A) {w0 w w1:World} {Z:Nat->Prop} (h:Lv A w0 Z w) (hb:Below w.heap.size w w1):Lv A w0 Z w1:=h.more hA hb (fun _ hk=>.inl hk)
theorem Lv.less {A:(Nat->Prop)->World->Prop} {w0 w:World} {Z Z':Nat->Prop} (h:Lv A w0 Z w) (hZ:∀k,Z' k->Z k):Lv A w0 Z' w:=by
 obtain ⟨O,h1,h2⟩:=h.inn
 exact ⟨⟨O,h1,fun k hk=>⟨(h2 k hk).1,fun q=>(h2 k hk).2 (hZ k q)⟩⟩,h.below,fun k hk=>h.kept k (hZ k hk)⟩
theorem Lv.cons {A:(Nat->Prop)->World->Prop} (hA:Stands A) {w0 w w1:World} {l:List Nat} {b:Nat} (h:Lv A w0 (fun k=>k∈l) w) (hb:Below w.heap.size w w1) (h1:w.heap.size<=b) (h2:b<w1.heap.size):Lv A w0 (fun k=>k∈b :: l) w1:=
 h.more hA hb (fun k hk=>by
  rcases List.mem_cons.1 hk with rfl | q
  ·exact .inr ⟨h1,h2⟩
  ·exact .inl q)
theorem Lv.keep {A:(Nat->Prop)->World->Prop} (hA:Stands A) {O:Nat->Prop} {w0 w w1:World} {Z:Nat->Prop} (h:Lv A w0 Z w) (hs:Save O w w1) (hO:∀k,O k->Z k∧w0.heap.size<=k):Lv A w0 Z w1:=by
 obtain ⟨Q,h1,h2⟩:=h.inn
 exact ⟨⟨Q,hA.save h1 hs (fun k hk hq=>(h2 k hk).2 (hO k hq).1),h2⟩,h.below.trans (hs.below (fun k hk hq=>by have:=(hO k hq).2;omega) h.below.size),fun k hk=>Nat.lt_of_lt_of_le (h.kept k hk) hs.size⟩
theorem Lv.step {A B:(Nat->Prop)->World->Prop} {O:Nat->Prop} {w0 w w1:World} {Z:Nat->Prop} (h:Lv A w0 Z w) (h2:∀k,O k->w0.heap.size<=k∧¬Z k) (hs:To B O w w1):Lv B w0 Z w1∧Save (fun k=>¬Z k) w w1:=by
 obtain ⟨O',h3,h4,h5⟩:=hs
 exact ⟨⟨⟨O',h3,fun k hk=>(h5 k hk).elim (h2 k) (fun q=>⟨Nat.le_trans h.below.size q,fun hk'=>by have:=h.kept k hk';omega⟩)⟩,h.below.trans (h4.below (fun k hk hO=>by have:=(h2 k hO).1;omega) h.below.size),fun k hk=>Nat.lt_of_lt_of_le (h.kept k hk) h4.size⟩,h4.mono (fun k _ hk=>(h2 k hk).2)⟩
theorem Lv.new {A:(Nat->Prop)->World->Prop} {O:Nat->Prop} {w w1:World} (h:A O w1) (hO:∀k,O k->w.heap.size<=k) (hb:Below w.heap.size w w1):Lv A w (fun k=>k∈([]:List Nat)) w1:=⟨⟨O,h,fun k hk=>⟨hO k hk,by simp⟩⟩,hb,fun k hk=>by simp at hk⟩
theorem Lv.since {A:(Nat->Prop)->World->Prop} {w0 w w1:World} (hb:Below w0.heap.size w0 w) (h:Lv A w (fun k=>k∈([]:List Nat)) w1):Lv A w0 (fun k=>k∈([]:List Nat)) w1:=by
 obtain ⟨O,h1,h2⟩:=h.inn
 exact ⟨⟨O,h1,fun k hk=>⟨Nat.le_trans hb.size (h2 k hk).1,(h2 k hk).2⟩⟩,after hb h.below hb.size,h.kept⟩
def two (A B:(Nat->Prop)->World->Prop):Nat->(Nat->Prop)->World->Prop
 | 0=>A
 | _=>B
def Pr (A B:(Nat->Prop)->World->Prop) (O:Nat->Prop) (w:World):Prop:=Beside 2 (two A B) O w
theorem two_stands {A B:(Nat->Prop)->World->Prop} (hA:Stands A) (hB:Stands B):∀i,i<2->Stands (two A B i)
 | 0,_=>hA
 | _+1,_=>hB
theorem pr_stands {A B:(Nat->Prop)->World->Prop} (hA:Stands A) (hB:Stands B):Stands (Pr A B):=Beside.stands (two_stands hA hB)
theorem Pr.left {A B:(Nat->Prop)->World->Prop} (hA:Stands A) (hB:Stands B) {O:Nat->Prop} {w:World} (h:Pr A B O w):∃OA,A OA w∧(∀k,OA k->O k)∧∀(w':World) (A':(Nat->Prop)->World->Prop),Stands A'->To A' OA w w'->To (Pr A' B) O w w':=by
 obtain ⟨OA,h1,h2,h3⟩:=Beside.step (two_stands hA hB) h (i:=0) (by omega)
 refine ⟨OA,h1,h2,fun w' A' hA' ht=>(h3 w' A' hA' ht).mono (fun O1 k=>k.same (fun i hi Q hq=>?_))⟩
 match i,hi,hq with
 | 0,_,hq=>exact hq
 | _+1,_,hq=>rw [putA_off _ _ (by omega)] at hq;exact hq
theorem Pr.right {A B:(Nat->Prop)->World->Prop} (hA:Stands A) (hB:Stands B) {O:Nat->Prop} {w:World} (h:Pr A B O w):∃OB,B OB w∧(∀k,OB k->O k)∧∀(w':World) (B':(Nat->Prop)->World->Prop),Stands B'->To B' OB w w'->To (Pr A B') O w w':=by
 obtain ⟨OB,h1,h2,h3⟩:=Beside.step (two_stands hA hB) h (i:=1) (by omega)
 refine ⟨OB,h1,h2,fun w' B' hB' ht=>(h3 w' B' hB' ht).mono (fun O1 k=>k.same (fun i hi Q hq=>?_))⟩
 match i,hi,hq with
 | 0,_,hq=>rw [putA_off _ _ (by omega)] at hq;exact hq
 | 1,_,hq=>rw [putA_at] at hq;exact hq
theorem Pr.new {A B:(Nat->Prop)->World->Prop} (hA:Stands A) (hB:Stands B) {w0 w w1:World} (h:Lv A w0 (fun k=>k∈([]:List Nat)) w) (hb:Below w.heap.size w w1) (h1:Lv B w (fun k=>k∈([]:List Nat)) w1):Lv (Pr A B) w0 (fun k=>k∈([]:List Nat)) w1:=by
 obtain ⟨O,a1,a2⟩:=h.inn
 obtain ⟨Q,b1,b2⟩:=h1.inn
 refine ⟨⟨fun k=>O k∨Q k,⟨fun k hk=>hk.elim (fun q=>Nat.lt_of_lt_of_le (hA.own a1 k q) hb.size) (hB.own b1 k),fun i=>if i=0 then O else Q,fun i hi=>?_,fun i hi k hk=>?_,fun i j hi hj hij k hk hk'=>?_⟩,fun k hk=>hk.elim (a2 k) (fun q=>⟨Nat.le_trans h.below.size (b2 k q).1,(b2 k q).2⟩)⟩,after h.below hb h.below.size,fun k hk=>by simp at hk⟩
 ·match i,hi with
  | 0,_=>exact hA.next a1 hb
  | 1,_=>exact b1
 ·match i,hi,hk with
  | 0,_,hk=>exact .inl hk
  | 1,_,hk=>exact .inr hk
 ·have x:∀k,O k->Q k->False:=fun k o q=>by have:=hA.own a1 k o;have:=(b2 k q).1;omega
  match i,hi,j,hj,hij,hk,hk' with
  | 0,_,1,_,_,hk,hk'=>exact x k hk hk'
  | 1,_,0,_,_,hk,hk'=>exact x k hk' hk
  | 0,_,0,_,hij,_,_=>exact hij rfl
  | 1,_,1,_,hij,_,_=>exact hij rfl
def vsT (b m:Nat) (c:Nat->Nat) (ws:Nat->Int):List Value:=[.pointer (some ⟨b,0,none⟩),.int .i64 (ws 0),.int .i64 (ws 1),.int .i64 (ws 2),.int .i64 (ws 3),.int .i64 (ws 4),.int .i64 (ws 5),.pointer (some ⟨c 0,0,none⟩),.pointer (some ⟨c 1,0,none⟩),.pointer (some ⟨c 2,0,none⟩),.pointer (some ⟨m,0,none⟩)]
def TnIn (p b m:Nat) (c:Nat->Nat) (ws:Nat->Int) (T:Twn) (O:Nat->Prop) (w:World):Prop:=TwAt p (vsT b m c ws) b m c ws T O w
theorem tn_stands (p b m:Nat) (c:Nat->Nat) (ws:Nat->Int) (T:Twn):Stands (TnIn p b m c ws T):=tw_stands p (vsT b m c ws) b m c ws T
theorem TnIn.lt {p b m:Nat} {c:Nat->Nat} {ws:Nat->Int} {T:Twn} {O:Nat->Prop} {w:World} (h:TnIn p b m c ws T O w):p<w.heap.size:=(TwAt.cells h).1
theorem TnIn.c0 {p b m:Nat} {c:Nat->Nat} {ws:Nat->Int} {T:Twn} {O:Nat->Prop} {w:World} (h:TnIn p b m c ws T O w):w.cell? ⟨p,0,none⟩=some (.pointer (some ⟨b,0,none⟩)):=(TwAt.cells h).2.2 0 _ rfl
theorem TnIn.c10 {p b m:Nat} {c:Nat->Nat} {ws:Nat->Int} {T:Twn} {O:Nat->Prop} {w:World} (h:TnIn p b m c ws T O w):w.cell? ⟨p,10,none⟩=some (.pointer (some ⟨m,0,none⟩)):=(TwAt.cells h).2.2 10 _ rfl
theorem TnIn.fr {p b m:Nat} {c:Nat->Nat} {ws:Nat->Int} {T:Twn} {O:Nat->Prop} {w:World} (h:TnIn p b m c ws T O w) {k:Nat} (hk:k<6):w.cell? ⟨p,1+k,none⟩=some (.int .i64 (ws k)):=by
 have q:=(TwAt.cells h).2.2
 match k,hk with
 | 0,_=>exact q 1 _ rfl
 | 1,_=>exact q 2 _ rfl
 | 2,_=>exact q 3 _ rfl
 | 3,_=>exact q 4 _ rfl
 | 4,_=>exact q 5 _ rfl
 | 5,_=>exact q 6 _ rfl
theorem TnIn.ptr {p b m:Nat} {c:Nat->Nat} {ws:Nat->Int} {T:Twn} {O:Nat->Prop} {w:World} (h:TnIn p b m c ws T O w) {s:Nat} (hs:s<3):w.cell? ⟨p,7+s,none⟩=some (.pointer (some ⟨c s,0,none⟩)):=by
 have q:=(TwAt.cells h).2.2
 match s,hs with
 | 0,_=>exact q 7 _ rfl
 | 1,_=>exact q 8 _ rfl
 | 2,_=>exact q 9 _ rfl
theorem TnIn.brk {p b m:Nat} {c:Nat->Nat} {ws:Nat->Int} {T:Twn} {O:Nat->Prop} {w:World} (h:TnIn p b m c ws T O w):∃Ob,BrkIn Ob w b T.B∧(∀k,Ob k->O k)∧∀(w':World) (B':Bok),BrkTo Ob w w' b B'->To (TnIn p b m c ws { T with B:=B' }) O w w':=TwAt.brk h
theorem TnIn.mail {p b m:Nat} {c:Nat->Nat} {ws:Nat->Int} {T:Twn} {O:Nat->Prop} {w:World} (h:TnIn p b m c ws T O w):∃Om,MailIn Om w m 0 T.M∧(∀k,Om k->O k)∧∀(w':World) (l':List Ml),Sent Om w w' m 0 l'->To (TnIn p b m c ws { T with M:=l' }) O w w':=TwAt.mail h
theorem TnIn.clk {p b m:Nat} {c:Nat->Nat} {ws:Nat->Int} {T:Twn} {O:Nat->Prop} {w:World} (h:TnIn p b m c ws T O w) {s:Nat} (hs:s<3):∃Oc,ClkIn Oc w (c s) (s:Int) ws (T.P s)∧(∀k,Oc k->O k)∧∀(w':World) (K':Kb),ClkTo Oc w w' (c s) (s:Int) ws K'->To (TnIn p b m c ws { T with P:=updP T.P s K' }) O w w':=TwAt.clk h hs
def T00 (ws:Nat->Int):Twn:=⟨⟨[],[]⟩,fun s=>⟨book0 (s:Int) ws,[]⟩,[]⟩
def vsN (k b m:Nat) (c:Nat->Nat) (ws:Nat->Int):List Value:=[.pointer (some ⟨b,0,none⟩),.int .i64 (ws 0),.int .i64 (ws 1),.int .i64 (ws 2),.int .i64 (ws 3),.int .i64 (ws 4),.int .i64 (ws 5),.pointer (if 0<k then some ⟨c 0,0,none⟩ else none),.pointer (if 1<k then some ⟨c 1,0,none⟩ else none),.pointer (if 2<k then some ⟨c 2,0,none⟩ else none),.pointer (some ⟨m,0,none⟩)]
def TnNew (k n0 p b m:Nat) (ws:Nat->Int) (w:World):Prop:=∃c O,Beside (k+3) (townA p (vsN k b m c ws) b m c ws (T00 ws)) O w∧∀j,O j->n0<=j
theorem townB_stands (k p:Nat) (vs:List Value) (b m:Nat) (c:Nat->Nat) (ws:Nat->Int) (T:Twn):∀i,i<k+3->Stands (townA p vs b m c ws T i)
 | 0,_=>cells_stands p vs
 | 1,_=>brk_stands b T.B
 | 2,_=>mail_stands m 0 T.M
 | s+3,_=>clk_stands (c s) s ws (T.P s)
theorem TnNew.next {k n0 p b m:Nat} {ws:Nat->Int} {w w1:World} (h:TnNew k n0 p b m ws w) (hb:Below w.heap.size w w1):TnNew k n0 p b m ws w1:=by
 obtain ⟨c,O,h1,h2⟩:=h
 exact ⟨c,O,(Beside.stands (townB_stands k p _ b m c ws _)).next h1 hb,h2⟩
theorem TnNew.cell {k n0 p b m:Nat} {ws:Nat->Int} {w:World} (h:TnNew k n0 p b m ws w):∃c,n0<=p∧p<w.heap.size∧(∀j,w.frozen? ⟨p,j,none⟩=false)∧∀j u,(vsN k b m c ws)[j]?=some u->w.cell? ⟨p,j,none⟩=some u:=by
 obtain ⟨c,O,h1,h2⟩:=h
 obtain ⟨Q,q1,q2,_⟩:=h1.raw
 have h0:Cells p (vsN k b m c ws) (Q 0) w:=q1 0 (by omega)
 exact ⟨c,h2 p (q2 0 (by omega) p h0.2.1),h0.1 p h0.2.1,h0.2.2.1,h0.2.2.2⟩
theorem TnNew.done {n0 p b m:Nat} {ws:Nat->Int} {w:World} (h:TnNew 3 n0 p b m ws w):∃c O,TnIn p b m c ws (T00 ws) O w∧∀j,O j->n0<=j:=by
 obtain ⟨c,O,h1,h2⟩:=h
 exact ⟨c,O,h1,h2⟩
def putC (c:Nat->Nat) (k q:Nat):Nat->Nat:=fun j=>if j=k then q else c j
theorem TnNew.clerk {k n0 p b m q:Nat} {ws:Nat->Int} {w w1:World} {O1:Nat->Prop} (h:TnNew k n0 p b m ws w) (hk:k<3) (hb:Below w.heap.size w w1) (h1:ClkIn O1 w1 q (k:Int) ws ⟨book0 (k:Int) ws,[]⟩) (hn:∀j,O1 j->w.heap.size<=j):TnNew (k+1) n0 p b m ws (w1.setCell ⟨p,7+k,none⟩ (.pointer (some ⟨q,0,none⟩))):=by
 obtain ⟨c,O,a1,a2⟩:=h
 have a3:Beside (k+3) (townA p (vsN k b m c ws) b m (putC c k q) ws (T00 ws)) O w:=by
  refine a1.same (fun i hi Q hq=>?_)
  match i,hi,hq with
  | 0,_,hq=>exact hq
  | 1,_,hq=>exact hq
  | 2,_,hq=>exact hq
  | s+3,hi,hq=>
    show ClkIn Q w (putC c k q s) (s:Int) ws _
    unfold putC
    rw [if_neg (by omega)]
    exact hq
 have a4:Beside (k+1+3) (townA p (vsN k b m c ws) b m (putC c k q) ws (T00 ws)) (fun j=>O j∨O1 j) w1:=by
  have:=Beside.more (n:=k+3) (O1:=O1) (townB_stands (k+1) p (vsN k b m c ws) b m (putC c k q) ws (T00 ws)) a3 hb (by
   show ClkIn O1 w1 (putC c k q k) (k:Int) ws _
   unfold putC
   rw [if_pos rfl]
   exact h1) hn
  exact this
 obtain ⟨Op,p1,p2,p3⟩:=Beside.step (townB_stands (k+1) p (vsN k b m c ws) b m (putC c k q) ws (T00 ws)) a4 (i:=0) (by omega)
 have p1':Cells p (vsN k b m c ws) Op w1:=p1
 have hc:∀j u,(vsN (k+1) b m (putC c k q) ws)[j]?=some u->(w1.setCell ⟨p,7+k,none⟩ (.pointer (some ⟨q,0,none⟩))).cell? ⟨p,j,none⟩=some u:=by
  intro j u hu
  have hj:j<11:=by have:=(List.getElem?_eq_some_iff.1 hu).1;simpa [vsN] using this
  by_cases e:j=7+k
  ·subst e
   have:u=.pointer (some ⟨q,0,none⟩):=by
    match k,hk,hu with
    | 0,_,hu=>simpa [vsN,putC] using hu.symm
    | 1,_,hu=>simpa [vsN,putC] using hu.symm
    | 2,_,hu=>simpa [vsN,putC] using hu.symm
   rw [this]
   obtain ⟨v,hv⟩:∃v,(vsN k b m c ws)[7+k]?=some v:=⟨_,List.getElem?_eq_getElem (by simp [vsN];omega)⟩
   exact cell_set_same (p1'.2.2.2 _ v hv)
  ·rw [cell_set_off (by omega)]
   refine p1'.2.2.2 j u ?_
   rw [<-hu]
   match k,hk,j,hj,e with
   | 0,_,0,_,_=>rfl
   | 0,_,1,_,_=>rfl
   | 0,_,2,_,_=>rfl
   | 0,_,3,_,_=>rfl
   | 0,_,4,_,_=>rfl
   | 0,_,5,_,_=>rfl
   | 0,_,6,_,_=>rfl
   | 0,_,7,_,e=>exact absurd rfl e
   | 0,_,8,_,_=>simp [vsN,putC]
   | 0,_,9,_,_=>simp [vsN,putC]
   | 0,_,10,_,_=>rfl
   | 1,_,0,_,_=>rfl
   | 1,_,1,_,_=>rfl
   | 1,_,2,_,_=>rfl
   | 1,_,3,_,_=>rfl
   | 1,_,4,_,_=>rfl
   | 1,_,5,_,_=>rfl
   | 1,_,6,_,_=>rfl
   | 1,_,7,_,_=>simp [vsN,putC]
   | 1,_,8,_,e=>exact absurd rfl e
   | 1,_,9,_,_=>simp [vsN,putC]
   | 1,_,10,_,_=>rfl
   | 2,_,0,_,_=>rfl
   | 2,_,1,_,_=>rfl
   | 2,_,2,_,_=>rfl
   | 2,_,3,_,_=>rfl
   | 2,_,4,_,_=>rfl
   | 2,_,5,_,_=>rfl
   | 2,_,6,_,_=>rfl
   | 2,_,7,_,_=>simp [vsN,putC]
   | 2,_,8,_,_=>simp [vsN,putC]
   | 2,_,9,_,e=>exact absurd rfl e
   | 2,_,10,_,_=>rfl
 have hsv:Save Op w1 (w1.setCell ⟨p,7+k,none⟩ (.pointer (some ⟨q,0,none⟩))):=(Save.refl Op w1).setCell (p:=⟨p,7+k,none⟩) (fun _=>p1'.2.1) _
 have hto:To (Cells p (vsN (k+1) b m (putC c k q) ws)) Op w1 (w1.setCell ⟨p,7+k,none⟩ (.pointer (some ⟨q,0,none⟩))):=
  ⟨Op,⟨fun j hj=>Nat.lt_of_lt_of_le (p1'.1 j hj) hsv.size,p1'.2.1,fun j=>by simpa [go_sem] using p1'.2.2.1 j,hc⟩,hsv,fun j hj=>.inl hj⟩
 obtain ⟨O2,b1,b2,b3⟩:=p3 _ _ (cells_stands p _) hto
 refine ⟨putC c k q,O2,?_,fun j hj=>?_⟩
 ·refine b1.same (fun i hi Q hq=>?_)
  match i,hi,hq with
  | 0,_,hq=>exact hq
  | 1,_,hq=>rw [putA_off _ _ (by omega)] at hq;exact hq
  | 2,_,hq=>rw [putA_off _ _ (by omega)] at hq;exact hq
  | s+3,_,hq=>rw [putA_off _ _ (by omega)] at hq;exact hq
 ·have hp:n0<=w.heap.size∨True:=.inr trivial
  rcases b3 j hj with (a | a) | a
  ·exact a2 j a
  ·have:=hn j a
   have hz:n0<=w.heap.size:=by
    obtain ⟨Q,q1,q2,_⟩:=a1.raw
    have h0:Cells p (vsN k b m c ws) (Q 0) w:=q1 0 (by omega)
    have:=a2 p (q2 0 (by omega) p h0.2.1)
    have:=h0.1 p h0.2.1
    omega
   omega
  ·have hz:n0<=w.heap.size:=by
    obtain ⟨Q,q1,q2,_⟩:=a1.raw
    have h0:Cells p (vsN k b m c ws) (Q 0) w:=q1 0 (by omega)
    have:=a2 p (q2 0 (by omega) p h0.2.1)
    have:=h0.1 p h0.2.1
    omega
   have:=hb.size
   omega
structure TLv (w0:World) (Z:Nat->Prop) (w:World) (p b m:Nat) (c:Nat->Nat) (ws:Nat->Int) (T:Twn):Prop where
 lv:Lv (TnIn p b m c ws T) w0 Z w
 full:Full ws T
 ok:∀s:Nat,s<3->newOk (s:Int) ws=true
end Go.Proofs.YtbgnajcmhmpjlacGreatDoor
