/- The contract of a market's deliver. -/
import Derived.Test.YtbgnajcmhmpjlacGreatDoorA6
import Derived.Test.YtbgnajcmhmpjlacGreatDoorA4
import Derived.Test.YtbgnajcmhmpjlacGreatDoorB2
import Derived.Test.YtbgnajcmhmpjlacGreatDoorA7
import Derived.Test.YtbgnajcmhmpjlacGreatDoorA8
import Derived.Test.YtbgnajcmhmpjlacGreatDoorB9
import Derived.Test.YtbgnajcmhmpjlacGreatDoorB3
set_option maxRecDepth 100000
set_option maxHeartbeats 100000000
namespace Go.Proofs.YtbgnajcmhmpjlacGreatDoor
open Go.RowKit
theorem MailIn.beside {O Ob:Nat->Prop} {w w1:World} {p o:Nat} {l:List Ml} (h:MailIn O w p o l) (hb:Save Ob w w1) (hn:∀k,O k->Ob k->k=p) (hc:w1.cell? ⟨p,o,none⟩=w.cell? ⟨p,o,none⟩) (hf:∀k,w1.frozen? ⟨p,k,none⟩=false):MailIn O w1 p o l:=by
 obtain ⟨mv,h1,h2,h3⟩:=h.raw
 refine ⟨fun k hk=>Nat.lt_of_lt_of_le (h.own k hk) hb.size,h.mine,hf,mv,hc.trans h1,own_save h2 hb (fun k hk hk'=>?_),h3⟩
 have e:=hn k (h3 k hk) hk'
 have:=(h2.lt k hk).1
 omega
theorem BokIn.beside {tD tW tI:TypeId} {O Ob:Nat->Prop} {w w1:World} {q o:Nat} {B:Bok} (h:BokIn tD tW tI O w q o B) (hb:Save Ob w w1) (hn:∀k,O k->Ob k->k=q) (hc:w1.cell? ⟨q,o,none⟩=w.cell? ⟨q,o,none⟩) (hc1:w1.cell? ⟨q,o+1,none⟩=w.cell? ⟨q,o+1,none⟩) (hf:∀k,w1.frozen? ⟨q,k,none⟩=false):BokIn tD tW tI O w1 q o B:=by
 obtain ⟨rv,ov,V,h1,h7⟩:=h.raw
 have out:∀{e s:Nat} {u:Value} {m:Nat} {xs:List Value},u∈rv :: ov :: V.flatMap DV.all->w.ownsRow (q+1) e s u m xs->w1.ownsRow (q+1) e s u m xs:=fun {e s u m xs} hu hr=>own_save hr hb (fun k hk hk'=>by
  have e:=hn k (h7 u hu k hk) hk'
  have:=(hr.lt k hk).1
  omega)
 refine ⟨fun k hk=>Nat.lt_of_lt_of_le (h.own k hk) hb.size,h.mine,hf,rv,ov,V,⟨h1.len,hc.trans h1.c0,hc1.trans h1.c1,out (by simp) h1.row,out (by simp) h1.ord,fun k D v hD hv=>?_,h1.apart⟩,h7⟩
 obtain ⟨a,b,c⟩:=h1.deal k D v hD hv
 obtain ⟨m1,m2,m3⟩:=mem_all hv
 exact ⟨out (by simp [m1]) a,out (by simp [m2]) b,out (by simp [m3]) c⟩
structure MktRaw (tD tW tI:TypeId) (OB OM:Nat->Prop) (OP:Nat->Nat->Prop) (q:Nat->Nat) (w:World) (p:Nat) (F:Nat->Int) (T:Twn):Prop where
 book:BokIn tD tW tI OB w p 0 T.B
 bag:MailIn OM w p 11 T.M
 fr:∀k,k<6->w.cell? ⟨p,2+k,none⟩=some (.int .i64 (F k))
 ptr:∀s,s<3->w.cell? ⟨p,8+s,none⟩=some (.pointer (some ⟨q s,0,none⟩))
 pen:∀s,s<3->PenIn (OP s) w (q s) (T.P s)
 two:∀k,OB k->OM k->k=p
 ap:∀s,s<3->∀k,OP s k->¬OB k∧¬OM k
 pp:∀s t,s<3->t<3->s ≠ t->∀k,OP s k->¬OP t k
structure MktIn (tD tW tI:TypeId) (O:Nat->Prop) (w:World) (p:Nat) (F:Nat->Int) (T:Twn):Prop where
 own:∀k,O k->k<w.heap.size
 mine:O p
 raw:∃OB OM OP q,MktRaw tD tW tI OB OM OP q w p F T∧(∀k,OB k->O k)∧(∀k,OM k->O k)∧∀s,s<3->∀k,OP s k->O k
def MktTo (tD tW tI:TypeId) (O:Nat->Prop) (w w':World) (p:Nat) (F:Nat->Int) (T':Twn):Prop:=∃O',MktIn tD tW tI O' w' p F T'∧Save O w w'∧Moved O O' w
theorem MktIn.lt {tD tW tI:TypeId} {O:Nat->Prop} {w:World} {p:Nat} {F:Nat->Int} {T:Twn} (h:MktIn tD tW tI O w p F T):p<w.heap.size:=h.own p h.mine
theorem MktIn.save {tD tW tI:TypeId} {O:Nat->Prop} {w w1:World} {p:Nat} {F:Nat->Int} {T:Twn} {O':Nat->Prop} (h:MktIn tD tW tI O w p F T) (hb:Save O' w w1) (hn:∀k,O k->¬O' k):MktIn tD tW tI O w1 p F T:=by
 obtain ⟨OB,OM,OP,q,r,hB,hM,hP⟩:=h.raw
 have hl:=h.lt
 have hc:∀j,w1.cell? ⟨p,j,none⟩=w.cell? ⟨p,j,none⟩:=fun j=>hb.cell (p:=⟨p,j,none⟩) hl (hn p h.mine)
 exact ⟨fun k hk=>Nat.lt_of_lt_of_le (h.own k hk) hb.size,h.mine,OB,OM,OP,q,⟨r.book.save hb (fun k hk=>hn k (hB k hk)),r.bag.save hb (fun k hk=>hn k (hM k hk)),fun k hk=>(hc _).trans (r.fr k hk),fun s hs=>(hc _).trans (r.ptr s hs),fun s hs=>(r.pen s hs).save hb (fun k hk=>hn k (hP s hs k hk)),r.two,r.ap,r.pp⟩,hB,hM,hP⟩
theorem MktIn.book {tD tW tI:TypeId} {O:Nat->Prop} {w:World} {p:Nat} {F:Nat->Int} {T:Twn} (h:MktIn tD tW tI O w p F T):∃OB,BokIn tD tW tI OB w p 0 T.B∧(∀k,OB k->O k)∧∀w' B',BokTo tD tW tI OB w w' p 0 B'->MktTo tD tW tI O w w' p F { T with B:=B' }:=by
 obtain ⟨OB,OM,OP,q,r,hB,hM,hP⟩:=h.raw
 refine ⟨OB,r.book,hB,fun w' B' ⟨OB',b1,b2,b3,b4⟩=>?_⟩
 have hl:=h.lt
 have hp:OB p:=r.book.mine
 refine ⟨fun k=>O k∨OB' k,⟨fun k hk=>hk.elim (fun q=>Nat.lt_of_lt_of_le (h.own k q) b2.size) (b1.own k),.inl h.mine,OB',OM,OP,q,⟨b1,r.bag.beside b2 (fun k a b=>r.two k b a) (b4 11 (by omega) (by omega)) b1.loose,fun k hk=>(b4 _ (by omega) (by omega)).trans (r.fr k hk),fun s hs=>(b4 _ (by omega) (by omega)).trans (r.ptr s hs),fun s hs=>(r.pen s hs).save b2 (fun k hk=>(r.ap s hs k hk).1),?_,?_,r.pp⟩,fun k hk=>.inr hk,fun k hk=>.inl (hM k hk),fun s hs k hk=>.inl (hP s hs k hk)⟩,b2.mono (fun j _ hj=>hB j hj),?_⟩
 ·intro k hk hm
  rcases b3 k hk with a | a
  ·exact r.two k a hm
  ·have:=r.bag.own k hm;omega
 ·intro s hs k hk
  refine ⟨fun hb=>?_,(r.ap s hs k hk).2⟩
  rcases b3 k hb with a | a
  ·exact (r.ap s hs k hk).1 a
  ·have:=(r.pen s hs).own k hk;omega
 ·intro k hk
  rcases hk with a | a
  ·exact .inl a
  ·exact (b3 k a).imp (hB k) id
theorem MktIn.bag {tD tW tI:TypeId} {O:Nat->Prop} {w:World} {p:Nat} {F:Nat->Int} {T:Twn} (h:MktIn tD tW tI O w p F T):∃OM,MailIn OM w p 11 T.M∧(∀k,OM k->O k)∧∀w' l',Sent OM w w' p 11 l'->MktTo tD tW tI O w w' p F { T with M:=l' }:=by
 obtain ⟨OB,OM,OP,q,r,hB,hM,hP⟩:=h.raw
 refine ⟨OM,r.bag,hM,fun w' l' ⟨OM',b1,b2,b3,b4⟩=>?_⟩
 have hl:=h.lt
 refine ⟨fun k=>O k∨OM' k,⟨fun k hk=>hk.elim (fun q=>Nat.lt_of_lt_of_le (h.own k q) b2.size) (b1.own k),.inl h.mine,OB,OM',OP,q,⟨r.book.beside b2 (fun k a b=>r.two k a b) (b4 0 (by omega)) (b4 1 (by omega)) b1.loose,b1,fun k hk=>(b4 _ (by omega)).trans (r.fr k hk),fun s hs=>(b4 _ (by omega)).trans (r.ptr s hs),fun s hs=>(r.pen s hs).save b2 (fun k hk=>(r.ap s hs k hk).2),?_,?_,r.pp⟩,fun k hk=>.inl (hB k hk),fun k hk=>.inr hk,fun s hs k hk=>.inl (hP s hs k hk)⟩,b2.mono (fun j _ hj=>hM j hj),?_⟩
 ·intro k hk hm
  rcases b3 k hm with a | a
  ·exact r.two k hk a
  ·have:=r.book.own k hk;omega
 ·intro s hs k hk
  refine ⟨(r.ap s hs k hk).1,fun hb=>?_⟩
  rcases b3 k hb with a | a
  ·exact (r.ap s hs k hk).2 a
  ·have:=(r.pen s hs).own k hk;omega
 ·intro k hk
  rcases hk with a | a
  ·exact .inl a
  ·exact (b3 k a).imp (hM k) id
theorem MktIn.pen {tD tW tI:TypeId} {O:Nat->Prop} {w:World} {p:Nat} {F:Nat->Int} {T:Twn} (h:MktIn tD tW tI O w p F T) {s:Nat} (hs:s<3):∃OP q,w.cell? ⟨p,8+s,none⟩=some (.pointer (some ⟨q,0,none⟩))∧PenIn OP w q (T.P s)∧(∀k,OP k->O k)∧¬OP p∧∀w' K',PenTo OP w w' q K'->MktTo tD tW tI O w w' p F { T with P:=updP T.P s K' }:=by
 obtain ⟨OB,OM,OP,q,r,hB,hM,hP⟩:=h.raw
 have hl:=h.lt
 have hnp:¬OP s p:=fun hh=>(r.ap s hs p hh).1 r.book.mine
 refine ⟨OP s,q s,r.ptr s hs,r.pen s hs,hP s hs,hnp,fun w' K' ⟨O1,b1,b2,b3⟩=>?_⟩
 have hc:∀j,w'.cell? ⟨p,j,none⟩=w.cell? ⟨p,j,none⟩:=fun j=>b2.cell (p:=⟨p,j,none⟩) hl hnp
 have off:∀k,O1 k->k<w.heap.size->OP s k:=fun k a b=>(b3 k a).elim id (fun q=>by omega)
 refine ⟨fun k=>O k∨O1 k,⟨fun k hk=>hk.elim (fun q=>Nat.lt_of_lt_of_le (h.own k q) b2.size) (b1.own k),.inl h.mine,OB,OM,putQ OP s O1,q,⟨r.book.save b2 (fun k a b=>(r.ap s hs k b).1 a),r.bag.save b2 (fun k a b=>(r.ap s hs k b).2 a),fun k hk=>(hc _).trans (r.fr k hk),fun j hj=>(hc _).trans (r.ptr j hj),?_,r.two,?_,?_⟩,fun k hk=>.inl (hB k hk),fun k hk=>.inl (hM k hk),?_⟩,b2.mono (fun j _ hj=>hP s hs j hj),?_⟩
 ·intro j hj
  by_cases e:j=s
  ·subst e
   show PenIn (putQ OP j O1 j) w' (q j) (updP T.P j K' j)
   rw [putQ_at,updP_same]
   exact b1
  ·show PenIn (putQ OP s O1 j) w' (q j) (updP T.P s K' j)
   rw [putQ_off _ _ e,updP_other _ _ _ e]
   exact (r.pen j hj).save b2 (fun k a b=>r.pp j s hj hs e k a b)
 ·intro j hj k hk
  by_cases e:j=s
  ·subst e
   rw [putQ_at] at hk
   exact ⟨fun a=>(r.ap j hs k (off k hk (r.book.own k a))).1 a,fun a=>(r.ap j hs k (off k hk (r.bag.own k a))).2 a⟩
  ·rw [putQ_off _ _ e] at hk
   exact r.ap j hj k hk
 ·intro i j hi hj hij k hk
  by_cases e:i=s
  ·subst e
   rw [putQ_at] at hk
   rw [putQ_off _ _ (fun a=>hij a.symm)]
   exact fun a=>r.pp i j hi hj hij k (off k hk ((r.pen j hj).own k a)) a
  ·rw [putQ_off _ _ e] at hk
   by_cases e':j=s
   ·subst e'
    rw [putQ_at]
    exact fun a=>r.pp i j hi hj hij k hk (off k a ((r.pen i hi).own k hk))
   ·rw [putQ_off _ _ e']
    exact r.pp i j hi hj hij k hk
 ·intro j hj k hk
  by_cases e:j=s
  ·subst e
   rw [putQ_at] at hk
   exact .inr hk
  ·rw [putQ_off _ _ e] at hk
   exact .inl (hP j hj k hk)
 ·intro k hk
  rcases hk with a | a
  ·exact .inl a
  ·exact (b3 k a).imp (hP s hs k) id
theorem mkt_stands (tD tW tI:TypeId) (p:Nat) (F:Nat->Int) (T:Twn):Stands (fun O w=>MktIn tD tW tI O w p F T):=⟨fun h=>h.own,fun h hb hn=>h.save hb hn⟩
theorem pen_again {O O2:Nat->Prop} {w w1:World} {s q2:Nat} {K:Kb} (h:PenIn O w s K) (hb:Below w.heap.size w w1) (hB:BoothIn O2 w1 q2 K.A) (hn:∀k,O2 k->w.heap.size<=k):PenTo O w (w1.setCell ⟨s,0,none⟩ (.pointer (some ⟨q2,0,none⟩))) s K:=by
 obtain ⟨Os,q,rv,h1,_,_,_,h5,h6⟩:=(h.next hb).raw
 have hl:=h.own s h.mine
 have hs:Save (fun k=>k=s) w1 (w1.setCell ⟨s,0,none⟩ (.pointer (some ⟨q2,0,none⟩))):=(Save.refl (fun k=>k=s) w1).setCell (p:=⟨s,0,none⟩) (fun _=>rfl) _
 have n2:∀k,k<w.heap.size->¬O2 k:=fun k hk hk'=>by have:=hn k hk';omega
 refine ⟨fun k=>O k∨O2 k,⟨fun k hk=>?_,.inl h.mine,O2,q2,rv,⟨by simpa using h1.lt,cell_set_same h1.c0,(cell_set_off (by omega)).trans h1.c1,by simpa [go_sem] using h1.loose⟩,hB.save hs (fun k hk e=>n2 k (by omega) hk),fun k hk=>.inr hk,n2 s hl,own_save h5 hs (fun k hk e=>by have:=(h5.lt k hk).1;omega),fun k hk=>⟨.inl (h6 k hk).1,n2 k (h.own k (h6 k hk).1)⟩⟩,((Save.of_below hb).trans hs (fun j _ e=>by rw [e];exact h.mine)),fun k hk=>hk.imp id (hn k)⟩
 rcases hk with hk | hk
 ·have:=h.own k hk
  have hz:=hb.size
  have hk':k<w1.heap.size:=by omega
  simpa using hk'
 ·have:=hB.own k hk
  simpa using this
theorem MktIn.vals {tD tW tI:TypeId} {O:Nat->Prop} {w:World} {p:Nat} {F:Nat->Int} {T:Twn} (h:MktIn tD tW tI O w p F T) {s:Nat} (hs:s<3):∃c q,w.cell? ⟨p,8+s,none⟩=some (.pointer (some ⟨c,0,none⟩))∧w.cell? ⟨c,0,none⟩=some (.pointer (some ⟨q,0,none⟩))∧w.cell? ⟨q,1,none⟩=some (.int .i64 (valT T (s * 2)))∧w.cell? ⟨q,2,none⟩=some (.int .i64 (valT T (s * 2+1))):=by
 obtain ⟨_,_,_,c,r,_⟩:=h.raw
 obtain ⟨_,q,_,k1,k2,_⟩:=(r.pen s hs).raw
 obtain ⟨_,_,_,b,_⟩:=k2.raw
 refine ⟨c s,q,r.ptr s hs,k1.c0,?_,?_⟩
 ·rw [b.c1]
  unfold valT
  rw [show s * 2 / 2=s by omega,show s * 2 % 2=0 by omega]
  rfl
 ·rw [b.c2]
  unfold valT
  rw [show (s * 2+1) / 2=s by omega,show (s * 2+1) % 2=1 by omega]
  rfl
theorem MktIn.fr {tD tW tI:TypeId} {O:Nat->Prop} {w:World} {p:Nat} {F:Nat->Int} {T:Twn} (h:MktIn tD tW tI O w p F T) {k:Nat} (hk:k<6):w.cell? ⟨p,2+k,none⟩=some (.int .i64 (F k)):=by
 obtain ⟨_,_,_,_,r,_⟩:=h.raw
 exact r.fr k hk
structure MktPre (Q:Nat->Nat->Prop) (q:Nat->Nat) (w:World) (n0 p:Nat) (F ws:Nat->Int) (k:Nat):Prop where
 ge:n0<=p
 lt:p<w.heap.size
 loose:∀j,w.frozen? ⟨p,j,none⟩=false
 c0:w.cell? ⟨p,0,none⟩=some (.slice none 0 0)
 c1:w.cell? ⟨p,1,none⟩=some (.slice none 0 0)
 fr:∀j,j<6->w.cell? ⟨p,2+j,none⟩=some (.int .i64 (F j))
 here:∀s,s<3->(w.cell? ⟨p,8+s,none⟩).isSome=true
 c11:w.cell? ⟨p,11,none⟩=some (.slice none 0 0)
 ptr:∀s,s<k->w.cell? ⟨p,8+s,none⟩=some (.pointer (some ⟨q s,0,none⟩))
 pen:∀s,s<k->PenIn (Q s) w (q s) ⟨book0 (s:Int) ws,[]⟩
 new:∀s,s<k->∀j,Q s j->n0<=j∧j ≠ p
 ap:∀s t,s<k->t<k->s ≠ t->∀j,Q s j->¬Q t j
def MktNew (w:World) (n0 p:Nat) (F ws:Nat->Int) (k:Nat):Prop:=∃Q q,MktPre Q q w n0 p F ws k
theorem MktNew.next {w w1:World} {n0 p:Nat} {F ws:Nat->Int} {k:Nat} (h:MktNew w n0 p F ws k) (hb:Below w.heap.size w w1):MktNew w1 n0 p F ws k:=by
 obtain ⟨Q,q,r⟩:=h
 have hc:∀j,w1.cell? ⟨p,j,none⟩=w.cell? ⟨p,j,none⟩:=fun j=>hb.cell (p:=⟨p,j,none⟩) r.lt
 exact ⟨Q,q,r.ge,Nat.lt_of_lt_of_le r.lt hb.size,fun j=>((Save.of_below (O:=fun _=>False) hb).frozen (p:=⟨p,j,none⟩) r.lt (fun z=>z)).trans (r.loose j),(hc _).trans r.c0,(hc _).trans r.c1,fun j hj=>(hc _).trans (r.fr j hj),fun s hs=>by rw [hc];exact r.here s hs,(hc _).trans r.c11,fun s hs=>(hc _).trans (r.ptr s hs),fun s hs=>(r.pen s hs).next hb,r.new,r.ap⟩
theorem MktNew.pen {w w1:World} {n0 p q1:Nat} {F ws:Nat->Int} {k:Nat} {O1:Nat->Prop} (h:MktNew w n0 p F ws k) (hk:k<3) (hb:Below w.heap.size w w1) (h1:PenIn O1 w1 q1 ⟨book0 (k:Int) ws,[]⟩) (hn:∀j,O1 j->w.heap.size<=j):MktNew (w1.setCell ⟨p,8+k,none⟩ (.pointer (some ⟨q1,0,none⟩))) n0 p F ws (k+1):=by
 have hold:=h
 obtain ⟨Q0,q0,r0⟩:=h
 have lt0:∀s,s<k->∀j,Q0 s j->j<w.heap.size:=fun s hs=>(r0.pen s hs).own
 have r:MktPre Q0 q0 w1 n0 p F ws k:=by
  have hc:∀j,w1.cell? ⟨p,j,none⟩=w.cell? ⟨p,j,none⟩:=fun j=>hb.cell (p:=⟨p,j,none⟩) r0.lt
  exact ⟨r0.ge,Nat.lt_of_lt_of_le r0.lt hb.size,fun j=>((Save.of_below (O:=fun _=>False) hb).frozen (p:=⟨p,j,none⟩) r0.lt (fun z=>z)).trans (r0.loose j),(hc _).trans r0.c0,(hc _).trans r0.c1,fun j hj=>(hc _).trans (r0.fr j hj),fun s hs=>by rw [hc];exact r0.here s hs,(hc _).trans r0.c11,fun s hs=>(hc _).trans (r0.ptr s hs),fun s hs=>(r0.pen s hs).next hb,r0.new,r0.ap⟩
 clear hold
 have hS:Save (fun j=>j=p) w1 (w1.setCell ⟨p,8+k,none⟩ (.pointer (some ⟨q1,0,none⟩))):=(Save.refl (fun j=>j=p) w1).setCell (p:=⟨p,8+k,none⟩) (fun _=>rfl) _
 have np:¬O1 p:=fun hp=>by have:=hn p hp;have:=r0.lt;omega
 obtain ⟨v,hv⟩:=Option.isSome_iff_exists.1 (r.here k hk)
 refine ⟨putQ Q0 k O1,fun s=>if s=k then q1 else q0 s,r.ge,by simpa using r.lt,by simpa [go_sem] using r.loose,(cell_set_off (by omega)).trans r.c0,(cell_set_off (by omega)).trans r.c1,fun j hj=>(cell_set_off (by omega)).trans (r.fr j hj),fun s hs=>?_,(cell_set_off (by omega)).trans r.c11,fun s hs=>?_,fun s hs=>?_,fun s hs j hj=>?_,fun s t hs ht hst j hj=>?_⟩
 ·by_cases e:s=k
  ·subst e;rw [cell_set_same hv];rfl
  ·rw [cell_set_off (by omega)];exact r.here s hs
 ·by_cases e:s=k
  ·subst e
   rw [if_pos rfl]
   exact cell_set_same hv
  ·rw [if_neg e]
   exact (cell_set_off (by omega)).trans (r.ptr s (by omega))
 ·by_cases e:s=k
  ·subst e
   rw [putQ_at,if_pos rfl]
   exact h1.save hS (fun j hj e=>np (e ▸ hj))
  ·rw [putQ_off _ _ e,if_neg e]
   exact (r.pen s (by omega)).save hS (fun j hj e=>(r.new s (by omega) j hj).2 e)
 ·by_cases e:s=k
  ·subst e
   rw [putQ_at] at hj
   have:=hn j hj
   have:=r0.lt
   have:=r0.ge
   exact ⟨by omega,by omega⟩
  ·rw [putQ_off _ _ e] at hj
   exact r.new s (by omega) j hj
 ·by_cases e:s=k
  ·subst e
   rw [putQ_at] at hj
   rw [putQ_off _ _ (fun a=>hst a.symm)]
   intro a
   have:=lt0 t (by omega) j a
   have:=hn j hj
   omega
  ·rw [putQ_off _ _ e] at hj
   by_cases e':t=k
   ·subst e'
    rw [putQ_at]
    intro a
    have:=lt0 s (by omega) j hj
    have:=hn j a
    omega
   ·rw [putQ_off _ _ e']
    exact r.ap s t (by omega) (by omega) hst j hj
theorem MktNew.done {tD tW tI:TypeId} {w:World} {n0 p:Nat} {F ws:Nat->Int} (h:MktNew w n0 p F ws 3):∃O,MktIn tD tW tI O w p F ⟨⟨[],[]⟩,fun s=>⟨book0 (s:Int) ws,[]⟩,[]⟩∧∀j,O j->n0<=j:=by
 obtain ⟨Q,q,r⟩:=h
 refine ⟨fun j=>j=p∨∃s,s<3∧Q s j,⟨fun j hj=>?_,.inl rfl,fun j=>j=p,fun j=>j=p,Q,q,⟨⟨fun j hj=>by rw [hj];exact r.lt,rfl,r.loose,.slice none 0 0,.slice none 0 0,[],⟨rfl,r.c0,r.c1,World.ownsRow_nil _ _ _ _,World.ownsRow_nil _ _ _ _,fun k D v hk=>by simp at hk,?_⟩,?_⟩,⟨fun j hj=>by rw [hj];exact r.lt,rfl,r.loose,.slice none 0 0,r.c11,World.ownsRow_nil _ _ _ _,fun k hk=>by simp [Value.ownBlock] at hk⟩,r.fr,r.ptr,r.pen,fun j hj _=>hj,fun s hs j hj=>⟨(r.new s hs j hj).2,(r.new s hs j hj).2⟩,fun s t hs ht hst=>r.ap s t hs ht hst⟩,fun j hj=>.inl hj,fun j hj=>.inl hj,fun s hs j hj=>.inr ⟨s,hs,hj⟩⟩,fun j hj=>?_⟩
 ·rcases hj with rfl | ⟨s,hs,hj⟩
  ·exact r.lt
  ·exact (r.pen s hs).own j hj
 ·unfold ApartV
  simp [Value.ownBlock]
 ·intro u hu k hk
  simp only [List.flatMap_nil,List.mem_cons,List.not_mem_nil,or_false,or_self] at hu
  rw [hu] at hk
  simp [Value.ownBlock] at hk
 ·rcases hj with rfl | ⟨s,hs,hj⟩
  ·exact r.ge
  ·exact (r.new s hs j hj).1
def MkIn (p:Nat) (ws:Nat->Int) (T:Twn) (O:Nat->Prop) (w:World):Prop:=MktIn 151 97 3 O w p ws T
theorem mk_stands (p:Nat) (ws:Nat->Int) (T:Twn):Stands (MkIn p ws T):=mkt_stands 151 97 3 p ws T
theorem MkIn.own {p:Nat} {ws:Nat->Int} {T:Twn} {O:Nat->Prop} {w:World} (h:MkIn p ws T O w):∀k,O k->k<w.heap.size:=(mk_stands p ws T).own h
theorem MkIn.next {p:Nat} {ws:Nat->Int} {T:Twn} {O:Nat->Prop} {w w1:World} (h:MkIn p ws T O w) (hb:Below w.heap.size w w1):MkIn p ws T O w1:=(mk_stands p ws T).next h hb
theorem MkIn.lt {p:Nat} {ws:Nat->Int} {T:Twn} {O:Nat->Prop} {w:World} (h:MkIn p ws T O w):p<w.heap.size:=MktIn.lt h
theorem MkIn.book {p:Nat} {ws:Nat->Int} {T:Twn} {O:Nat->Prop} {w:World} (h:MkIn p ws T O w):∃OB,BokIn 151 97 3 OB w p 0 T.B∧(∀k,OB k->O k)∧∀(w':World) (B':Bok),BokTo 151 97 3 OB w w' p 0 B'->To (MkIn p ws { T with B:=B' }) O w w':=MktIn.book h
theorem MkIn.bag {p:Nat} {ws:Nat->Int} {T:Twn} {O:Nat->Prop} {w:World} (h:MkIn p ws T O w):∃OM,MailIn OM w p 11 T.M∧(∀k,OM k->O k)∧∀(w':World) (l':List Ml),Sent OM w w' p 11 l'->To (MkIn p ws { T with M:=l' }) O w w':=MktIn.bag h
theorem MkIn.pen {p:Nat} {ws:Nat->Int} {T:Twn} {O:Nat->Prop} {w:World} (h:MkIn p ws T O w) {s:Nat} (hs:s<3):∃OP q,w.cell? ⟨p,8+s,none⟩=some (.pointer (some ⟨q,0,none⟩))∧PenIn OP w q (T.P s)∧(∀k,OP k->O k)∧¬OP p∧∀(w':World) (K':Kb),PenTo OP w w' q K'->To (MkIn p ws { T with P:=updP T.P s K' }) O w w':=MktIn.pen h hs
theorem gsend_mk {O:Nat->Prop} {p:Nat} {ws:Nat->Int} {T:Twn} (x:Ml) {w:World} (h:MkIn p ws T O w) (hl:T.M.length<=40):
 Calls Tryz.prog 93 #[.pointer (some ⟨p,11,none⟩),.agg #[.int .i64 x.kind,.int .i64 x.deal,.int .i64 x.shop,.int .i64 x.c,.int .i64 x.d,.bool x.yes]] w fun e w'=>e=.returned (.bool (sendR T.M x).1)∧To (MkIn p ws { T with M:=(sendR T.M x).2 }) O w w':=by
 obtain ⟨Om,hM,_,hS⟩:=h.bag
 exact (gsend_any Om T.M p 11 x w hM (by omega)).mono (fun e w' q=>⟨q.1,hS w' _ q.2⟩)
theorem qhear_mk {O:Nat->Prop} {p:Nat} {ws:Nat->Int} {T:Twn} (x:Ml) {w:World} (h:MkIn p ws T O w) (hI:BInv T.B):
 Calls Tryz.prog 94 #[.pointer (some ⟨p,0,none⟩),.agg #[.int .i64 x.kind,.int .i64 x.deal,.int .i64 x.shop,.int .i64 x.c,.int .i64 x.d,.bool x.yes]] w fun e w'=>e=.returned (.tuple #[])∧To (MkIn p ws { T with B:=hearR T.B x }) O w w':=by
 obtain ⟨Ob,hB,_,hS⟩:=h.book
 exact (qhear_any Ob T.B p x w hB hI).mono (fun e w' q=>⟨q.1,hS w' _ q.2⟩)
theorem qdue_mk {O:Nat->Prop} {p:Nat} {ws:Nat->Int} {T:Twn} {w:World} (h:MkIn p ws T O w) (hI:BInv T.B):
 Calls Tryz.prog 44 #[.pointer (some ⟨p,0,none⟩)] w fun e w'=>(∃ga cap,e=.returned (.slice ga (dueR T.B).length cap)∧MailsAt w' ga (dueR T.B)∧∀a,ga=some a->¬O a.block∧w.heap.size<=a.block∧a.block<w'.heap.size)∧Below w.heap.size w w':=by
 obtain ⟨Ob,hB,_,_⟩:=h.book
 refine (qdue_any Ob T.B p w hB hI).mono ?_
 rintro e w' ⟨⟨v,he,hv⟩,hb⟩
 have hsl:=hv
 obtain ⟨ga,cap,rfl,hM,_⟩:=mails_of_own hv
 refine ⟨⟨ga,cap,he,hM,fun a ha=>?_⟩,hb⟩
 subst ha
 obtain ⟨q1,q2⟩:=hsl.lt a.block rfl
 exact ⟨fun q=>by have:=h.own _ q;omega,q1,q2⟩
theorem mtick_any {O:Nat->Prop} {p:Nat} {ws:Nat->Int} {T:Twn} {w:World} (h:MkIn p ws T O w) (hI:BInv T.B) (hM:T.M.length<=40):
 Calls Tryz.prog 59 #[.pointer (some ⟨p,0,none⟩)] w fun e w'=>e=.returned (.tuple #[])∧To (MkIn p ws (tickR T)) O w w':=by
 have HI:=hid h
 have HM:=hid hM
 have HD:=hid (qdue_mk h hI)
 have HN:Hid ((dueR T.B).length<=32):=due_room hI
 have HE:Hid (tickR T={ T with M:=sendAll T.M (dueR T.B) }):=rfl
 clear h hI hM
 go_enter Tryz.func59,Tryz.ntmps59
 go_wp2_with fail
 refine Calls.mono HD.out ?_
 rintro e w0 ⟨⟨ga,cap,rfl,hl,hga⟩,hb0⟩
 have HL:=hid hl
 have HGa:=hid hga
 have HI0:=hid (HI.out.next hb0)
 have HB0:=hid hb0
 generalize dueR T.B=l at *
 clear hl hga hb0 HD
 go_wp2_with fail
 go_loopg [3] l.length (fun g s3 wr=>∃k:Nat,k<=l.length∧g=l.length - k∧s3=.int .i64 k∧Hid (To (MkIn p ws { T with M:=sendAll T.M (l.take k) }) O w0 wr))
 case atStart=>exact ⟨0,Nat.zero_le _,rfl,rfl,To.stay (mk_stands ..) HI0.out (Below.refl _ _)⟩
 case round=>
 obtain ⟨k,hk,rfl,rfl,HT⟩:=hrel
 by_cases hlt:k<l.length
 case neg=>
  have j1:¬(k:Int)<(l.length:Int):=by omega
  have hE:l.take k=l:=List.take_of_length_le (by omega)
  rw [hE] at HT
  clear hE hk
  go_wp2_with fail
  exact bodyPost_end (v:=.tuple #[]) (by simp [results,Tryz.results59,go_sem]) rfl ⟨rfl,by rw [HE.out];exact HT.out.behind HB0.out⟩
 obtain ⟨x,hx⟩:∃x,l[k]?=some x:=⟨_,List.getElem?_eq_getElem hlt⟩
 obtain ⟨O1,h1,h2,h3⟩:=HT.out
 have HKn:Hid (k<l.length):=hlt
 obtain ⟨bg,og,rfl,hbg,hcell⟩:=HL.out k x hx
 have hno:=HGa.out _ rfl
 have HE2:Hid (sendAll T.M (l.take (k+1))=(sendR (sendAll T.M (l.take k)) x).2):=by
  show _=_
  rw [take_snoc hx,sendAll_snoc]
 have hlen:(sendAll T.M (l.take k)).length<=40:=all_len HM.out
 have hbl:bg<wr.heap.size:=Nat.lt_of_lt_of_le hbg h2.size
 have hc:∀j,wr.cell? ⟨bg,j,none⟩=w0.cell? ⟨bg,j,none⟩:=fun j=>h2.cell (p:=⟨bg,j,none⟩) hbg hno.1
 have HQ:Hid (∀w',Save O1 wr w'->w'.cell? ⟨bg,og+k * 6,none⟩=some (.int .i64 x.kind)∧w'.cell? ⟨bg,og+k * 6+1,none⟩=some (.int .i64 x.deal)∧w'.cell? ⟨bg,og+k * 6+2,none⟩=some (.int .i64 x.shop)∧w'.cell? ⟨bg,og+k * 6+3,none⟩=some (.int .i64 x.c)∧w'.cell? ⟨bg,og+k * 6+4,none⟩=some (.int .i64 x.d)∧w'.cell? ⟨bg,og+k * 6+5,none⟩=some (.bool x.yes)):=fun w' hs=>by
  have hn1:¬O1 bg:=fun q=>(h3 bg q).elim hno.1 (fun z=>by omega)
  have q:∀o,w'.cell? ⟨bg,o,none⟩=w0.cell? ⟨bg,o,none⟩:=fun o=>(hs.cell (p:=⟨bg,o,none⟩) hbl hn1).trans (hc o)
  exact ⟨(q _).trans (hcell 0 _ rfl),(q _).trans (hcell 1 _ rfl),(q _).trans (hcell 2 _ rfl),(q _).trans (hcell 3 _ rfl),(q _).trans (hcell 4 _ rfl),(q _).trans (hcell 5 _ rfl)⟩
 have j0:(0:Int)<=(k:Int):=by omega
 have j1:(k:Int)<(l.length:Int):=by omega
 have j2:(l.length:Int)<=32:=by have:=HN.out;omega
 have HI1:Hid (MkIn p ws { T with M:=sendAll T.M (l.take k) } O1 wr):=h1
 have HS2:Hid (Save O w0 wr∧Moved O O1 w0):=⟨h2,h3⟩
 have HLen:=hid hlen
 clear h1 h2 h3 hc hcell hno hx hk hlt hlen hbl hbg
 generalize sendAll T.M (l.take k)=M1 at *
 have HS:Hid (∀W,Below wr.heap.size wr W->Calls Tryz.prog 93 #[.pointer (some ⟨p,11,none⟩),.agg #[.int .i64 x.kind,.int .i64 x.deal,.int .i64 x.shop,.int .i64 x.c,.int .i64 x.d,.bool x.yes]] W fun e w'=>e=.returned (.bool (sendR M1 x).1)∧To (MkIn p ws { T with M:=(sendR M1 x).2 }) O1 W w'):=fun W hW=>gsend_mk x (HI1.out.next hW) HLen.out
 go_upto_region 4 with fail
 go_region_held3 (fun w'=>w'.cell? ⟨bg,og+k * 6,none⟩=some (.int .i64 x.kind)∧w'.cell? ⟨bg,og+k * 6+1,none⟩=some (.int .i64 x.deal)∧w'.cell? ⟨bg,og+k * 6+2,none⟩=some (.int .i64 x.shop)∧w'.cell? ⟨bg,og+k * 6+3,none⟩=some (.int .i64 x.c)∧w'.cell? ⟨bg,og+k * 6+4,none⟩=some (.int .i64 x.d)∧w'.cell? ⟨bg,og+k * 6+5,none⟩=some (.bool x.yes))
  (first | exact HQ.out _ HT9.out.save | exact HQ.out _ (.of_below (by go_grown)))
  (first | (go_at_call 93;refine Calls.mono (HS.out _ (by go_grown)) ?_;rintro e w9 ⟨rfl,hT9⟩;have HT9:Hid (To (MkIn p ws { T with M:=(sendR M1 x).2 }) O1 wr w9):=hT9.behind (by go_grown);clear hT9))
 all_goals
  go_wp2_with fail
  go_roundg (l.length - (k+1))
  case measure=>have:=HKn.out;omega
  case rel=>exact ⟨k+1,HKn.out,rfl,by simp,by rw [HE2.out];exact To.comp HS2.out.1 HS2.out.2 HT9.out⟩
def CutR (p:Nat) (ws:Nat->Int) (T:Twn) (O2:Nat->Prop) (w3:World) (y:Ml) (nb:Nat) (wx:World):Prop:=∃O3,MBx wx nb y∧MkIn p ws T O3 wx∧Save O2 w3 wx∧Moved O2 O3 w3∧¬O3 nb
theorem cut_after {p:Nat} {ws:Nat->Int} {T:Twn} {O2:Nat->Prop} {w3 w9:World} {y:Ml} (h:To (MkIn p ws T) O2 w3 w9):CutR p ws T O2 w3 y w9.heap.size (w9.alloc (.cells #[.int .i64 y.kind,.int .i64 y.deal,.int .i64 y.shop,.int .i64 y.c,.int .i64 y.d,.bool y.yes] 142)):=by
 obtain ⟨O3,h3,hS3,hM3⟩:=h
 have hb:Below w9.heap.size w9 (w9.alloc (.cells #[.int .i64 y.kind,.int .i64 y.deal,.int .i64 y.shop,.int .i64 y.c,.int .i64 y.d,.bool y.yes] 142)):=(Below.refl _ _).alloc (Nat.le_refl _) _
 exact ⟨O3,MBx.new w9 y,h3.next hb,hS3.next hb,hM3,fun q=>by have:=h3.own _ q;omega⟩
theorem cut_before {p:Nat} {ws:Nat->Int} {T:Twn} {O2:Nat->Prop} {w3 w9 W:World} {y:Ml} {t:TypeId} (h:To (MkIn p ws T) O2 W w9) (hW:Below (w3.alloc (.cells #[.int .i64 0,.int .i64 0,.int .i64 0,.int .i64 0,.int .i64 0,.bool false] t)).heap.size (w3.alloc (.cells #[.int .i64 0,.int .i64 0,.int .i64 0,.int .i64 0,.int .i64 0,.bool false] t)) W) (hO:∀k,O2 k->k<w3.heap.size):CutR p ws T O2 w3 y w3.heap.size ((((((w9.setCell ⟨w3.heap.size,0,none⟩ (.int .i64 y.kind)).setCell ⟨w3.heap.size,1,none⟩ (.int .i64 y.deal)).setCell ⟨w3.heap.size,2,none⟩ (.int .i64 y.shop)).setCell ⟨w3.heap.size,3,none⟩ (.int .i64 y.c)).setCell ⟨w3.heap.size,4,none⟩ (.int .i64 y.d)).setCell ⟨w3.heap.size,5,none⟩ (.bool y.yes)):=by
 obtain ⟨O3,h3,hS3,hM3⟩:=h
 have hz:=hW.size
 simp at hz
 have hn2:¬O2 w3.heap.size:=fun q=>by have:=hO _ q;omega
 have hn3:¬O3 w3.heap.size:=fun q=>(hM3 _ q).elim hn2 (fun z=>by omega)
 have ec:∀o,w9.cell? ⟨w3.heap.size,o,none⟩=(w3.alloc (.cells #[.int .i64 0,.int .i64 0,.int .i64 0,.int .i64 0,.int .i64 0,.bool false] t)).cell? ⟨w3.heap.size,o,none⟩:=fun o=>(hS3.cell (p:=⟨w3.heap.size,o,none⟩) (show w3.heap.size<W.heap.size by omega) hn2).trans (hW.cell (p:=⟨w3.heap.size,o,none⟩) (by simp))
 have hs9:w3.heap.size<w9.heap.size:=by have:=hS3.size;omega
 have hsv:Save (fun j=>j=w3.heap.size) w9 ((((((w9.setCell ⟨w3.heap.size,0,none⟩ (.int .i64 y.kind)).setCell ⟨w3.heap.size,1,none⟩ (.int .i64 y.deal)).setCell ⟨w3.heap.size,2,none⟩ (.int .i64 y.shop)).setCell ⟨w3.heap.size,3,none⟩ (.int .i64 y.c)).setCell ⟨w3.heap.size,4,none⟩ (.int .i64 y.d)).setCell ⟨w3.heap.size,5,none⟩ (.bool y.yes)):=((((((Save.refl (fun j=>j=w3.heap.size) w9).setCell (p:=⟨w3.heap.size,0,none⟩) (fun _=>rfl) _).setCell (p:=⟨w3.heap.size,1,none⟩) (fun _=>rfl) _).setCell (p:=⟨w3.heap.size,2,none⟩) (fun _=>rfl) _).setCell (p:=⟨w3.heap.size,3,none⟩) (fun _=>rfl) _).setCell (p:=⟨w3.heap.size,4,none⟩) (fun _=>rfl) _).setCell (p:=⟨w3.heap.size,5,none⟩) (fun _=>rfl) _
 refine ⟨O3,⟨by simpa using hs9,?_,?_,?_,?_,?_,?_⟩,(mk_stands p ws T).save h3 hsv (fun k hk e=>hn3 (by rw [<-e];exact hk)),?_,fun k hk=>?_,hn3⟩
 ·simp [go_sem,ec]
 ·simp [go_sem,ec]
 ·simp [go_sem,ec]
 ·simp [go_sem,ec]
 ·simp [go_sem,ec]
 ·simp [go_sem,ec]
 ·have a1:Save O2 w3 w9:=((Save.of_below ((Below.refl _ _).alloc (Nat.le_refl _) _)).next hW).trans hS3 (fun _ _ q=>q)
  exact a1.trans hsv (fun j hj e=>by omega)
 ·rcases hM3 k hk with z | z
  ·exact .inl z
  ·exact .inr (by omega)
theorem mdeliver_any {O:Nat->Prop} {p:Nat} {ws:Nat->Int} {T:Twn} (n:Int) {w:World} (h:MkIn p ws T O w) (hR:Rdy ws T):
 Calls Tryz.prog 60 #[.pointer (some ⟨p,0,none⟩),.int .i64 n] w fun e w'=>e=.returned (.int .i64 (delivR T n).1)∧To (MkIn p ws (delivR T n).2) O w w':=by
 have HC:Hid (Calls Tryz.prog 61 #[.pointer (some ⟨p,11,none⟩),.int .i64 n] w fun e w'=>e=.returned (.tuple #[mlV (takeR T.M n).1,.bool (takeR T.M n).2.1])∧To (MkIn p ws { T with M:=(takeR T.M n).2.2 }) O w w'):=by
  obtain ⟨Om,hM,_,hS⟩:=h.bag
  exact (gtake_any Om T.M p 11 n w hM (by have:=hR.ml;omega)).mono (fun e w' q=>⟨q.1,hS w' _ q.2⟩)
 cases hok:(takeR T.M n).2.1 with
 | false=>
   rw [deliv_no hok]
   rw [hok,take_no hok] at HC
   generalize (takeR T.M n).1=x at HC
   clear h hR hok
   go_enter Tryz.func60,Tryz.ntmps60
   go_wp2_with fail
   refine Calls.mono HC.out ?_
   rintro e w1 ⟨rfl,hT⟩
   have HT:=hid hT
   clear hT
   simp only [mlV]
   go_wp2_with fail
   go_ret
   exact ⟨rfl,HT.out.next (mk_stands ..) (by go_grown)⟩
 | true=>
   rw [deliv_yes hok]
   rw [hok] at HC
   have HR:Hid (Rdy ws { T with M:=(takeR T.M n).2.2 }):=hR.less (take_len _ _ hR.ml)
   generalize (takeR T.M n).1=x at HC ⊢
   generalize (takeR T.M n).2.2=M1 at HC HR ⊢
   generalize hT1:({ T with M:=M1 }:Twn)=T1 at HC HR ⊢
   clear h hR hok hT1
   go_enter Tryz.func60,Tryz.ntmps60
   go_wp2_with fail
   refine Calls.mono HC.out ?_
   rintro e w1 ⟨rfl,hT⟩
   obtain ⟨O2,h2,hS2,hM2⟩:=hT
   have HI2:=hid h2
   have HS2:Hid (Save O w w1∧Moved O O2 w):=⟨hS2,hM2⟩
   clear h2 hS2 hM2 HC
   simp only [mlV]
   go_upto_region 4 with fail
   have hb3:Below w1.heap.size w1 (w1.alloc (.cells #[.int .i64 x.kind,.int .i64 x.deal,.int .i64 x.shop,.int .i64 x.c,.int .i64 x.d,.bool x.yes] 142)):=(Below.refl _ _).alloc (Nat.le_refl _) _
   have hX:=MBx.new w1 x
   have HI3:Hid (MkIn p ws T1 O2 (w1.alloc (.cells #[.int .i64 x.kind,.int .i64 x.deal,.int .i64 x.shop,.int .i64 x.c,.int .i64 x.d,.bool x.yes] 142))):=HI2.out.next hb3
   have HNo:Hid (¬O2 w1.heap.size):=fun q=>by have:=HI2.out.own _ q;omega
   have HB3:Hid (Below w1.heap.size w1 (w1.alloc (.cells #[.int .i64 x.kind,.int .i64 x.deal,.int .i64 x.shop,.int .i64 x.c,.int .i64 x.d,.bool x.yes] 142))):=hb3
   generalize (w1.alloc (.cells #[.int .i64 x.kind,.int .i64 x.deal,.int .i64 x.shop,.int .i64 x.c,.int .i64 x.d,.bool x.yes] 142))=w3 at hb3 hX HI3 HB3 ⊢
   generalize w1.heap.size=bx at hX HNo ⊢
   clear hb3
   have x0:=hX.c0
   have HX:Hid (MBx w3 bx x):=hX
   have HBL:Hid (∀w',Below w3.heap.size w3 w'->w'.cell? ⟨bx,0,none⟩=some (.int .i64 x.kind)∧w'.cell? ⟨bx,1,none⟩=some (.int .i64 x.deal)∧w'.cell? ⟨bx,2,none⟩=some (.int .i64 x.shop)∧w'.cell? ⟨bx,3,none⟩=some (.int .i64 x.c)∧w'.cell? ⟨bx,4,none⟩=some (.int .i64 x.d)∧w'.cell? ⟨bx,5,none⟩=some (.bool x.yes)):=fun w' hb=>⟨(HX.out.next hb).c0,(HX.out.next hb).c1,(HX.out.next hb).c2,(HX.out.next hb).c3,(HX.out.next hb).c4,(HX.out.next hb).c5⟩
   have HBS:Hid (∀w',Save O2 w3 w'->w'.cell? ⟨bx,0,none⟩=some (.int .i64 x.kind)∧w'.cell? ⟨bx,1,none⟩=some (.int .i64 x.deal)∧w'.cell? ⟨bx,2,none⟩=some (.int .i64 x.shop)∧w'.cell? ⟨bx,3,none⟩=some (.int .i64 x.c)∧w'.cell? ⟨bx,4,none⟩=some (.int .i64 x.d)∧w'.cell? ⟨bx,5,none⟩=some (.bool x.yes)):=fun w' hs=>by
    have q:=HX.out.save hs HNo.out
    exact ⟨q.c0,q.c1,q.c2,q.c3,q.c4,q.c5⟩
   by_cases hk:x.kind=2∨x.kind=4
   ·have HE:=hid (come_hear (T:=T1) hk)
    have HS:Hid (∀W,Below w3.heap.size w3 W->Calls Tryz.prog 94 #[.pointer (some ⟨p,0,none⟩),.agg #[.int .i64 x.kind,.int .i64 x.deal,.int .i64 x.shop,.int .i64 x.c,.int .i64 x.d,.bool x.yes]] W fun e w'=>e=.returned (.tuple #[])∧To (MkIn p ws { T1 with B:=hearR T1.B x }) O2 W w'):=fun W hW=>qhear_mk x (HI3.out.next hW) HR.out.brk
    by_cases hk2:x.kind=2
    ·have hk2':(x.kind == 2)=true:=by simp [hk2]
     clear hX hk hk2
     go_upto_region 5 with fail
     clear x0
     go_region_held3 (fun w'=>w'.cell? ⟨bx,0,none⟩=some (.int .i64 x.kind)∧w'.cell? ⟨bx,1,none⟩=some (.int .i64 x.deal)∧w'.cell? ⟨bx,2,none⟩=some (.int .i64 x.shop)∧w'.cell? ⟨bx,3,none⟩=some (.int .i64 x.c)∧w'.cell? ⟨bx,4,none⟩=some (.int .i64 x.d)∧w'.cell? ⟨bx,5,none⟩=some (.bool x.yes))
      (first | exact HBS.out _ HT9.out.save | exact HBL.out _ (by go_grown))
      (first | (go_at_call 94;refine Calls.mono (HS.out _ (by go_grown)) ?_;rintro e w9 ⟨rfl,hT9⟩;have HT9:Hid (To (MkIn p ws { T1 with B:=hearR T1.B x }) O2 w3 w9):=hT9.behind (by go_grown);clear hT9))
     all_goals
      go_wp2_with fail
      go_ret
      exact ⟨rfl,by rw [HE.out];exact To.comp HS2.out.1 HS2.out.2 (HT9.out.behind HB3.out)⟩
    ·have hk2':(x.kind == 2)=false:=by simpa using hk2
     have hk4':(x.kind == 4)=true:=by rcases hk with q | q;exact absurd q hk2;simp [q]
     clear hX hk hk2
     go_upto_region 5 with fail
     clear x0
     go_region_held3 (fun w'=>w'.cell? ⟨bx,0,none⟩=some (.int .i64 x.kind)∧w'.cell? ⟨bx,1,none⟩=some (.int .i64 x.deal)∧w'.cell? ⟨bx,2,none⟩=some (.int .i64 x.shop)∧w'.cell? ⟨bx,3,none⟩=some (.int .i64 x.c)∧w'.cell? ⟨bx,4,none⟩=some (.int .i64 x.d)∧w'.cell? ⟨bx,5,none⟩=some (.bool x.yes))
      (first | exact HBS.out _ HT9.out.save | exact HBL.out _ (by go_grown))
      (first | (go_at_call 94;refine Calls.mono (HS.out _ (by go_grown)) ?_;rintro e w9 ⟨rfl,hT9⟩;have HT9:Hid (To (MkIn p ws { T1 with B:=hearR T1.B x }) O2 w3 w9):=hT9.behind (by go_grown);clear hT9))
     all_goals
      go_wp2_with fail
      go_ret
      exact ⟨rfl,by rw [HE.out];exact To.comp HS2.out.1 HS2.out.2 (HT9.out.behind HB3.out)⟩
   ·have HE:=hid (come_ans (T:=T1) hk)
    have hk2':(x.kind == 2)=false:=by simpa using fun q=>hk (.inl q)
    have hk4':(x.kind == 4)=false:=by simpa using fun q=>hk (.inr q)
    have x2:=hX.c2
    clear hk
    by_cases hn:0<=x.shop∧x.shop<3
    case neg=>
     have hEn:ansT T1 x=T1:=by unfold ansT;rw [if_neg hn]
     have HEn:=hid hEn
     by_cases h0:x.shop<0
     ·have h0':¬0<=x.shop:=by omega
      clear hn hEn hX
      go_wp2_with fail
      go_ret
      exact ⟨rfl,by rw [HE.out,HEn.out];exact To.comp HS2.out.1 HS2.out.2 ((To.stay (mk_stands ..) HI3.out (Below.refl _ _)).behind HB3.out)⟩
     ·have h0':0<=x.shop:=by omega
      have h3':¬x.shop<3:=by omega
      clear hn hEn hX h0
      go_wp2_with fail
      go_ret
      exact ⟨rfl,by rw [HE.out,HEn.out];exact To.comp HS2.out.1 HS2.out.2 ((To.stay (mk_stands ..) HI3.out (Below.refl _ _)).behind HB3.out)⟩
    obtain ⟨kd,dl,sh,cc,dd,yy⟩:=x
    dsimp only at *
    obtain ⟨s,rfl⟩:∃s:Nat,sh=(s:Int):=⟨sh.toNat,by omega⟩
    have hs:s<3:=by omega
    have hEa:=ansT_at (T:=T1) (x:=⟨kd,dl,(s:Int),cc,dd,yy⟩) rfl hs
    have s0:0<=(s:Int):=hn.1
    have s3:(s:Int)<3:=hn.2
    obtain ⟨OP0,q,hq0,_⟩:=HI3.out.pen hs
    have hpl:=HI3.out.lt
    have HA:Hid (∀W,Below w3.heap.size w3 W->Calls Tryz.prog 95 #[.pointer (some ⟨q,0,none⟩),.agg #[.int .i64 kd,.int .i64 dl,.int .i64 (s:Int),.int .i64 cc,.int .i64 dd,.bool yy]] W fun e w'=>e=.returned (ansV (ansR (s:Int) (T1.P s) ⟨kd,dl,(s:Int),cc,dd,yy⟩))∧To (MkIn p ws { T1 with P:=updP T1.P s (ansR (s:Int) (T1.P s) ⟨kd,dl,(s:Int),cc,dd,yy⟩).2.2 }) O2 W w'∧w'.cell? ⟨p,8+s,none⟩=some (.pointer (some ⟨q,0,none⟩))):=fun W hW=>by
     obtain ⟨OP,q',hq',hP,hsub,hnp,hS⟩:=(HI3.out.next hW).pen hs
     have e1:W.cell? ⟨p,8+s,none⟩=some (.pointer (some ⟨q,0,none⟩)):=((bcell hW).1 _ _ hpl).trans hq0
     rw [e1] at hq'
     have e2:q=q':=by simpa using hq'
     subst e2
     obtain ⟨_,g1,no,g2,g3,g4⟩:=HR.out.shop s hs
     have z:=pans_any OP (T1.P s) q ⟨kd,dl,(s:Int),cc,dd,yy⟩ W hP g1 (by omega) (by omega) (by omega)
     rw [no] at z
     exact z.mono (fun e w' r=>⟨r.1,hS w' _ r.2,(r.2.choose_spec.2.1.cell (p:=⟨p,8+s,none⟩) (Nat.lt_of_lt_of_le hpl hW.size) hnp).trans e1⟩)
    have HK:Hid (∀w',Below w3.heap.size w3 w'->w'.cell? ⟨p,8+s,none⟩=some (.pointer (some ⟨q,0,none⟩))∧w'.cell? ⟨bx,0,none⟩=some (.int .i64 kd)∧w'.cell? ⟨bx,1,none⟩=some (.int .i64 dl)∧w'.cell? ⟨bx,2,none⟩=some (.int .i64 (s:Int))∧w'.cell? ⟨bx,3,none⟩=some (.int .i64 cc)∧w'.cell? ⟨bx,4,none⟩=some (.int .i64 dd)∧w'.cell? ⟨bx,5,none⟩=some (.bool yy)):=fun w' hb=>⟨((bcell hb).1 _ _ hpl).trans hq0,HBL.out w' hb⟩
    have HML:Hid (T1.M.length<=40):=HR.out.ml
    have HEE:Hid (comeR T1 ⟨kd,dl,(s:Int),cc,dd,yy⟩={ T1 with P:=updP T1.P s (ansR (s:Int) (T1.P s) ⟨kd,dl,(s:Int),cc,dd,yy⟩).2.2,M:=if (ansR (s:Int) (T1.P s) ⟨kd,dl,(s:Int),cc,dd,yy⟩).2.1=true then (sendR T1.M (ansR (s:Int) (T1.P s) ⟨kd,dl,(s:Int),cc,dd,yy⟩).1).2 else T1.M }):=HE.out.trans hEa
    have HPL:Hid (p<w3.heap.size∧bx<w3.heap.size):=⟨hpl,HX.out.lt⟩
    clear hn hEa hs hX HE HBL HX
    generalize ansR (s:Int) (T1.P s) ⟨kd,dl,(s:Int),cc,dd,yy⟩=r at HA HEE
    obtain ⟨y,ok,K'⟩:=r
    simp only [ansV,mlV] at HA
    dsimp only at HEE
    go_upto_region 8 with fail
    clear x0 x2
    go_cut [7,8] (fun s7 s8 wx=>∃nb,s7=.pointer (some ⟨nb,0,none⟩)∧s8=.bool ok∧CutR p ws { T1 with P:=updP T1.P s K' } O2 w3 y nb wx)
    case first=>
     have HNw:Hid (¬O2 w3.heap.size):=fun z=>by have:=HI3.out.own _ z;omega
     clear HEE HML hq0 hpl
     go_region_held3 (fun w'=>w'.cell? ⟨p,8+s,none⟩=some (.pointer (some ⟨q,0,none⟩))∧w'.cell? ⟨bx,0,none⟩=some (.int .i64 kd)∧w'.cell? ⟨bx,1,none⟩=some (.int .i64 dl)∧w'.cell? ⟨bx,2,none⟩=some (.int .i64 (s:Int))∧w'.cell? ⟨bx,3,none⟩=some (.int .i64 cc)∧w'.cell? ⟨bx,4,none⟩=some (.int .i64 dd)∧w'.cell? ⟨bx,5,none⟩=some (.bool yy))
      (first | exact HKr.out _ (by go_grown) | exact HK.out _ (by go_grown))
      (first | (go_at_call 95;refine Calls.mono (HA.out _ (by go_grown)) ?_;rintro e w9 ⟨rfl,hT9,hp9⟩;have HT0:=hid hT9;have HT9:Hid (To (MkIn p ws { T1 with P:=updP T1.P s K' }) O2 w3 w9):=hT9.behind (by go_grown);have HKr:Hid (∀w',Below w3.heap.size w9 w'->w'.cell? ⟨p,8+s,none⟩=some (.pointer (some ⟨q,0,none⟩))∧w'.cell? ⟨bx,0,none⟩=some (.int .i64 kd)∧w'.cell? ⟨bx,1,none⟩=some (.int .i64 dl)∧w'.cell? ⟨bx,2,none⟩=some (.int .i64 (s:Int))∧w'.cell? ⟨bx,3,none⟩=some (.int .i64 cc)∧w'.cell? ⟨bx,4,none⟩=some (.int .i64 dd)∧w'.cell? ⟨bx,5,none⟩=some (.bool yy)):=(fun w' hb=>by obtain ⟨f0,f1,f2,f3,f4,f5⟩:=HBS.out _ HT9.out.save;exact ⟨(hb.cell (p:=⟨p,8+s,none⟩) HPL.out.1).trans hp9,(hb.cell (p:=⟨bx,0,none⟩) HPL.out.2).trans f0,(hb.cell (p:=⟨bx,1,none⟩) HPL.out.2).trans f1,(hb.cell (p:=⟨bx,2,none⟩) HPL.out.2).trans f2,(hb.cell (p:=⟨bx,3,none⟩) HPL.out.2).trans f3,(hb.cell (p:=⟨bx,4,none⟩) HPL.out.2).trans f4,(hb.cell (p:=⟨bx,5,none⟩) HPL.out.2).trans f5⟩);have hz9:w3.heap.size<=w9.heap.size:=HT9.out.save.size;(try (have ec:∀o,w9.cell? ⟨w3.heap.size,o,none⟩=_:=fun o=>HT0.out.save.cell (p:=⟨w3.heap.size,o,none⟩) (by simp) HNw.out;have ef:∀o,w9.frozen? ⟨w3.heap.size,o,none⟩=_:=fun o=>HT0.out.save.frozen (p:=⟨w3.heap.size,o,none⟩) (by simp) HNw.out;have hy9:=HT0.out.save.size;simp at hy9;have:w3.heap.size<w9.heap.size:=by omega));clear hT9 hp9))
     all_goals
      go_wp2_with fail
      go_meet
      case rel=>
       refine ⟨_,rfl,rfl,?_⟩
       first
        | (with_reducible exact cut_after HT9.out)
        | (with_reducible exact cut_before HT0.out ((Below.refl _ _).drew) HI3.out.own)
    case rest=>
    obtain ⟨nb,rfl,rfl,O3,hY,h4,hS4,hM4,hno⟩:=hcut
    have HI4:=hid h4
    have HS4:Hid (Save O2 w3 wc∧Moved O2 O3 w3):=⟨hS4,hM4⟩
    have HNb:=hid hno
    have HY:=hid hY
    clear hY h4 hS4 hM4 hno HA HK hq0 HBS
    have HFin:Hid (∀(T3:Twn) (wf:World),To (MkIn p ws T3) O3 wc wf->To (MkIn p ws T3) O w wf):=fun T3 wf hz=>To.comp HS2.out.1 HS2.out.2 ((To.comp HS4.out.1 HS4.out.2 hz).behind HB3.out)
    cases ok with
    | false=>
      go_wp2_with fail
      go_ret
      exact ⟨rfl,by rw [HEE.out];exact HFin.out _ _ (To.stay (mk_stands ..) HI4.out (Below.refl _ _))⟩
    | true=>
      have HS:Hid (∀W,Below wc.heap.size wc W->Calls Tryz.prog 93 #[.pointer (some ⟨p,11,none⟩),.agg #[.int .i64 y.kind,.int .i64 y.deal,.int .i64 y.shop,.int .i64 y.c,.int .i64 y.d,.bool y.yes]] W fun e w'=>e=.returned (.bool (sendR T1.M y).1)∧To (MkIn p ws { T1 with P:=updP T1.P s K',M:=(sendR T1.M y).2 }) O3 W w'):=fun W hW=>gsend_mk y (HI4.out.next hW) HML.out
      have HKl:Hid (∀w',Below wc.heap.size wc w'->w'.cell? ⟨nb,0,none⟩=some (.int .i64 y.kind)∧w'.cell? ⟨nb,1,none⟩=some (.int .i64 y.deal)∧w'.cell? ⟨nb,2,none⟩=some (.int .i64 y.shop)∧w'.cell? ⟨nb,3,none⟩=some (.int .i64 y.c)∧w'.cell? ⟨nb,4,none⟩=some (.int .i64 y.d)∧w'.cell? ⟨nb,5,none⟩=some (.bool y.yes)):=fun w' hb=>⟨(HY.out.next hb).c0,(HY.out.next hb).c1,(HY.out.next hb).c2,(HY.out.next hb).c3,(HY.out.next hb).c4,(HY.out.next hb).c5⟩
      have HKs:Hid (∀w',Save O3 wc w'->w'.cell? ⟨nb,0,none⟩=some (.int .i64 y.kind)∧w'.cell? ⟨nb,1,none⟩=some (.int .i64 y.deal)∧w'.cell? ⟨nb,2,none⟩=some (.int .i64 y.shop)∧w'.cell? ⟨nb,3,none⟩=some (.int .i64 y.c)∧w'.cell? ⟨nb,4,none⟩=some (.int .i64 y.d)∧w'.cell? ⟨nb,5,none⟩=some (.bool y.yes)):=fun w' hs=>by
       have q:=HY.out.save hs HNb.out
       exact ⟨q.c0,q.c1,q.c2,q.c3,q.c4,q.c5⟩
      go_upto_region 10 with fail
      go_region_held3 (fun w'=>w'.cell? ⟨nb,0,none⟩=some (.int .i64 y.kind)∧w'.cell? ⟨nb,1,none⟩=some (.int .i64 y.deal)∧w'.cell? ⟨nb,2,none⟩=some (.int .i64 y.shop)∧w'.cell? ⟨nb,3,none⟩=some (.int .i64 y.c)∧w'.cell? ⟨nb,4,none⟩=some (.int .i64 y.d)∧w'.cell? ⟨nb,5,none⟩=some (.bool y.yes))
       (first | exact HKs.out _ HT8.out.save | exact HKl.out _ (by go_grown))
       (first | (go_at_call 93;refine Calls.mono (HS.out _ (by go_grown)) ?_;rintro e w8 ⟨rfl,hT8⟩;have HT8:Hid (To (MkIn p ws { T1 with P:=updP T1.P s K',M:=(sendR T1.M y).2 }) O3 wc w8):=hT8.behind (by go_grown);clear hT8))
      all_goals
       go_wp2_with fail
       go_ret
       exact ⟨rfl,by rw [HEE.out];exact HFin.out _ _ HT8.out⟩
end Go.Proofs.YtbgnajcmhmpjlacGreatDoor
