/- A post, and a post and a bag beside each other, made since a world: their steps; and postBegun. -/
import Derived.BigQuiet
import Derived.Deep.RegionLaw
import Derived.Laws.OwnMore
import Derived.Deep.RegionHeld3
import Derived.Test.YtbgnajcmhmpjlacGreatDoorA0
import Derived.Test.YtbgnajcmhmpjlacGreatDoorS0
set_option maxRecDepth 100000
set_option maxHeartbeats 100000000
namespace Go.Proofs.YtbgnajcmhmpjlacGreatDoor
open Go.RowKit
structure Ml where
 kind:Int
 deal:Int
 shop:Int
 c:Int
 d:Int
 yes:Bool
def Ml.cells (x:Ml):List Value:=[.int .i64 x.kind,.int .i64 x.deal,.int .i64 x.shop,.int .i64 x.c,.int .i64 x.d,.bool x.yes]
def noMl:Ml:=⟨0,0,0,0,0,false⟩
def rnd (n:Int) (k:Nat):Nat:=(n % 18446744073709551616).toNat % k
theorem rnd_lt (n:Int) {k:Nat} (h:0<k):rnd n k<k:=Nat.mod_lt _ h
def sendR (l:List Ml) (m:Ml):Bool × List Ml:=if 40<=l.length then (false,l) else (true,l++[m])
def takeR (l:List Ml) (n:Int):Ml × Bool × List Ml:=match l[rnd n l.length]? with
 | some m=>(m,true,l.eraseIdx (rnd n l.length))
 | none=>(noMl,false,l)
def dblR (l:List Ml) (n:Int):Bool × List Ml:=match l[rnd n l.length]? with
 | some m=>sendR l m
 | none=>(false,l)
theorem takeR_nil (n:Int):takeR [] n=(noMl,false,[]):=rfl
theorem dblR_nil (n:Int):dblR [] n=(false,[]):=rfl
theorem rnd_some {l:List Ml} (n:Int) (h:l ≠ []):∃m,l[rnd n l.length]?=some m:=
 ⟨_,List.getElem?_eq_getElem (rnd_lt n (List.length_pos_iff.2 h))⟩
theorem takeR_some {l:List Ml} {n:Int} {m:Ml} (h:l[rnd n l.length]?=some m):takeR l n=(m,true,l.eraseIdx (rnd n l.length)):=by unfold takeR;rw [h]
theorem dblR_some {l:List Ml} {n:Int} {m:Ml} (h:l[rnd n l.length]?=some m):dblR l n=sendR l m:=by unfold dblR;rw [h]
theorem erase_split (l:List Ml) (k:Nat):l.eraseIdx k=l.take k++l.drop (k+1):=List.eraseIdx_eq_take_drop_succ l k
theorem sendR_len (l:List Ml) (m:Ml) (h:l.length<=40):(sendR l m).2.length<=40:=by
 unfold sendR
 split
 ·exact h
 ·simp;omega
theorem dblR_len (l:List Ml) (n:Int) (h:l.length<=40):(dblR l n).2.length<=40:=by
 unfold dblR
 split
 ·exact sendR_len l _ h
 ·exact h
theorem takeR_len (l:List Ml) (n:Int) (h:l.length<=40):(takeR l n).2.2.length<=40:=by
 unfold takeR
 split
 ·have:=List.length_eraseIdx_le l (rnd n l.length)
  show (l.eraseIdx (rnd n l.length)).length<=40
  omega
 ·exact h
def MailsAt (w:World) (la:Option Addr) (l:List Ml):Prop:=∀k x,l[k]?=some x->∃b off,la=some ⟨b,off,none⟩∧b<w.heap.size∧∀j v,x.cells[j]?=some v->w.cell? ⟨b,off+k * 6+j,none⟩=some v
def flat6 (l:List Ml):List Value:=l.flatMap Ml.cells
theorem flat6_length (l:List Ml):(flat6 l).length=l.length * 6:=by
 unfold flat6
 induction l with
 | nil=>rfl
 | cons x r ih=>rw [List.flatMap_cons,List.length_append,ih];simp [Ml.cells];omega
theorem flat6_append (l m:List Ml):flat6 (l++m)=flat6 l++flat6 m:=by unfold flat6;simp
theorem flat6_snoc (l:List Ml) (x:Ml):flat6 (l++[x])=flat6 l++x.cells:=by unfold flat6;simp
theorem flat6_at (l:List Ml):∀k x,l[k]?=some x->∀j v,x.cells[j]?=some v->(flat6 l)[k * 6+j]?=some v:=by
 intro k x h j v hj
 have hk:=(List.getElem?_eq_some_iff.1 h).1
 have hj6:j<6:=(List.getElem?_eq_some_iff.1 hj).1
 have e:l=l.take k++x :: l.drop (k+1):=by rw [<-drop_cons h,List.take_append_drop]
 have hl:(flat6 (l.take k)).length=k * 6:=by rw [flat6_length,List.length_take,Nat.min_eq_left (by omega)]
 have e2:flat6 l=flat6 (l.take k)++(x.cells++flat6 (l.drop (k+1))):=by
  conv=>lhs;rw [e]
  rw [flat6_append]
  rfl
 rw [e2,List.getElem?_append_right (by omega),hl,show k * 6+j - k * 6=j by omega,List.getElem?_append_left (by simpa [Ml.cells] using hj6)]
 exact hj
theorem flat6_one (l:List Ml):∀u∈flat6 l,u.oneCell'=true:=by
 intro u hu
 unfold flat6 at hu
 rw [List.mem_flatMap] at hu
 obtain ⟨x,_,hx⟩:=hu
 simp only [Ml.cells,List.mem_cons,List.not_mem_nil,or_false] at hx
 rcases hx with rfl | rfl | rfl | rfl | rfl | rfl <;> rfl
theorem mails_of_own {w:World} {B e n:Nat} {v:Value} {l:List Ml} (h:w.ownsRow B e 6 v n (flat6 l)):∃ga cap,v=.slice ga n cap∧MailsAt w ga l∧l.length=n:=by
 have hn:l.length=n:=by have:=h.1;rw [flat6_length] at this;omega
 rcases h.2 with ⟨e1,e0⟩ | ⟨g,cap,cur,e1,hb,hg,hc,hm,hz,ht⟩
 ·refine ⟨none,0,by rw [e1,e0],?_,hn⟩
  intro k x hk
  have:=(List.getElem?_eq_some_iff.1 hk).1
  omega
 ·refine ⟨_,cap,e1,fun k x hk=>⟨g,0,rfl,(Array.getElem?_eq_some_iff.1 hg).1,fun j u hj=>?_⟩,hn⟩
  have hk':=(List.getElem?_eq_some_iff.1 hk).1
  have hj6:j<6:=(List.getElem?_eq_some_iff.1 hj).1
  have hu:=flat6_at l k x hk j u hj
  have h1:(cur.toList.take (n * 6))[k * 6+j]?=(flat6 l)[k * 6+j]?:=by rw [ht]
  rw [List.getElem?_take_of_lt (by omega),hu] at h1
  simp only [World.cell?,hg]
  simpa using h1
structure MailIn (O:Nat->Prop) (w:World) (p o:Nat) (l:List Ml):Prop where
 own:∀k,O k->k<w.heap.size
 mine:O p
 loose:∀k,w.frozen? ⟨p,k,none⟩=false
 raw:∃mv,w.cell? ⟨p,o,none⟩=some mv∧w.ownsRow (p+1) 142 6 mv l.length (flat6 l)∧∀k,mv.ownBlock=some k->O k
def Rest (p o:Nat) (w w':World):Prop:=∀j,j ≠ o->w'.cell? ⟨p,j,none⟩=w.cell? ⟨p,j,none⟩
theorem Rest.trans {p o:Nat} {a b c:World} (h:Rest p o a b) (k:Rest p o b c):Rest p o a c:=fun j hj=>(k j hj).trans (h j hj)
theorem Rest.below {p o:Nat} {a b:World} (h:Below a.heap.size a b) (hp:p<a.heap.size):Rest p o a b:=fun j _=>h.cell (p:=⟨p,j,none⟩) hp
theorem Rest.set {p o:Nat} (a:World) (u:Value):Rest p o a (a.setCell ⟨p,o,none⟩ u):=fun _ hj=>cell_set_off hj
theorem Rest.grown {p o:Nat} {a b:World} {row:Option Nat} (h:a.grownBy b row) (hp:p<a.heap.size) (hn:some p ≠ row):Rest p o a b:=fun _ _=>World.cell?_of_block (h.block p hp hn)
theorem MailIn.lt {O:Nat->Prop} {w:World} {p o:Nat} {l:List Ml} (h:MailIn O w p o l):p<w.heap.size:=h.own p h.mine
theorem MailIn.save {O O':Nat->Prop} {w w1:World} {p o:Nat} {l:List Ml} (h:MailIn O w p o l) (hb:Save O' w w1) (hn:∀k,O k->¬O' k):MailIn O w1 p o l:=by
 obtain ⟨mv,h1,h2,h3⟩:=h.raw
 have hl:=h.lt
 exact ⟨fun k hk=>Nat.lt_of_lt_of_le (h.own k hk) hb.size,h.mine,fun k=>(hb.frozen (p:=⟨p,k,none⟩) hl (hn p h.mine)).trans (h.loose k),mv,(hb.cell (p:=⟨p,o,none⟩) hl (hn p h.mine)).trans h1,own_save h2 hb (fun k hk=>hn k (h3 k hk)),h3⟩
theorem MailIn.next {O:Nat->Prop} {w w1:World} {p o:Nat} {l:List Ml} (h:MailIn O w p o l) (hb:Below w.heap.size w w1):MailIn O w1 p o l:=
 h.save (O':=fun _=>False) (.of_below hb) (fun _ _ q=>q)
def Sent (O:Nat->Prop) (w w':World) (p o:Nat) (l':List Ml):Prop:=∃O',MailIn O' w' p o l'∧Save O w w'∧Moved O O' w∧Rest p o w w'
theorem Sent.stay {O:Nat->Prop} {w w':World} {p o:Nat} {l:List Ml} (h:MailIn O w p o l) (hb:Below w.heap.size w w'):Sent O w w' p o l:=⟨O,h.next hb,.of_below hb,.refl _ _,.below hb h.lt⟩
theorem Sent.behind {O:Nat->Prop} {w w1 w':World} {p o:Nat} {l l':List Ml} (h:MailIn O w p o l) (hb:Below w.heap.size w w1) (hs:Sent O w1 w' p o l'):Sent O w w' p o l':=by
 obtain ⟨O',h1,h2,h3,h4⟩:=hs
 exact ⟨O',h1,(Save.of_below hb).trans h2 (fun _ _ hj=>hj),fun k hk=>(h3 k hk).imp id (fun q=>Nat.le_trans hb.size q),(Rest.below hb h.lt).trans h4⟩
theorem sent_store {O:Nat->Prop} {w w8:World} {p o:Nat} {l':List Ml} {mv v8:Value} (hO:∀k,O k->k<w.heap.size) (hm:O p) (hS:Save O w w8) (hR:Rest p o w w8) (hf:∀k,w8.frozen? ⟨p,k,none⟩=false) (hc:w8.cell? ⟨p,o,none⟩=some mv) (hrow:w8.ownsRow (p+1) 142 6 v8 l'.length (flat6 l')) (hw:∀k,v8.ownBlock=some k->O k∨w.heap.size<=k):Sent O w (w8.setCell ⟨p,o,none⟩ v8) p o l':=by
 refine ⟨fun k=>O k∨v8.ownBlock=some k,⟨fun k hk=>?_,.inl hm,by simpa [go_sem] using hf,v8,cell_set_same hc,ownsRow_setCell_below hrow (Nat.lt_succ_self p) _,fun k hk=>.inr hk⟩,hS.setCell (p:=⟨p,o,none⟩) (fun _=>hm) _,fun k hk=>hk.elim .inl (hw k),hR.trans (Rest.set _ _)⟩
 show k<(w8.setCell _ _).heap.size
 rw [show (w8.setCell (⟨p,o,none⟩:Addr) v8).heap.size=w8.heap.size by simp]
 rcases hk with hk | hk
 ·exact Nat.lt_of_lt_of_le (hO k hk) hS.size
 ·exact (hrow.lt k hk).2
def mlV (m:Ml):Value:=.agg #[.int .i64 m.kind,.int .i64 m.deal,.int .i64 m.shop,.int .i64 m.c,.int .i64 m.d,.bool m.yes]
theorem infoMail:(Tryz.prog.info? 142).map (fun i=>(i.zero,i.size,i.bytes))=some (some (.agg #[.int .i64 0,.int .i64 0,.int .i64 0,.int .i64 0,.int .i64 0,.bool false]),6,48):=by kernel_rfl
theorem mail_lies {W:World} {H:Nat} {a b c d e f:Value} (h0:W.cell? ⟨H,0,none⟩=some a) (h1:W.cell? ⟨H,1,none⟩=some b) (h2:W.cell? ⟨H,2,none⟩=some c) (h3:W.cell? ⟨H,3,none⟩=some d) (h4:W.cell? ⟨H,4,none⟩=some e) (h5:W.cell? ⟨H,5,none⟩=some f):∀j u,[a,b,c,d,e,f][j]?=some u->W.cell? ((⟨H,0,none⟩:Addr).add j)=some u:=by
 intro j u hj
 match j,hj with
 | 0,hj=>simp at hj;subst hj;simpa [Addr.add] using h0
 | 1,hj=>simp at hj;subst hj;simpa [Addr.add] using h1
 | 2,hj=>simp at hj;subst hj;simpa [Addr.add] using h2
 | 3,hj=>simp at hj;subst hj;simpa [Addr.add] using h3
 | 4,hj=>simp at hj;subst hj;simpa [Addr.add] using h4
 | 5,hj=>simp at hj;subst hj;simpa [Addr.add] using h5
 | j+6,hj=>simp at hj
theorem mail_cell {a b c d e:Int} {f:Bool}:∀u∈[Value.int .i64 a,.int .i64 b,.int .i64 c,.int .i64 d,.int .i64 e,.bool f],u.oneCell'=true:=by
 intro u hu
 simp only [List.mem_cons,List.not_mem_nil,or_false] at hu
 rcases hu with rfl | rfl | rfl | rfl | rfl | rfl <;> rfl
theorem pnew_any (w:World):Calls Tryz.prog 21 #[] w fun e w'=>(∃p O,e=.returned (.pointer (some ⟨p,0,none⟩))∧MailIn O w' p 0 []∧∀k,O k->w.heap.size<=k)∧Below w.heap.size w w':=by
 go_enter Tryz.func21,Tryz.ntmps21
 go_wp2_with fail
 go_ret
 refine ⟨⟨w.heap.size,fun k=>k=w.heap.size,rfl,⟨fun k hk=>by rw [hk];simp,rfl,by simp [go_sem],.slice none 0 0,by simp [go_sem],World.ownsRow_nil _ _ _ _,fun k e=>by simp [Value.ownBlock] at e⟩,fun k hk=>by rw [hk];exact Nat.le_refl _⟩,by go_grown⟩
theorem plen_any (O:Nat->Prop) (l:List Ml) (p o:Nat) (w:World) (h:MailIn O w p o l):Calls Tryz.prog 160 #[.pointer (some ⟨p,o,none⟩)] w fun e w'=>e=.returned (.int .i64 (l.length:Int))∧Below w.heap.size w w':=by
 obtain ⟨mv,c0,hrow,_⟩:=h.raw
 obtain ⟨ga,cap,rfl,_,_⟩:=mails_of_own hrow
 clear h hrow
 go_enter Tryz.func160,Tryz.ntmps160
 go_wp2_with fail
 go_ret
 exact ⟨rfl,Below.refl _ _⟩
theorem plist_own (O:Nat->Prop) (l:List Ml) (p o:Nat) (w:World) (h:MailIn O w p o l) (hlen:l.length<1000):
 Calls Tryz.prog 112 #[.pointer (some ⟨p,o,none⟩)] w fun e w'=>(∃v,e=.returned v∧w'.ownsRow w.heap.size 142 6 v l.length (flat6 l))∧Below w.heap.size w w':=by
 obtain ⟨i0,hi,hz0,hz1,hz2⟩:=info_parts infoMail
 obtain ⟨mv,g0,hrow,_⟩:=h.raw
 have HRow:Hid (w.ownsRow (p+1) 142 6 mv l.length (flat6 l)):=hrow
 have HLen:Hid (l.length<1000):=hlen
 clear h hrow hlen
 rcases HRow.out.2 with ⟨rfl,e0⟩ | ⟨g,cap,cur,rfl,_⟩
 ·have:l=[]:=List.length_eq_zero_iff.1 e0
  subst this
  clear HRow e0
  go_enter Tryz.func112,Tryz.ntmps112
  go_wp2_with fail
  go_ret
  exact ⟨⟨.slice none 0 0,rfl,World.ownsRow_nil _ _ _ _⟩,Below.refl _ _⟩
 ·obtain ⟨_,_,_,_,hcell⟩:=own_row HRow.out
  have HC:Hid _:=hcell
  clear hcell
  have HL:Hid _:=flat6_length l
  go_enter Tryz.func112,Tryz.ntmps112
  go_wp2_with (at_builtin;refine wpList_append_own _ rfl (.const (.slice none 0 0)) (.tmp 6) 71 rfl w.heap.size 142 i0 (.agg #[.int .i64 0,.int .i64 0,.int .i64 0,.int .i64 0,.int .i64 0,.bool false]) 6 48 Tryz.underlying71 hi hz0 hz1 hz2 rfl (by decide) (.slice none 0 0) 0 [] rfl (World.ownsRow_nil _ _ _ _) ⟨g,0,none⟩ l.length cap (flat6 l) rfl HL.out (fun j u hj=>by rw [addr_add];exact HC.out j u hj) (flat6_one l) (by have:=HLen.out;unfold maxLen;omega) (by have:=HLen.out;omega) (Nat.le_refl _) ?_;intro v7 w7 hown7 hgrow7 _)
  have hown8:w7.ownsRow w.heap.size 142 6 v7 l.length (flat6 l):=by simpa using hown7
  go_ret
  exact ⟨⟨v7,rfl,hown8⟩,(Below.refl _ _).grown hgrow7 (Nat.le_refl _) (fun k e=>by simp [Value.ownBlock] at e)⟩
theorem plist_any (O:Nat->Prop) (l:List Ml) (p o:Nat) (w:World) (h:MailIn O w p o l) (hlen:l.length<1000):
 Calls Tryz.prog 112 #[.pointer (some ⟨p,o,none⟩)] w fun e w'=>(∃ga cap,e=.returned (.slice ga l.length cap)∧MailsAt w' ga l∧(∀a,ga=some a->w.heap.size<=a.block∧a.block<w'.heap.size)∧l.length<=cap)∧Below w.heap.size w w':=by
 refine (plist_own O l p o w h hlen).mono ?_
 rintro e w' ⟨⟨v,rfl,hown⟩,hb⟩
 obtain ⟨ga,cap,rfl,hA,_⟩:=mails_of_own hown
 refine ⟨⟨ga,cap,rfl,hA,fun a e=>?_,own_cap hown⟩,hb⟩
 subst e
 exact hown.lt a.block rfl
theorem sendR_full {l:List Ml} {m:Ml} (h:40<=l.length):sendR l m=(false,l):=by unfold sendR;rw [if_pos h]
theorem sendR_room {l:List Ml} {m:Ml} (h:¬40<=l.length):sendR l m=(true,l++[m]):=by unfold sendR;rw [if_neg h]
theorem own_slice6 {w:World} {B e s n:Nat} {v:Value} {xs:List Value} (h:w.ownsRow B e s v n xs):∃ga cap,v=.slice ga n cap:=by
 rcases h.2 with ⟨e1,e0⟩ | ⟨g,cap,cur,e1,_⟩
 ·exact ⟨none,0,by rw [e1,e0]⟩
 ·exact ⟨_,cap,e1⟩
theorem psend_any (O:Nat->Prop) (l:List Ml) (p o:Nat) (m:Ml) (w:World) (h:MailIn O w p o l) (hl:l.length<1000):
 Calls Tryz.prog 141 #[.pointer (some ⟨p,o,none⟩),.agg #[.int .i64 m.kind,.int .i64 m.deal,.int .i64 m.shop,.int .i64 m.c,.int .i64 m.d,.bool m.yes]] w fun e w'=>e=.returned (.bool (sendR l m).1)∧Sent O w w' p o (sendR l m).2:=by
 obtain ⟨i0,hi,hz0,hz1,hz2⟩:=info_parts infoMail
 obtain ⟨mv,c0,hrow,hsub⟩:=h.raw
 have HOwn:Hid (∀k,O k->k<w.heap.size):=h.own
 have HMine:Hid (O p):=h.mine
 have HIn:Hid (MailIn O w p o l):=h
 have hp:=h.lt
 have hf:=h.loose
 have HRow:Hid (w.ownsRow (p+1) 142 6 mv l.length (flat6 l)):=hrow
 have HSub:Hid (∀k,mv.ownBlock=some k->O k):=hsub
 have HN1:Hid (some p ≠ mv.ownBlock):=fun e=>by have:=(HRow.out.lt p e.symm).1;omega
 have HN2:Hid (some w.heap.size ≠ mv.ownBlock):=fun e=>by have:=HOwn.out _ (HSub.out _ e.symm);omega
 have HL:Hid (l.length<1000):=hl
 obtain ⟨ga,cap,rfl⟩:=own_slice6 hrow
 clear h hrow hsub hl
 by_cases hfull:40<=l.length
 ·have hfull':(40:Int)<=(l.length:Int):=by omega
  have HE:Hid _:=sendR_full (m:=m) hfull
  clear hfull
  go_enter Tryz.func141,Tryz.ntmps141
  go_wp2_with fail
  go_ret
  rw [HE.out]
  exact ⟨rfl,Sent.stay HIn.out (by go_grown)⟩
 ·have hfull':¬(40:Int)<=(l.length:Int):=by omega
  have HE:Hid _:=sendR_room (m:=m) hfull
  clear hfull
  go_enter Tryz.func141,Tryz.ntmps141
  go_upto_region 3 with fail
  have x0:(w.alloc (.cells #[.int .i64 m.kind,.int .i64 m.deal,.int .i64 m.shop,.int .i64 m.c,.int .i64 m.d,.bool m.yes] 142)).cell? ⟨p,o,none⟩=some (.slice ga l.length cap):=by simp [go_sem,c0,hp]
  go_region_law
   (first | (refine step_append_two (by rfl) (.tmp 15) (.tmp 17) 71 (by rfl) (p+1) 142 i0 (.agg #[.int .i64 0,.int .i64 0,.int .i64 0,.int .i64 0,.int .i64 0,.bool false]) 6 48 Tryz.underlying71 hi hz0 hz1 hz2 rfl (by decide) (.slice ga l.length cap) _ _ (by simp [Act.eval]) (own_next HRow.out (by go_grown)) ⟨w.heap.size+1,0,none⟩ 1 1 [.int .i64 m.kind,.int .i64 m.deal,.int .i64 m.shop,.int .i64 m.c,.int .i64 m.d,.bool m.yes] (by simp [Act.eval]) rfl (mail_lies (by simp [go_sem]) (by simp [go_sem]) (by simp [go_sem]) (by simp [go_sem]) (by simp [go_sem]) (by simp [go_sem])) mail_cell (by have:=HL.out;unfold maxLen;omega) (by have:=HL.out;omega) (by simp;omega) (by decide) ?_;intro v8 w8 hown8 hgrow8 hwh8;obtain ⟨ga8,cap8,rfl⟩:=own_slice6 hown8;have HO8:Hid (w8.ownsRow (p+1) 142 6 (.slice ga8 (l.length+1) cap8) (l.length+1) (flat6 l++[.int .i64 m.kind,.int .i64 m.deal,.int .i64 m.shop,.int .i64 m.c,.int .i64 m.d,.bool m.yes])):=hown8;clear hown8;have HW8:Hid _:=hwh8;clear hwh8;have hk8:w8.cell? ⟨p,o,none⟩=some (.slice ga l.length cap):=hgrow8.cell (by simp [go_sem,c0,hp]) HN1.out;have hf8:∀k,w8.frozen? ⟨p,k,none⟩=false:=fun k=>(World.frozen?_of_block (hgrow8.block p (by simp;omega) HN1.out)).trans (by simp [go_sem,hf,hp])))
  all_goals
   have hS8:Save O w w8:=(Save.of_below (by go_grown)).grown hgrow8 (fun k e _=>HSub.out k e)
   have hR8:Rest p o w w8:=(Rest.below (by go_grown) hp).trans (Rest.grown hgrow8 (by simp;omega) HN1.out)
   have hsz8:w.heap.size<=w8.heap.size:=hS8.size
   go_wp2_with fail
   go_ret
   rw [HE.out]
   refine ⟨rfl,sent_store HOwn.out HMine.out hS8 hR8 hf8 hk8 ?_ ?_⟩
   ·have e1:(l++[m]).length=l.length+1:=by simp
    have e2:flat6 (l++[m])=flat6 l++[.int .i64 m.kind,.int .i64 m.deal,.int .i64 m.shop,.int .i64 m.c,.int .i64 m.d,.bool m.yes]:=flat6_snoc _ _
    show World.ownsRow _ _ _ _ _ (l++[m]).length (flat6 (l++[m]))
    rw [e1,e2]
    exact HO8.out
   ·intro k hk
    rcases HW8.out k hk with h1 | h1
    ·exact .inl (HSub.out k h1)
    ·right
     simp at h1
     omega
theorem rnd_wrap (n:Int) (k:Nat) (hk:0<k) (hb:k<1000):wrap64 ((IntKind.u64.wrap n).tmod (k:Int))=(rnd n k:Int):=by
 have h0:0<=IntKind.u64.wrap n:=by rw [IntKind.wrap_u64];omega
 have h1:(IntKind.u64.wrap n).tmod (k:Int)=IntKind.u64.wrap n % (k:Int):=Int.tmod_eq_emod_of_nonneg h0
 have h2:0<=IntKind.u64.wrap n % (k:Int):=Int.emod_nonneg _ (by omega)
 have h3:IntKind.u64.wrap n % (k:Int)<(k:Int):=Int.emod_lt_of_pos _ (by omega)
 rw [h1]
 have h4:wrap64 (IntKind.u64.wrap n % (k:Int))=IntKind.u64.wrap n % (k:Int):=by unfold wrap64;omega
 rw [h4]
 unfold rnd
 rw [Int.natCast_emod,Int.toNat_of_nonneg (by omega),IntKind.wrap_u64]
theorem ret_two {k:IntKind} {a b:Int} {v:Value} (h:a=b):Ending.returned (.tuple #[.int k a,v])=.returned (.tuple #[.int k b,v]):=by rw [h]
theorem pplace_any (O:Nat->Prop) (l:List Ml) (p o:Nat) (n:Int) (w:World) (h:MailIn O w p o l) (hl:l.length<1000) (hne:l ≠ []):
 Calls Tryz.prog 167 #[.pointer (some ⟨p,o,none⟩),.int .i64 n] w fun e w'=>e=.returned (.tuple #[.int .i64 (rnd n l.length:Int),.bool true])∧Below w.heap.size w w':=by
 obtain ⟨mv,c0,hrow,_⟩:=h.raw
 obtain ⟨ga,cap,rfl⟩:=own_slice6 hrow
 have hpos:0<l.length:=List.length_pos_iff.2 hne
 clear h hrow hne
 have hk:(0:Int)<(l.length:Int):=by omega
 have hk1:(l.length:Int)<1000:=by omega
 have hk2:((l.length:Int) == 0)=false:=by rw [beq_eq_false_iff_ne];omega
 have HR:Hid _:=rnd_wrap n l.length hpos hl
 generalize l.length=len at *
 clear hpos hl
 go_enter Tryz.func167,Tryz.ntmps167
 go_wp2_with fail
 go_ret2
 exact ⟨ret_two HR.out,Below.refl _ _⟩
theorem gsend_any (O:Nat->Prop) (l:List Ml) (p o:Nat) (m:Ml) (w:World) (h:MailIn O w p o l) (hl:l.length<1000):
 Calls Tryz.prog 93 #[.pointer (some ⟨p,o,none⟩),.agg #[.int .i64 m.kind,.int .i64 m.deal,.int .i64 m.shop,.int .i64 m.c,.int .i64 m.d,.bool m.yes]] w fun e w'=>e=.returned (.bool (sendR l m).1)∧Sent O w w' p o (sendR l m).2:=by
 obtain ⟨i0,hi,hz0,hz1,hz2⟩:=info_parts infoMail
 obtain ⟨mv,c0,hrow,hsub⟩:=h.raw
 have HOwn:Hid (∀k,O k->k<w.heap.size):=h.own
 have HMine:Hid (O p):=h.mine
 have HIn:Hid (MailIn O w p o l):=h
 have hp:=h.lt
 have hf:=h.loose
 have HRow:Hid (w.ownsRow (p+1) 142 6 mv l.length (flat6 l)):=hrow
 have HSub:Hid (∀k,mv.ownBlock=some k->O k):=hsub
 have HN1:Hid (some p ≠ mv.ownBlock):=fun e=>by have:=(HRow.out.lt p e.symm).1;omega
 have HN2:Hid (some w.heap.size ≠ mv.ownBlock):=fun e=>by have:=HOwn.out _ (HSub.out _ e.symm);omega
 have HL:Hid (l.length<1000):=hl
 obtain ⟨ga,cap,rfl⟩:=own_slice6 hrow
 clear h hrow hsub hl
 by_cases hfull:40<=l.length
 ·have hfull':(40:Int)<=(l.length:Int):=by omega
  have HE:Hid _:=sendR_full (m:=m) hfull
  clear hfull
  go_enter Tryz.func93,Tryz.ntmps93
  go_wp2_with fail
  go_ret
  rw [HE.out]
  exact ⟨rfl,Sent.stay HIn.out (by go_grown)⟩
 ·have hfull':¬(40:Int)<=(l.length:Int):=by omega
  have HE:Hid _:=sendR_room (m:=m) hfull
  clear hfull
  go_enter Tryz.func93,Tryz.ntmps93
  go_upto_region 3 with fail
  have x0:(w.alloc (.cells #[.int .i64 m.kind,.int .i64 m.deal,.int .i64 m.shop,.int .i64 m.c,.int .i64 m.d,.bool m.yes] 142)).cell? ⟨p,o,none⟩=some (.slice ga l.length cap):=by simp [go_sem,c0,hp]
  go_region_law
   (first | (refine step_append_two (by rfl) (.tmp 13) (.tmp 15) 72 (by rfl) (p+1) 142 i0 (.agg #[.int .i64 0,.int .i64 0,.int .i64 0,.int .i64 0,.int .i64 0,.bool false]) 6 48 Tryz.underlying72 hi hz0 hz1 hz2 rfl (by decide) (.slice ga l.length cap) _ _ (by simp [Act.eval]) (own_next HRow.out (by go_grown)) ⟨w.heap.size+1,0,none⟩ 1 1 [.int .i64 m.kind,.int .i64 m.deal,.int .i64 m.shop,.int .i64 m.c,.int .i64 m.d,.bool m.yes] (by simp [Act.eval]) rfl (mail_lies (by simp [go_sem]) (by simp [go_sem]) (by simp [go_sem]) (by simp [go_sem]) (by simp [go_sem]) (by simp [go_sem])) mail_cell (by have:=HL.out;unfold maxLen;omega) (by have:=HL.out;omega) (by simp;omega) (by decide) ?_;intro v8 w8 hown8 hgrow8 hwh8;obtain ⟨ga8,cap8,rfl⟩:=own_slice6 hown8;have HO8:Hid (w8.ownsRow (p+1) 142 6 (.slice ga8 (l.length+1) cap8) (l.length+1) (flat6 l++[.int .i64 m.kind,.int .i64 m.deal,.int .i64 m.shop,.int .i64 m.c,.int .i64 m.d,.bool m.yes])):=hown8;clear hown8;have HW8:Hid _:=hwh8;clear hwh8;have hk8:w8.cell? ⟨p,o,none⟩=some (.slice ga l.length cap):=hgrow8.cell (by simp [go_sem,c0,hp]) HN1.out;have hf8:∀k,w8.frozen? ⟨p,k,none⟩=false:=fun k=>(World.frozen?_of_block (hgrow8.block p (by simp;omega) HN1.out)).trans (by simp [go_sem,hf,hp])))
  all_goals
   have hS8:Save O w w8:=(Save.of_below (by go_grown)).grown hgrow8 (fun k e _=>HSub.out k e)
   have hR8:Rest p o w w8:=(Rest.below (by go_grown) hp).trans (Rest.grown hgrow8 (by simp;omega) HN1.out)
   have hsz8:w.heap.size<=w8.heap.size:=hS8.size
   go_wp2_with fail
   go_ret
   rw [HE.out]
   refine ⟨rfl,sent_store HOwn.out HMine.out hS8 hR8 hf8 hk8 ?_ ?_⟩
   ·have e1:(l++[m]).length=l.length+1:=by simp
    have e2:flat6 (l++[m])=flat6 l++[.int .i64 m.kind,.int .i64 m.deal,.int .i64 m.shop,.int .i64 m.c,.int .i64 m.d,.bool m.yes]:=flat6_snoc _ _
    show World.ownsRow _ _ _ _ _ (l++[m]).length (flat6 (l++[m]))
    rw [e1,e2]
    exact HO8.out
   ·intro k hk
    rcases HW8.out k hk with h1 | h1
    ·exact .inl (HSub.out k h1)
    ·right
     simp at h1
     omega
theorem gat_any (O:Nat->Prop) (l:List Ml) (p o:Nat) (n:Int) (w:World) (h:MailIn O w p o l) (hl:l.length<1000) (hne:l ≠ []):
 Calls Tryz.prog 96 #[.pointer (some ⟨p,o,none⟩),.int .i64 n] w fun e w'=>e=.returned (.int .i64 (rnd n l.length:Int))∧Below w.heap.size w w':=by
 obtain ⟨mv,c0,hrow,_⟩:=h.raw
 obtain ⟨ga,cap,rfl⟩:=own_slice6 hrow
 have hpos:0<l.length:=List.length_pos_iff.2 hne
 clear h hrow hne
 have hk:(0:Int)<(l.length:Int):=by omega
 have hk1:(l.length:Int)<1000:=by omega
 have HR:Hid _:=rnd_wrap n l.length hpos hl
 generalize l.length=len at *
 clear hpos hl
 go_enter Tryz.func96,Tryz.ntmps96
 go_wp2_with fail
 go_ret
 exact ⟨ret_int HR.out,Below.refl _ _⟩
def zeros6 (n:Nat):List Value:=(Builtin.zeroCells (Value.agg #[.int .i64 0,.int .i64 0,.int .i64 0,.int .i64 0,.int .i64 0,.bool false]).cells n).toList
theorem zeros6_length (n:Nat):(zeros6 n).length=n * 6:=by
 unfold zeros6
 rw [Array.length_toList,size_zeroCells]
 rfl
theorem zeros6_one (n:Nat):∀v∈zeros6 n,v.oneCell'=true:=by
 intro v hv
 unfold zeros6 at hv
 simp only [Builtin.zeroCells,Array.toList_map,List.mem_map] at hv
 obtain ⟨i,_,rfl⟩:=hv
 have h:i % 6=0∨i % 6=1∨i % 6=2∨i % 6=3∨i % 6=4∨i % 6=5:=by omega
 show Value.oneCell' (#[Value.int .i64 0,.int .i64 0,.int .i64 0,.int .i64 0,.int .i64 0,.bool false][i % 6]!)=true
 rcases h with h | h | h | h | h | h <;> rw [h] <;> rfl
theorem run_clear6 (w:World) (ty:TypeId) (b o n c:Nat) (hc:∀j,j<n * 6->(w.cell? ⟨b,o+j,none⟩).isSome=true) (hf:∀j,j<n * 6->w.frozen? ⟨b,o+j,none⟩=false):
 (Builtin.clear_ #[71] ty #[.slice (some ⟨b,o,none⟩) n c]).run Tryz.prog w=.ok (.tuple #[]) (w.setCells b o (zeros6 n)):=by
 have hst:=run_storeCells_cells (P:=Tryz.prog) b o (zeros6 n) 0 w (by rw [zeros6_length];simpa using hc) (by rw [zeros6_length];simpa using hf) (zeros6_one n)
 simp only [Nat.add_zero] at hst
 unfold zeros6 at hst ⊢
 cases n with
 | zero=>simp [Builtin.clear_,run_underlying Tryz.underlying71,Builtin.zeroCells,World.setCells]
 | succ m=>simp [Builtin.clear_,run_underlying Tryz.underlying71,hst]
theorem step_append_fits {P:Program} {w:World} {ops:Array Oper} {o:Oper} {a:Act} {K:Act->World->Prop} {Q:Exit->Act->World->Prop} {E:Prop} (hgd:o.guard=none) (s x:Operand) (t:TypeId)
 (ho:o.op=.call { callee:=.builtin .append,args:=#[s,x],argTypes:=#[t,t] })
 (base:Nat) (e:TypeId) (i:TypeInfo) (size:Nat) (ht:P.underlying t=some (.slice e)) (hi:P.info? e=some i) (hsize:i.size=size)
 (g n cap:Nat) (xs:List Value) (hs:a.eval s=.slice (some ⟨g,0,none⟩) n cap) (hown:w.ownsRow base e size (.slice (some ⟨g,0,none⟩) n cap) n xs)
 (ad:Addr) (m c:Nat) (news:List Value) (hx:a.eval x=.slice (some ad) m c) (hl:news.length=m * size) (hnews:∀j u,news[j]?=some u->w.cell? (ad.add j)=some u) (h1:∀u∈news,u.oneCell'=true)
 (hroom:n+m<=cap) (q:Nat) (hq:n+m=q)
 (h:∀w',w'.ownsRow base e size (.slice (some ⟨g,0,none⟩) q cap) q (xs++news)->w.grownBy w' (some g)->K (a.put o.dst (.slice (some ⟨g,0,none⟩) q cap)) w'):if Region.wanted o (yielded ops a.tmps)=true then Oper.wp P o a w K Q else E:=by
 subst hq
 have hw:Region.wanted o (yielded ops a.tmps)=true:=by simp [Region.wanted,hgd]
 rw [if_pos hw]
 obtain ⟨w',hr,h2,h3⟩:=run_append_fits (P:=P) w base t o.type e i size ht hi hsize g n cap xs hown ad m c news hl hnews h1 hroom
 unfold Oper.wp execOp
 simp only [ho,resolve,invoke,builtin,Sem.run_bind,Sem.run_pure,Result.andThen_ok,List.map_toArray,List.map_cons,List.map_nil,hs,hx,hr]
 exact h w' h2 h3
theorem own_take {w:World} {B e g n cap k:Nat} {l:List Ml} (h:w.ownsRow B e 6 (.slice (some ⟨g,0,none⟩) n cap) n (flat6 l)) (hn:l.length=n) (hk:k<=n):w.ownsRow B e 6 (.slice (some ⟨g,0,none⟩) k cap) k (flat6 (l.take k)):=by
 obtain ⟨h1,h2,h3,h4,h5⟩:=own_row h
 refine row_own h2 h1 (by omega) h4 (by rw [flat6_length,List.length_take];congr 1;omega) (fun j u hj=>h5 j u ?_)
 have e:flat6 l=flat6 (l.take k)++flat6 (l.drop k):=by rw [<-flat6_append,List.take_append_drop]
 rw [e,List.getElem?_append_left (List.getElem?_eq_some_iff.1 hj).1]
 exact hj
theorem cells_drop {w:World} {g k:Nat} {l:List Ml} (h:∀j u,(flat6 l)[j]?=some u->w.cell? ⟨g,j,none⟩=some u) (hk:k<=l.length):∀j u,(flat6 (l.drop k))[j]?=some u->w.cell? ((⟨g,k * 6,none⟩:Addr).add j)=some u:=by
 intro j u hj
 have ha:(⟨g,k * 6,none⟩:Addr).add j=⟨g,k * 6+j,none⟩:=by unfold Addr.add;split <;> simp_all
 rw [ha]
 refine h _ _ ?_
 have e:flat6 l=flat6 (l.take k)++flat6 (l.drop k):=by rw [<-flat6_append,List.take_append_drop]
 have hl:(flat6 (l.take k)).length=k * 6:=by rw [flat6_length,List.length_take,Nat.min_eq_left hk]
 rw [e,List.getElem?_append_right (by omega),hl,show k * 6+j - k * 6=j by omega]
 exact hj
theorem own_clear {w:World} {B e g n cap:Nat} {l:List Ml} (zs:List Value) (h:w.ownsRow B e 6 (.slice (some ⟨g,0,none⟩) n cap) n (flat6 l)):(w.setCells g (n * 6) zs).ownsRow B e 6 (.slice (some ⟨g,0,none⟩) n cap) n (flat6 l):=by
 obtain ⟨h1,h2,h3,h4,h5⟩:=own_row h
 refine row_own (Row.setCells g _ _ _ h2) h1 h3 h4 h.1 (fun t u hu=>?_)
 have ht:t<n * 6:=by rw [<-h.1];exact (List.getElem?_eq_some_iff.1 hu).1
 rw [World.cell?_setCells_out g _ _ _ _ (fun _ _=>.inl ht)]
 exact h5 t u hu
theorem pdel_any (B:Nat) (l:List Ml) (k g cap n:Nat) (hn:l.length=n) (hk:k<n) (w:World) (hown:w.ownsRow B 142 6 (.slice (some ⟨g,0,none⟩) n cap) n (flat6 l)) (hl:n<1000):
 Calls Tryz.prog 168 #[.slice (some ⟨g,0,none⟩) n cap,.int .i64 (k:Int),.int .i64 ((k:Int)+1)] w fun e w'=>e=.returned (.slice (some ⟨g,0,none⟩) (n - 1) cap)∧w'.ownsRow B 142 6 (.slice (some ⟨g,0,none⟩) (n - 1) cap) (n - 1) (flat6 (l.eraseIdx k))∧Save (fun b=>b=g) w w':=by
 obtain ⟨i0,hi,hz0,hz1,hz2⟩:=info_parts infoMail
 obtain ⟨hB,hrow,hnc,hcm,hcell⟩:=own_row hown
 have HO:Hid (w.ownsRow B 142 6 (.slice (some ⟨g,0,none⟩) n cap) n (flat6 l)):=hown
 have HC:Hid _:=hcell
 have HCm:Hid _:=hcm
 have k0:(0:Int)<=(k:Int):=by omega
 have k1:(k:Int)<(n:Int):=by omega
 have k2:(k:Int)+1<=(n:Int):=by omega
 have k3:(n:Int)<=(cap:Int):=by omega
 have k4:(n:Int)<1000:=by omega
 have k5:k+1<=n:=hk
 have k9:(0:Int)<=(k:Int)+1:=by omega
 have k6:k<=n:=by omega
 have k7:k+1<=cap:=by omega
 have k8:k<=cap:=by omega
 have hne:((k:Int) == (k:Int)+1)=false:=by rw [beq_eq_false_iff_ne];omega
 have hgl:=hrow.lt
 clear hown hcell hcm
 go_enter Tryz.func168,Tryz.ntmps168
 go_upto_region 5 with fail
 have HT:Hid (w.ownsRow B 142 6 (.slice (some ⟨g,0,none⟩) k cap) k (flat6 (l.take k))):=own_take HO.out hn k6
 have HD:Hid _:=cells_drop HC.out (show k+1<=l.length by omega)
 have HDl:Hid ((flat6 (l.drop (k+1))).length=(n - (k+1)) * 6):=by show _=_;rw [flat6_length,List.length_drop,hn]
 by_cases hcap:cap=k+1
 ·obtain rfl:n=k+1:=by omega
  subst hcap
  have kk:(k:Int)<=(k:Int)+1:=by omega
  go_region_law
   (first | (refine step_append_fits (by rfl) (.tmp 22) (.tmp 25) 71 (by rfl) B 142 i0 6 Tryz.underlying71 hi hz1 g k (k+1) (flat6 (l.take k)) (by rfl) (own_next HT.out (by go_grown)) ⟨g,0,none⟩ 0 0 [] (by rfl) rfl (fun j u hj=>by simp at hj) (fun u hu=>by simp at hu) (by omega) k (by omega) ?_;intro w8 hown8 hgrow8))
  all_goals
   have hd0:l.drop (k+1)=[]:=List.drop_of_length_le (by omega)
   have hown9:w8.ownsRow B 142 6 (.slice (some ⟨g,0,none⟩) k (k+1)) k (flat6 (l.eraseIdx k)):=by rw [erase_split,flat6_append,hd0];exact hown8
   have hS8:Save (fun b=>b=g) w w8:=(Save.of_below (by go_grown)).grown hgrow8 (fun k e _=>(Option.some.inj e).symm)
   obtain ⟨_,hrow8,_,_,_⟩:=own_row hown9
   have HO8:Hid (w8.ownsRow B 142 6 (.slice (some ⟨g,0,none⟩) k (k+1)) k (flat6 (l.eraseIdx k))):=hown9
   clear hown8 hown9 hgrow8 HT HD HDl HO HC hd0
   have hx1:∀ty,(Builtin.clear_ #[71] ty #[.slice (some ⟨g,k * 6,none⟩) 1 1]).run Tryz.prog w8=.ok (.tuple #[]) (w8.setCells g (k * 6) (zeros6 1)):=fun ty=>run_clear6 w8 ty g (k * 6) _ _ (fun t ht=>hrow8.some (by omega)) (fun t ht=>hrow8.loose _)
   go_wp2_with fail
   go_ret
   exact ⟨rfl,own_clear _ HO8.out,Save.setCells (O:=fun b=>b=g) g (fun _=>rfl) _ _ _ hS8⟩
 ·go_region_law
   (first | (refine step_append_fits (by rfl) (.tmp 22) (.tmp 25) 71 (by rfl) B 142 i0 6 Tryz.underlying71 hi hz1 g k cap (flat6 (l.take k)) (by rfl) (own_next HT.out (by go_grown)) ⟨g,(k+1) * 6,none⟩ (n - (k+1)) (cap - (k+1)) (flat6 (l.drop (k+1))) (by rfl) HDl.out HD.out (flat6_one _) (by omega) (n - 1) (by omega) ?_;intro w8 hown8 hgrow8))
  all_goals
   have hown9:w8.ownsRow B 142 6 (.slice (some ⟨g,0,none⟩) (n - 1) cap) (n - 1) (flat6 (l.eraseIdx k)):=by rw [erase_split,flat6_append];exact hown8
   have hS8:Save (fun b=>b=g) w w8:=(Save.of_below (by go_grown)).grown hgrow8 (fun k e _=>(Option.some.inj e).symm)
   obtain ⟨_,hrow8,_,_,_⟩:=own_row hown9
   have HO8:Hid (w8.ownsRow B 142 6 (.slice (some ⟨g,0,none⟩) (n - 1) cap) (n - 1) (flat6 (l.eraseIdx k))):=hown9
   clear hown8 hown9 hgrow8 HT HD HDl HO HC
   have hx1:∀ty,(Builtin.clear_ #[71] ty #[.slice (some ⟨g,(n - 1) * 6,none⟩) (n - (n - 1)) (cap - (n - 1))]).run Tryz.prog w8=.ok (.tuple #[]) (w8.setCells g ((n - 1) * 6) (zeros6 (n - (n - 1)))):=fun ty=>run_clear6 w8 ty g ((n - 1) * 6) _ _ (fun t ht=>hrow8.some (by omega)) (fun t ht=>hrow8.loose _)
   have n1:n - 1<=n:=by omega
   have n2:n - 1<=cap:=by omega
   have n3:¬cap=n - 1:=by omega
   have n4:((n - 1:Nat):Int)<=(n:Int):=by omega
   have n5:(0:Int)<=((n - 1:Nat):Int):=by omega
   have n6:((n - 1:Nat):Int)<=(cap:Int):=by omega
   go_wp2_with fail
   go_ret
   exact ⟨rfl,own_clear _ HO8.out,Save.setCells (O:=fun b=>b=g) g (fun _=>rfl) _ _ _ hS8⟩
theorem own_some {w:World} {B e n:Nat} {v:Value} {l:List Ml} (h:w.ownsRow B e 6 v n (flat6 l)) (hn:n ≠ 0):∃g cap,v=.slice (some ⟨g,0,none⟩) n cap:=by
 rcases h.2 with ⟨_,e0⟩ | ⟨g,cap,cur,e1,_⟩
 ·exact absurd e0 hn
 ·exact ⟨g,cap,e1⟩
theorem pplace_none (O:Nat->Prop) (p o:Nat) (n:Int) (w:World) (h:MailIn O w p o []):
 Calls Tryz.prog 167 #[.pointer (some ⟨p,o,none⟩),.int .i64 n] w fun e w'=>e=.returned (.tuple #[.int .i64 0,.bool false])∧Below w.heap.size w w':=by
 obtain ⟨mv,c0,hrow,_⟩:=h.raw
 obtain ⟨ga,cap,rfl⟩:=own_slice6 hrow
 have hk2:((([]:List Ml).length:Int) == 0)=true:=rfl
 clear h hrow
 go_enter Tryz.func167,Tryz.ntmps167
 go_wp2_with fail
 go_ret2
 exact ⟨rfl,Below.refl _ _⟩
structure Box6 (w:World) (b:Nat) (m:Ml):Prop where
 lt:b<w.heap.size
 c0:w.cell? ⟨b,0,none⟩=some (.int .i64 m.kind)
 c1:w.cell? ⟨b,1,none⟩=some (.int .i64 m.deal)
 c2:w.cell? ⟨b,2,none⟩=some (.int .i64 m.shop)
 c3:w.cell? ⟨b,3,none⟩=some (.int .i64 m.c)
 c4:w.cell? ⟨b,4,none⟩=some (.int .i64 m.d)
 c5:w.cell? ⟨b,5,none⟩=some (.bool m.yes)
 loose:∀k,w.frozen? ⟨b,k,none⟩=false
theorem Box6.save {O:Nat->Prop} {w w1:World} {b:Nat} {m:Ml} (h:Box6 w b m) (hb:Save O w w1) (hn:¬O b):Box6 w1 b m:=
 ⟨Nat.lt_of_lt_of_le h.lt hb.size,(hb.cell (p:=⟨b,_,none⟩) h.lt hn).trans h.c0,(hb.cell (p:=⟨b,_,none⟩) h.lt hn).trans h.c1,(hb.cell (p:=⟨b,_,none⟩) h.lt hn).trans h.c2,(hb.cell (p:=⟨b,_,none⟩) h.lt hn).trans h.c3,(hb.cell (p:=⟨b,_,none⟩) h.lt hn).trans h.c4,(hb.cell (p:=⟨b,_,none⟩) h.lt hn).trans h.c5,fun k=>(hb.frozen (p:=⟨b,k,none⟩) h.lt hn).trans (h.loose k)⟩
theorem Box6.next {w w1:World} {b:Nat} {m:Ml} (h:Box6 w b m) (hb:Below w.heap.size w w1):Box6 w1 b m:=h.save (O:=fun _=>False) (.of_below hb) (fun q=>q)
theorem Box6.new (w:World) (m:Ml):Box6 (w.alloc (.cells #[.int .i64 m.kind,.int .i64 m.deal,.int .i64 m.shop,.int .i64 m.c,.int .i64 m.d,.bool m.yes] 142)) w.heap.size m:=
 ⟨by simp,by simp [go_sem],by simp [go_sem],by simp [go_sem],by simp [go_sem],by simp [go_sem],by simp [go_sem],by simp [go_sem]⟩
theorem Box6.zero (w:World):Box6 (w.alloc (.cells #[.int .i64 0,.int .i64 0,.int .i64 0,.int .i64 0,.int .i64 0,.bool false] 142)) w.heap.size noMl:=Box6.new w noMl
def put6 (w:World) (b:Nat) (m:Ml):World:=(((((w.setCell ⟨b,0,none⟩ (.int .i64 m.kind)).setCell ⟨b,1,none⟩ (.int .i64 m.deal)).setCell ⟨b,2,none⟩ (.int .i64 m.shop)).setCell ⟨b,3,none⟩ (.int .i64 m.c)).setCell ⟨b,4,none⟩ (.int .i64 m.d)).setCell ⟨b,5,none⟩ (.bool m.yes)
theorem Save.put6 {O:Nat->Prop} {a w:World} {b:Nat} {m:Ml} (h:Save O a w) (hb:b<a.heap.size->O b):Save O a (put6 w b m):=
 (((((h.setCell (p:=⟨b,0,none⟩) hb _).setCell (p:=⟨b,1,none⟩) hb _).setCell (p:=⟨b,2,none⟩) hb _).setCell (p:=⟨b,3,none⟩) hb _).setCell (p:=⟨b,4,none⟩) hb _).setCell (p:=⟨b,5,none⟩) hb _
theorem below_put6 {a w:World} {B b:Nat} {m:Ml} (h:Below B a w) (hb:B<=b):Below B a (put6 w b m):=
 (((((h.setCell (p:=⟨b,0,none⟩) hb _).setCell (p:=⟨b,1,none⟩) hb _).setCell (p:=⟨b,2,none⟩) hb _).setCell (p:=⟨b,3,none⟩) hb _).setCell (p:=⟨b,4,none⟩) hb _).setCell (p:=⟨b,5,none⟩) hb _
theorem Box6.put {w:World} {b:Nat} {x:Ml} (h:Box6 w b x) (m:Ml):Box6 (put6 w b m) b m:=by
 obtain ⟨lt,c0,c1,c2,c3,c4,c5,lo⟩:=h
 unfold put6
 exact ⟨by simpa using lt,by simp [go_sem,c0],by simp [go_sem,c1],by simp [go_sem,c2],by simp [go_sem,c3],by simp [go_sem,c4],by simp [go_sem,c5],by simpa [go_sem] using lo⟩
theorem sent_put {O:Nat->Prop} {w w8:World} {p o b:Nat} {l':List Ml} {mv v8:Value} {m:Ml} (hO:∀k,O k->k<w.heap.size) (hm:O p) (hS:Save O w w8) (hR:Rest p o w w8) (hf:∀k,w8.frozen? ⟨p,k,none⟩=false) (hc:w8.cell? ⟨p,o,none⟩=some mv) (hrow:w8.ownsRow (p+1) 142 6 v8 l'.length (flat6 l')) (hw:∀k,v8.ownBlock=some k->O k∨w.heap.size<=k) (hb:w.heap.size<=b) (hn:v8.ownBlock ≠ some b):Sent O w (put6 (w8.setCell ⟨p,o,none⟩ v8) b m) p o l':=by
 have hs:Save (fun k=>k=b) (w8.setCell ⟨p,o,none⟩ v8) (put6 (w8.setCell ⟨p,o,none⟩ v8) b m):=(Save.refl _ _).put6 (fun _=>rfl)
 have hp:=hO p hm
 have h1:MailIn (fun k=>O k∨v8.ownBlock=some k) (w8.setCell ⟨p,o,none⟩ v8) p o l':=by
  refine ⟨fun k hk=>?_,.inl hm,by simpa [go_sem] using hf,v8,cell_set_same hc,ownsRow_setCell_below hrow (Nat.lt_succ_self p) _,fun k hk=>.inr hk⟩
  show k<(w8.setCell _ _).heap.size
  rw [show (w8.setCell (⟨p,o,none⟩:Addr) v8).heap.size=w8.heap.size by simp]
  rcases hk with hk | hk
  ·exact Nat.lt_of_lt_of_le (hO k hk) hS.size
  ·exact (hrow.lt k hk).2
 have h2:Save O w (w8.setCell ⟨p,o,none⟩ v8):=hS.setCell (p:=⟨p,o,none⟩) (fun _=>hm) _
 refine ⟨fun k=>O k∨v8.ownBlock=some k,h1.save hs (fun k hk e=>?_),h2.trans hs (fun j hj e=>by omega),fun k hk=>hk.elim .inl (hw k),(hR.trans (Rest.set _ _)).trans (fun j _=>hs.cell (p:=⟨p,j,none⟩) (Nat.lt_of_lt_of_le hp h2.size) (fun e=>by simp only at e;omega))⟩
 subst e
 rcases hk with hk | hk
 ·have:=hO _ hk;omega
 ·exact hn hk
theorem ptake_none (O:Nat->Prop) (p o:Nat) (n:Int) (w:World) (h:MailIn O w p o []):
 Calls Tryz.prog 157 #[.pointer (some ⟨p,o,none⟩),.int .i64 n] w fun e w'=>e=.returned (.tuple #[mlV noMl,.bool false])∧Below w.heap.size w w':=by
 have HI:Hid (MailIn O w p o []):=h
 clear h
 go_enter Tryz.func157,Tryz.ntmps157
 go_wp2_with fail
 refine Calls.mono (pplace_none O p o n _ (HI.out.next (by go_grown))) ?_
 rintro e w1 ⟨rfl,hb1⟩
 have hX:=(Box6.zero w).next hb1
 have hw1:Below w.heap.size w w1:=after (by go_grown) hb1 (by simp)
 obtain ⟨lt,c0,c1,c2,c3,c4,c5,lo⟩:=hX
 generalize hB:w.heap.size=B at lt c0 c1 c2 c3 c4 c5 lo ⊢
 have HB:Hid (w.heap.size<=B):=Nat.le_of_eq hB
 clear hb1 hB
 go_wp2_with fail
 exact bodyPost_ret (v:=.tuple #[mlV noMl,.bool false]) (by simp [results,Tryz.results157,go_sem,c0,c1,c2,c3,c4,c5,mlV,noMl]) rfl ⟨rfl,below_put6 (m:=noMl) hw1 HB.out⟩
theorem ptake_some (O:Nat->Prop) (l:List Ml) (p o:Nat) (n:Int) (m:Ml) (w:World) (h:MailIn O w p o l) (hl:l.length<1000) (hm:l[rnd n l.length]?=some m):
 Calls Tryz.prog 157 #[.pointer (some ⟨p,o,none⟩),.int .i64 n] w fun e w'=>e=.returned (.tuple #[mlV m,.bool true])∧Sent O w w' p o (l.eraseIdx (rnd n l.length)):=by
 have HI:Hid (MailIn O w p o l):=h
 have HL:Hid (l.length<1000):=hl
 have hk:=(List.getElem?_eq_some_iff.1 hm).1
 have HM:Hid _:=hm
 clear h hl hm
 go_enter Tryz.func157,Tryz.ntmps157
 go_wp2_with fail
 refine Calls.mono (pplace_any O l p o n _ (HI.out.next (by go_grown)) HL.out (by intro e;rw [e] at hk;simp at hk)) ?_
 rintro e w1 ⟨rfl,hb1⟩
 have hX:=(Box6.zero w).next hb1
 have hw1:Below w.heap.size w w1:=after (by go_grown) hb1 (by simp)
 have hI1:=HI.out.next hw1
 obtain ⟨mv,c0,hrow,hsub⟩:=hI1.raw
 obtain ⟨g,cap,rfl⟩:=own_some hrow (by omega)
 obtain ⟨_,hR,hnc,_,hcell⟩:=own_row hrow
 have hfl:=flat6_at l _ m HM.out
 have HRow:Hid (w1.ownsRow (p+1) 142 6 (.slice (some ⟨g,0,none⟩) l.length cap) l.length (flat6 l)):=hrow
 generalize hkk:rnd n l.length=k at *
 have p0:w1.cell? ⟨g,k * 6,none⟩=some (.int .i64 m.kind):=hcell _ _ (hfl 0 _ rfl)
 have p1:w1.cell? ⟨g,k * 6+1,none⟩=some (.int .i64 m.deal):=hcell _ _ (hfl 1 _ rfl)
 have p2:w1.cell? ⟨g,k * 6+2,none⟩=some (.int .i64 m.shop):=hcell _ _ (hfl 2 _ rfl)
 have p3:w1.cell? ⟨g,k * 6+3,none⟩=some (.int .i64 m.c):=hcell _ _ (hfl 3 _ rfl)
 have p4:w1.cell? ⟨g,k * 6+4,none⟩=some (.int .i64 m.d):=hcell _ _ (hfl 4 _ rfl)
 have p5:w1.cell? ⟨g,k * 6+5,none⟩=some (.bool m.yes):=hcell _ _ (hfl 5 _ rfl)
 have j0:(0:Int)<=(k:Int):=by omega
 have j1:(k:Int)<(l.length:Int):=by omega
 have hgl:=hR.lt
 have hpl:=hI1.lt
 have HOwn1:Hid (∀k,O k->k<w.heap.size):=HI.out.own
 have HMine:Hid (O p):=HI.out.mine
 have HSub:Hid (∀k,(Value.slice (some ⟨g,0,none⟩) l.length cap).ownBlock=some k->O k):=hsub
 have HX:Hid (Box6 w1 w.heap.size noMl):=hX
 have HI1:Hid (MailIn O w1 p o l):=hI1
 generalize hB:w.heap.size=B at hX HX ⊢
 have HB:Hid (w.heap.size=B):=hB
 have HW1:Hid _:=hw1
 have HKK:Hid _:=hkk
 clear hb1 hB hw1 hI1 hrow hsub hR hcell hfl hX hkk
 go_upto_region 5 with fail
 have hb2:Below w1.heap.size w1 (w1.alloc (.cells #[.int .i64 m.kind,.int .i64 m.deal,.int .i64 m.shop,.int .i64 m.c,.int .i64 m.d,.bool m.yes] 142)):=(Below.refl _ _).alloc (Nat.le_refl _) _
 have hX2:=Box6.new w1 m
 have hX1:=HX.out.next hb2
 have hI2:=HI1.out.next hb2
 have HRow2:Hid ((w1.alloc (.cells #[.int .i64 m.kind,.int .i64 m.deal,.int .i64 m.shop,.int .i64 m.c,.int .i64 m.d,.bool m.yes] 142)).ownsRow (p+1) 142 6 (.slice (some ⟨g,0,none⟩) l.length cap) l.length (flat6 l)):=own_next HRow.out hb2
 have g0:(w1.alloc (.cells #[.int .i64 m.kind,.int .i64 m.deal,.int .i64 m.shop,.int .i64 m.c,.int .i64 m.d,.bool m.yes] 142)).cell? ⟨p,o,none⟩=some (.slice (some ⟨g,0,none⟩) l.length cap):=((bcell hb2).1 _ _ hpl).trans c0
 have hw2:=after HW1.out hb2 HW1.out.size
 have HB2:Hid (B<=w1.heap.size∧g<w1.heap.size):=⟨by have:=HW1.out.size;have:=HB.out;omega,hgl⟩
 generalize (w1.alloc (.cells #[.int .i64 m.kind,.int .i64 m.deal,.int .i64 m.shop,.int .i64 m.c,.int .i64 m.d,.bool m.yes] 142))=w2 at *
 generalize w1.heap.size=B2 at hX2 HB2 ⊢
 have HX2:Hid (Box6 w2 B2 m):=hX2
 have HX1:Hid (Box6 w2 B noMl):=hX1
 have HW2:Hid (Below w.heap.size w w2):=hw2
 have hf2:=hI2.loose
 have hpl2:=hI2.lt
 have HG:Hid (O g):=HSub.out g rfl
 have HGP:Hid (p+1<=g):=(HRow2.out.lt g rfl).1
 clear HX HI1 HRow c0 p0 p1 p2 p3 p4 p5 HW1 hX1 hX2 hw2 hb2 hgl hpl hI2
 have j2:(l.length:Int)<1000:=by have:=HL.out;omega
 go_wp2_with fail
 refine Calls.mono (pdel_any (p+1) l k g cap l.length rfl hk w2 HRow2.out HL.out) ?_
 rintro e w3 ⟨rfl,hrow3,hS3⟩
 have hgp:=HGP.out
 have HGB:Hid (g ≠ B∧g ≠ B2):=⟨by have:=HOwn1.out g HG.out;have:=HB.out;omega,by have:=HB2.out;omega⟩
 obtain ⟨_,x0,x1,x2,x3,x4,x5,xl⟩:=HX2.out.save hS3 (fun e=>HGB.out.2 e.symm)
 obtain ⟨_,b0,b1,b2,b3,b4,b5,bl⟩:=HX1.out.save hS3 (fun e=>HGB.out.1 e.symm)
 have q0:w3.cell? ⟨p,o,none⟩=some (.slice (some ⟨g,0,none⟩) l.length cap):=(hS3.cell (p:=⟨p,o,none⟩) hpl2 (fun e=>by simp only at e;omega)).trans g0
 have qf:∀k,w3.frozen? ⟨p,k,none⟩=false:=fun k=>(hS3.frozen (p:=⟨p,k,none⟩) hpl2 (fun e=>by simp only at e;omega)).trans (hf2 k)
 have hSw:Save O w w3:=(Save.of_below HW2.out).trans hS3 (fun j _ e=>by rw [e];exact HG.out)
 have hRw:Rest p o w w3:=(Rest.below HW2.out (HOwn1.out p HMine.out)).trans (fun j _=>hS3.cell (p:=⟨p,j,none⟩) hpl2 (fun e=>by simp only at e;omega))
 have HSe:Hid (Sent O w (put6 (w3.setCell ⟨p,o,none⟩ (.slice (some ⟨g,0,none⟩) (l.length - 1) cap)) B m) p o (l.eraseIdx k)):=by
  refine sent_put HOwn1.out HMine.out hSw hRw qf q0 ?_ (fun k hk=>.inl ?_) (Nat.le_of_eq HB.out) (fun e=>HGB.out.1 (Option.some.inj e))
  ·rw [List.length_eraseIdx,if_pos hk];exact hrow3
  ·rw [<-Option.some.inj hk];exact HG.out
 have hpB:p ≠ B:=by have:=HOwn1.out p HMine.out;have:=HB.out;omega
 have hpB2:p ≠ B2:=by have:=HOwn1.out p HMine.out;have:=HB.out;have:=HB2.out;omega
 clear hSw hRw hS3 hrow3 HX1 HX2 HRow2 g0 hf2 HW2 HB2 HGB HG
 go_wp2_with fail
 refine bodyPost_ret (v:=.tuple #[mlV m,.bool true]) (by simp [results,Tryz.results157,go_sem,b0,b1,b2,b3,b4,b5,mlV]) rfl ⟨rfl,?_⟩
 rw [HKK.out]
 exact HSe.out
theorem pdbl_none (O:Nat->Prop) (p o:Nat) (n:Int) (w:World) (h:MailIn O w p o []):
 Calls Tryz.prog 161 #[.pointer (some ⟨p,o,none⟩),.int .i64 n] w fun e w'=>e=.returned (.bool false)∧Below w.heap.size w w':=by
 have HI:Hid (MailIn O w p o []):=h
 clear h
 go_enter Tryz.func161,Tryz.ntmps161
 go_wp2_with fail
 refine Calls.mono (pplace_none O p o n _ HI.out) ?_
 rintro e w1 ⟨rfl,hb1⟩
 go_wp2_with fail
 go_ret
 exact ⟨rfl,hb1⟩
theorem pdbl_some (O:Nat->Prop) (l:List Ml) (p o:Nat) (n:Int) (m:Ml) (w:World) (h:MailIn O w p o l) (hl:l.length<1000) (hm:l[rnd n l.length]?=some m):
 Calls Tryz.prog 161 #[.pointer (some ⟨p,o,none⟩),.int .i64 n] w fun e w'=>e=.returned (.bool (sendR l m).1)∧Sent O w w' p o (sendR l m).2:=by
 have HI:Hid (MailIn O w p o l):=h
 have HL:Hid (l.length<1000):=hl
 have hk:=(List.getElem?_eq_some_iff.1 hm).1
 have HM:Hid _:=hm
 clear h hl hm
 go_enter Tryz.func161,Tryz.ntmps161
 go_wp2_with fail
 refine Calls.mono (pplace_any O l p o n _ HI.out HL.out (by intro e;rw [e] at hk;simp at hk)) ?_
 rintro e w1 ⟨rfl,hb1⟩
 have hI1:=HI.out.next hb1
 obtain ⟨mv,c0,hrow,hsub⟩:=hI1.raw
 obtain ⟨g,cap,rfl⟩:=own_some hrow (by omega)
 obtain ⟨_,hR,hnc,_,hcell⟩:=own_row hrow
 have hfl:=flat6_at l _ m HM.out
 generalize rnd n l.length=k at *
 have p0:w1.cell? ⟨g,k * 6,none⟩=some (.int .i64 m.kind):=hcell _ _ (hfl 0 _ rfl)
 have p1:w1.cell? ⟨g,k * 6+1,none⟩=some (.int .i64 m.deal):=hcell _ _ (hfl 1 _ rfl)
 have p2:w1.cell? ⟨g,k * 6+2,none⟩=some (.int .i64 m.shop):=hcell _ _ (hfl 2 _ rfl)
 have p3:w1.cell? ⟨g,k * 6+3,none⟩=some (.int .i64 m.c):=hcell _ _ (hfl 3 _ rfl)
 have p4:w1.cell? ⟨g,k * 6+4,none⟩=some (.int .i64 m.d):=hcell _ _ (hfl 4 _ rfl)
 have p5:w1.cell? ⟨g,k * 6+5,none⟩=some (.bool m.yes):=hcell _ _ (hfl 5 _ rfl)
 have j0:(0:Int)<=(k:Int):=by omega
 have j1:(k:Int)<(l.length:Int):=by omega
 have HI1:Hid (MailIn O w1 p o l):=hI1
 have HB1:Hid _:=hb1
 clear hb1 hI1 hrow hsub hR hcell hfl
 go_wp2_with fail
 refine Calls.mono (psend_any O l p o m w1 HI1.out HL.out) ?_
 rintro e w2 ⟨rfl,hs⟩
 have HS:Hid _:=Sent.behind HI.out HB1.out hs
 clear hs
 go_wp2_with fail
 go_ret
 exact ⟨rfl,HS.out⟩
theorem step_append_six {P:Program} {w:World} {ops:Array Oper} {o:Oper} {a:Act} {K:Act->World->Prop} {Q:Exit->Act->World->Prop} {E:Prop} (hgd:o.guard=none) (s x:Operand) (t:TypeId)
 (ho:o.op=.call { callee:=.builtin .append,args:=#[s,x],argTypes:=#[t,t] })
 (base:Nat) (e:TypeId) (i:TypeInfo) (z:Value) (size bytes:Nat) (ht:P.underlying t=some (.slice e)) (hi:P.info? e=some i) (hz:i.zero=some z)
 (hsize:i.size=size) (hby:i.bytes=bytes) (hzs:z.cells.size=size) (hsz:0<size)
 (v:Value) (n:Nat) (xs:List Value) (hs:a.eval s=v) (hown:w.ownsRow base e size v n xs)
 (ad:Addr) (m c:Nat) (news:List Value) (hx:a.eval x=.slice (some ad) m c) (hl:news.length=m * size) (hnews:∀j u,news[j]?=some u->w.cell? (ad.add j)=some u) (h1:∀u∈news,u.oneCell'=true)
 (h63:n+m<=maxLen) (hbytes:(n+m) * bytes<=140737488355328) (hbase:base<=w.heap.size) (q:Nat) (hq:n+m=q) (ys:List Value) (hy:xs++news=ys)
 (h:∀v' w',w'.ownsRow base e size v' q ys->w.grownBy w' v.ownBlock->K (a.put o.dst v') w'):if Region.wanted o (yielded ops a.tmps)=true then Oper.wp P o a w K Q else E:=by
 subst hq
 subst hy
 have hw:Region.wanted o (yielded ops a.tmps)=true:=by simp [Region.wanted,hgd]
 rw [if_pos hw]
 exact wp_append_own w s x t ho base e i z size bytes ht hi hz hsize hby hzs hsz v n xs hs hown ad m c news hx hl hnews h1 h63 hbytes hbase fun v' w' h2 h3 _=>h v' w' h2 h3
theorem own_up {w:World} {B C e s n:Nat} {v:Value} {xs:List Value} (h:w.ownsRow C e s v n xs) (hB:B<=C):w.ownsRow B e s v n xs:=by
 refine ⟨h.1,h.2.imp id ?_⟩
 rintro ⟨g,cap,cur,h1,h2,h3⟩
 exact ⟨g,cap,cur,h1,Nat.le_trans hB h2,h3⟩
theorem gtake_none (O:Nat->Prop) (p o:Nat) (n:Int) (w:World) (h:MailIn O w p o []):
 Calls Tryz.prog 61 #[.pointer (some ⟨p,o,none⟩),.int .i64 n] w fun e w'=>e=.returned (.tuple #[mlV noMl,.bool false])∧Below w.heap.size w w':=by
 obtain ⟨mv,g0,hrow,_⟩:=h.raw
 obtain ⟨ga,cap,rfl⟩:=own_slice6 hrow
 have hpl:=h.lt
 have hk2:((([]:List Ml).length:Int) == 0)=true:=rfl
 clear h hrow
 go_enter Tryz.func61,Tryz.ntmps61
 go_upto_region 1 with fail
 have hw1:Below w.heap.size w (w.alloc (.cells #[.int .i64 0,.int .i64 0,.int .i64 0,.int .i64 0,.int .i64 0,.bool false] 142)):=(Below.refl _ _).alloc (Nat.le_refl _) _
 have hX:=Box6.zero w
 have g1:(w.alloc (.cells #[.int .i64 0,.int .i64 0,.int .i64 0,.int .i64 0,.int .i64 0,.bool false] 142)).cell? ⟨p,o,none⟩=some (.slice ga ([]:List Ml).length cap):=((bcell hw1).1 _ _ hpl).trans g0
 generalize (w.alloc (.cells #[.int .i64 0,.int .i64 0,.int .i64 0,.int .i64 0,.int .i64 0,.bool false] 142))=w1 at *
 obtain ⟨lt,c0,c1,c2,c3,c4,c5,lo⟩:=hX
 generalize hB:w.heap.size=B at lt c0 c1 c2 c3 c4 c5 lo ⊢
 have HB:Hid (w.heap.size<=B):=Nat.le_of_eq hB
 clear hB g0
 go_wp2_with fail
 exact bodyPost_ret (v:=.tuple #[mlV noMl,.bool false]) (by simp [results,Tryz.results61,go_sem,c0,c1,c2,c3,c4,c5,mlV,noMl]) rfl ⟨rfl,below_put6 (m:=noMl) hw1 HB.out⟩
theorem gtake_some (O:Nat->Prop) (l:List Ml) (p o:Nat) (n:Int) (m:Ml) (w:World) (h:MailIn O w p o l) (hl:l.length<1000) (hm:l[rnd n l.length]?=some m):
 Calls Tryz.prog 61 #[.pointer (some ⟨p,o,none⟩),.int .i64 n] w fun e w'=>e=.returned (.tuple #[mlV m,.bool true])∧Sent O w w' p o (l.eraseIdx (rnd n l.length)):=by
 have HI:Hid (MailIn O w p o l):=h
 have HL:Hid (l.length<1000):=hl
 have hk:=(List.getElem?_eq_some_iff.1 hm).1
 have HM:Hid _:=hm
 clear h hl hm
 go_enter Tryz.func61,Tryz.ntmps61
 have hne:((l.length:Int) == 0)=false:=by rw [beq_eq_false_iff_ne];omega
 obtain ⟨mv0,c9,hrow9,_⟩:=HI.out.raw
 obtain ⟨ga9,cap9,rfl⟩:=own_slice6 hrow9
 have hpl9:=HI.out.lt
 clear hrow9
 go_wp2_with fail
 refine Calls.mono (gat_any O l p o n _ (HI.out.next (by go_grown)) HL.out (by intro e;rw [e] at hk;simp at hk)) ?_
 clear c9 hpl9
 rintro e w1 ⟨rfl,hb1⟩
 have hX:=(Box6.zero w).next hb1
 have hw1:Below w.heap.size w w1:=after (by go_grown) hb1 (by simp)
 have hI1:=HI.out.next hw1
 obtain ⟨mv,c0,hrow,hsub⟩:=hI1.raw
 obtain ⟨g,cap,rfl⟩:=own_some hrow (by omega)
 obtain ⟨_,hR,hnc,_,hcell⟩:=own_row hrow
 have hfl:=flat6_at l _ m HM.out
 have HRow:Hid (w1.ownsRow (p+1) 142 6 (.slice (some ⟨g,0,none⟩) l.length cap) l.length (flat6 l)):=hrow
 generalize hkk:rnd n l.length=k at *
 have p0:w1.cell? ⟨g,k * 6,none⟩=some (.int .i64 m.kind):=hcell _ _ (hfl 0 _ rfl)
 have p1:w1.cell? ⟨g,k * 6+1,none⟩=some (.int .i64 m.deal):=hcell _ _ (hfl 1 _ rfl)
 have p2:w1.cell? ⟨g,k * 6+2,none⟩=some (.int .i64 m.shop):=hcell _ _ (hfl 2 _ rfl)
 have p3:w1.cell? ⟨g,k * 6+3,none⟩=some (.int .i64 m.c):=hcell _ _ (hfl 3 _ rfl)
 have p4:w1.cell? ⟨g,k * 6+4,none⟩=some (.int .i64 m.d):=hcell _ _ (hfl 4 _ rfl)
 have p5:w1.cell? ⟨g,k * 6+5,none⟩=some (.bool m.yes):=hcell _ _ (hfl 5 _ rfl)
 have j0:(0:Int)<=(k:Int):=by omega
 have j1:(k:Int)<(l.length:Int):=by omega
 have hgl:=hR.lt
 have hpl:=hI1.lt
 have HOwn1:Hid (∀k,O k->k<w.heap.size):=HI.out.own
 have HMine:Hid (O p):=HI.out.mine
 have HSub:Hid (∀k,(Value.slice (some ⟨g,0,none⟩) l.length cap).ownBlock=some k->O k):=hsub
 have HX:Hid (Box6 w1 w.heap.size noMl):=hX
 have HI1:Hid (MailIn O w1 p o l):=hI1
 generalize hB:w.heap.size=B at hX HX ⊢
 have HB:Hid (w.heap.size=B):=hB
 have HW1:Hid _:=hw1
 have HKK:Hid _:=hkk
 clear hb1 hB hw1 hI1 hrow hsub hR hcell hfl hX hkk
 go_upto_region 5 with fail
 have hb2:Below w1.heap.size w1 (w1.alloc (.cells #[.int .i64 m.kind,.int .i64 m.deal,.int .i64 m.shop,.int .i64 m.c,.int .i64 m.d,.bool m.yes] 142)):=(Below.refl _ _).alloc (Nat.le_refl _) _
 have hX2:=Box6.new w1 m
 have hX1:=HX.out.next hb2
 have hI2:=HI1.out.next hb2
 have HRow2:Hid ((w1.alloc (.cells #[.int .i64 m.kind,.int .i64 m.deal,.int .i64 m.shop,.int .i64 m.c,.int .i64 m.d,.bool m.yes] 142)).ownsRow (p+1) 142 6 (.slice (some ⟨g,0,none⟩) l.length cap) l.length (flat6 l)):=own_next HRow.out hb2
 have g0:(w1.alloc (.cells #[.int .i64 m.kind,.int .i64 m.deal,.int .i64 m.shop,.int .i64 m.c,.int .i64 m.d,.bool m.yes] 142)).cell? ⟨p,o,none⟩=some (.slice (some ⟨g,0,none⟩) l.length cap):=((bcell hb2).1 _ _ hpl).trans c0
 have hw2:=after HW1.out hb2 HW1.out.size
 have HB2:Hid (B<=w1.heap.size∧g<w1.heap.size):=⟨by have:=HW1.out.size;have:=HB.out;omega,hgl⟩
 generalize (w1.alloc (.cells #[.int .i64 m.kind,.int .i64 m.deal,.int .i64 m.shop,.int .i64 m.c,.int .i64 m.d,.bool m.yes] 142))=w2 at *
 generalize w1.heap.size=B2 at hX2 HB2 ⊢
 have HX2:Hid (Box6 w2 B2 m):=hX2
 have HX1:Hid (Box6 w2 B noMl):=hX1
 have HW2:Hid (Below w.heap.size w w2):=hw2
 have hf2:=hI2.loose
 have hpl2:=hI2.lt
 have HG:Hid (O g):=HSub.out g rfl
 have HGP:Hid (p+1<=g):=(HRow2.out.lt g rfl).1
 clear HX HI1 HRow c0 p0 p1 p2 p3 p4 p5 HW1 hX1 hX2 hw2 hb2 hgl hpl hI2
 have j2:(l.length:Int)<1000:=by have:=HL.out;omega
 obtain ⟨i0,hi,hz0,hz1,hz2⟩:=info_parts infoMail
 obtain ⟨_,_,_,_,hcell2⟩:=own_row HRow2.out
 have hgl2:=(HRow2.out.lt g rfl).2
 have HT:Hid _:=(own_row (own_take HRow2.out rfl (Nat.le_of_lt hk))).2.2.2.2
 have HTl:Hid ((flat6 (l.take k)).length=k * 6):=by show _=_;rw [flat6_length,List.length_take,Nat.min_eq_left (by omega)]
 have HD:Hid _:=cells_drop hcell2 (show k+1<=l.length by omega)
 have HDl:Hid ((flat6 (l.drop (k+1))).length=(l.length - (k+1)) * 6):=by show _=_;rw [flat6_length,List.length_drop]
 have HE:Hid (flat6 (l.take k)++flat6 (l.drop (k+1))=flat6 (l.eraseIdx k)):=by show _=_;rw [erase_split,flat6_append]
 have HEl:Hid ((l.eraseIdx k).length=l.length - 1):=by show _=_;rw [List.length_eraseIdx,if_pos hk]
 clear hcell2
 have k0:(0:Int)<=(k:Int)+1:=by omega
 have k1:(k:Int)+1<=(l.length:Int):=by omega
 have k2:(l.length:Int)<=(cap:Int):=by omega
 have k3:k+1<=l.length:=hk
 have k4:k+1<=cap:=by omega
 have k5:k<=cap:=by omega
 have k6:(k:Int)<=(cap:Int):=by omega
 have hpw:p<w2.heap.size:=hpl2
 have hr:IntKind.i64.wrap ((k:Int)+1)=(k:Int)+1:=by go_unwrap
 go_upto_region 6 with fail
 by_cases hcap:cap=k+1
 ·subst hcap
  have HD0:Hid (l.drop (k+1)=[]):=List.drop_of_length_le (by omega)
  have HE0:Hid (flat6 (l.take k)++[]=flat6 (l.eraseIdx k)):=by have h:=HE.out;rw [HD0.out] at h;exact h
  have kk:(k:Int)<=(k:Int)+1:=by omega
  go_region_law
   (first | (refine step_append_six (by rfl) (.tmp 25) (.tmp 30) 72 (by rfl) w2.heap.size 142 i0 (.agg #[.int .i64 0,.int .i64 0,.int .i64 0,.int .i64 0,.int .i64 0,.bool false]) 6 48 Tryz.underlying72 hi hz0 hz1 hz2 rfl (by decide) (.slice none 0 0) 0 [] (by rfl) (World.ownsRow_nil _ _ _ _) ⟨g,0,none⟩ k (k+1) (flat6 (l.take k)) (by rfl) HTl.out (fun j u hj=>by rw [addr_add];exact HT.out j u hj) (flat6_one _) (by have:=HL.out;unfold maxLen;omega) (by have:=HL.out;omega) (by simp) k (by omega) (flat6 (l.take k)) (by simp) ?_;intro v31 w31 hown31 hgrow31;have HO31:Hid (w31.ownsRow w2.heap.size 142 6 v31 k (flat6 (l.take k))):=hown31;clear hown31;have hz31:w2.heap.size<=w31.heap.size:=Nat.le_trans (by simp) hgrow31.size;have hk31:w31.cell? ⟨p,o,none⟩=some (.slice (some ⟨g,0,none⟩) l.length (k+1)):=hgrow31.cell (by simp [go_sem,g0]) (by simp [Value.ownBlock]);have HS31:Hid (Save (fun _=>False) w2 w31∧Rest p o w2 w31):=⟨(Save.of_below (by go_grown)).grown hgrow31 (fun k e _=>by simp [Value.ownBlock] at e),(Rest.below (by go_grown) hpw).trans (Rest.grown hgrow31 (by simpa using hpw) (by simp [Value.ownBlock]))⟩;clear hgrow31) | (refine step_append_six (by rfl) (.tmp 31) (.tmp 37) 72 (by rfl) w2.heap.size 142 i0 (.agg #[.int .i64 0,.int .i64 0,.int .i64 0,.int .i64 0,.int .i64 0,.bool false]) 6 48 Tryz.underlying72 hi hz0 hz1 hz2 rfl (by decide) v31 k (flat6 (l.take k)) (by rfl) HO31.out ⟨g,0,none⟩ 0 0 [] (by rfl) rfl (fun j u hj=>by simp at hj) (fun u hu=>by simp at hu) (by have:=HL.out;unfold maxLen;omega) (by have:=HL.out;omega) hz31 (l.length - 1) (by omega) (flat6 (l.eraseIdx k)) HE0.out ?_;intro v38 w38 hown38 hgrow38;obtain ⟨ga38,cap38,rfl⟩:=own_slice6 hown38;have HO38:Hid (w38.ownsRow w2.heap.size 142 6 (.slice ga38 (l.length - 1) cap38) (l.length - 1) (flat6 (l.eraseIdx k))):=hown38;clear hown38;have q0:w38.cell? ⟨p,o,none⟩=some (.slice (some ⟨g,0,none⟩) l.length (k+1)):=hgrow38.cell hk31 (fun e=>by have:=(HO31.out.lt p e.symm).1;omega);have HS38:Hid (Save (fun _=>False) w2 w38∧Rest p o w2 w38):=⟨HS31.out.1.grown hgrow38 (fun k e hk=>by have:=(HO31.out.lt k e).1;omega),HS31.out.2.trans (Rest.grown hgrow38 (Nat.lt_of_lt_of_le hpw hz31) (fun e=>by have:=(HO31.out.lt p e.symm).1;omega))⟩;clear hgrow38;have qf:∀k,w38.frozen? ⟨p,k,none⟩=false:=fun k=>(HS38.out.1.frozen (p:=⟨p,k,none⟩) hpw (fun e=>e)).trans (hf2 k)))
  all_goals
   obtain ⟨_,x0,x1,x2,x3,x4,x5,xl⟩:=HX2.out.save HS38.out.1 (fun e=>e)
   obtain ⟨_,b0,b1,b2,b3,b4,b5,bl⟩:=HX1.out.save HS38.out.1 (fun e=>e)
   have HSe:Hid (Sent O w (put6 (w38.setCell ⟨p,o,none⟩ (.slice ga38 (l.length - 1) cap38)) B m) p o (l.eraseIdx k)):=by
    have hsz:B<w2.heap.size:=HX1.out.lt
    have hws:w.heap.size<=w2.heap.size:=HW2.out.size
    refine sent_put HOwn1.out HMine.out ((Save.of_below HW2.out).trans HS38.out.1 (fun j _ e=>e.elim)) ((Rest.below HW2.out (HOwn1.out p HMine.out)).trans HS38.out.2) qf q0 ?_ (fun k hk=>.inr (Nat.le_trans hws (HO38.out.lt k hk).1)) (Nat.le_of_eq HB.out) (fun e=>by have:=(HO38.out.lt B e).1;omega)
    rw [HEl.out]
    exact own_up HO38.out hpw
   have hpB:p ≠ B:=by have:=HOwn1.out p HMine.out;have:=HB.out;omega
   have hpB2:p ≠ B2:=by have:=HOwn1.out p HMine.out;have:=HB.out;have:=HB2.out;omega
   clear HS38 HO38 HX1 HX2 HRow2 g0 hf2 HW2 HB2
   go_wp2_with fail
   refine bodyPost_ret (v:=.tuple #[mlV m,.bool true]) (by simp [results,Tryz.results61,go_sem,b0,b1,b2,b3,b4,b5,mlV]) rfl ⟨rfl,?_⟩
   rw [HKK.out]
   exact HSe.out
 ·go_region_law
   (first | (refine step_append_six (by rfl) (.tmp 25) (.tmp 30) 72 (by rfl) w2.heap.size 142 i0 (.agg #[.int .i64 0,.int .i64 0,.int .i64 0,.int .i64 0,.int .i64 0,.bool false]) 6 48 Tryz.underlying72 hi hz0 hz1 hz2 rfl (by decide) (.slice none 0 0) 0 [] (by rfl) (World.ownsRow_nil _ _ _ _) ⟨g,0,none⟩ k cap (flat6 (l.take k)) (by rfl) HTl.out (fun j u hj=>by rw [addr_add];exact HT.out j u hj) (flat6_one _) (by have:=HL.out;unfold maxLen;omega) (by have:=HL.out;omega) (by simp) k (by omega) (flat6 (l.take k)) (by simp) ?_;intro v31 w31 hown31 hgrow31;have HO31:Hid (w31.ownsRow w2.heap.size 142 6 v31 k (flat6 (l.take k))):=hown31;clear hown31;have hz31:w2.heap.size<=w31.heap.size:=Nat.le_trans (by simp) hgrow31.size;have hk31:w31.cell? ⟨p,o,none⟩=some (.slice (some ⟨g,0,none⟩) l.length cap):=hgrow31.cell (by simp [go_sem,g0]) (by simp [Value.ownBlock]);have HD31:Hid (∀j u,(flat6 (l.drop (k+1)))[j]?=some u->w31.cell? ((⟨g,(k+1) * 6,none⟩:Addr).add j)=some u):=fun j u hj=>hgrow31.cell (HD.out j u hj) (by simp [Value.ownBlock]);have HS31:Hid (Save (fun _=>False) w2 w31∧Rest p o w2 w31):=⟨(Save.of_below (by go_grown)).grown hgrow31 (fun k e _=>by simp [Value.ownBlock] at e),(Rest.below (by go_grown) hpw).trans (Rest.grown hgrow31 (by simpa using hpw) (by simp [Value.ownBlock]))⟩;clear hgrow31) | (refine step_append_six (by rfl) (.tmp 31) (.tmp 37) 72 (by rfl) w2.heap.size 142 i0 (.agg #[.int .i64 0,.int .i64 0,.int .i64 0,.int .i64 0,.int .i64 0,.bool false]) 6 48 Tryz.underlying72 hi hz0 hz1 hz2 rfl (by decide) v31 k (flat6 (l.take k)) (by rfl) HO31.out ⟨g,(k+1) * 6,none⟩ (l.length - (k+1)) (cap - (k+1)) (flat6 (l.drop (k+1))) (by rfl) HDl.out HD31.out (flat6_one _) (by have:=HL.out;unfold maxLen;omega) (by have:=HL.out;omega) hz31 (l.length - 1) (by omega) (flat6 (l.eraseIdx k)) HE.out ?_;intro v38 w38 hown38 hgrow38;obtain ⟨ga38,cap38,rfl⟩:=own_slice6 hown38;have HO38:Hid (w38.ownsRow w2.heap.size 142 6 (.slice ga38 (l.length - 1) cap38) (l.length - 1) (flat6 (l.eraseIdx k))):=hown38;clear hown38;have q0:w38.cell? ⟨p,o,none⟩=some (.slice (some ⟨g,0,none⟩) l.length cap):=hgrow38.cell hk31 (fun e=>by have:=(HO31.out.lt p e.symm).1;omega);have HS38:Hid (Save (fun _=>False) w2 w38∧Rest p o w2 w38):=⟨HS31.out.1.grown hgrow38 (fun k e hk=>by have:=(HO31.out.lt k e).1;omega),HS31.out.2.trans (Rest.grown hgrow38 (Nat.lt_of_lt_of_le hpw hz31) (fun e=>by have:=(HO31.out.lt p e.symm).1;omega))⟩;clear hgrow38;have qf:∀k,w38.frozen? ⟨p,k,none⟩=false:=fun k=>(HS38.out.1.frozen (p:=⟨p,k,none⟩) hpw (fun e=>e)).trans (hf2 k)))
  all_goals
   obtain ⟨_,x0,x1,x2,x3,x4,x5,xl⟩:=HX2.out.save HS38.out.1 (fun e=>e)
   obtain ⟨_,b0,b1,b2,b3,b4,b5,bl⟩:=HX1.out.save HS38.out.1 (fun e=>e)
   have HSe:Hid (Sent O w (put6 (w38.setCell ⟨p,o,none⟩ (.slice ga38 (l.length - 1) cap38)) B m) p o (l.eraseIdx k)):=by
    have hsz:B<w2.heap.size:=HX1.out.lt
    have hws:w.heap.size<=w2.heap.size:=HW2.out.size
    refine sent_put HOwn1.out HMine.out ((Save.of_below HW2.out).trans HS38.out.1 (fun j _ e=>e.elim)) ((Rest.below HW2.out (HOwn1.out p HMine.out)).trans HS38.out.2) qf q0 ?_ (fun k hk=>.inr (Nat.le_trans hws (HO38.out.lt k hk).1)) (Nat.le_of_eq HB.out) (fun e=>by have:=(HO38.out.lt B e).1;omega)
    rw [HEl.out]
    exact own_up HO38.out hpw
   have hpB:p ≠ B:=by have:=HOwn1.out p HMine.out;have:=HB.out;omega
   have hpB2:p ≠ B2:=by have:=HOwn1.out p HMine.out;have:=HB.out;have:=HB2.out;omega
   clear HS38 HO38 HX1 HX2 HRow2 g0 hf2 HW2 HB2
   go_wp2_with fail
   refine bodyPost_ret (v:=.tuple #[mlV m,.bool true]) (by simp [results,Tryz.results61,go_sem,b0,b1,b2,b3,b4,b5,mlV]) rfl ⟨rfl,?_⟩
   rw [HKK.out]
   exact HSe.out
theorem gdbl_none (O:Nat->Prop) (p o:Nat) (n:Int) (w:World) (h:MailIn O w p o []):
 Calls Tryz.prog 62 #[.pointer (some ⟨p,o,none⟩),.int .i64 n] w fun e w'=>e=.returned (.bool false)∧Below w.heap.size w w':=by
 obtain ⟨mv,g0,hrow,_⟩:=h.raw
 obtain ⟨ga,cap,rfl⟩:=own_slice6 hrow
 have hk2:((([]:List Ml).length:Int) == 0)=true:=rfl
 clear h hrow
 go_enter Tryz.func62,Tryz.ntmps62
 go_wp2_with fail
 go_ret
 exact ⟨rfl,Below.refl _ _⟩
theorem gdbl_some (O:Nat->Prop) (l:List Ml) (p o:Nat) (n:Int) (m:Ml) (w:World) (h:MailIn O w p o l) (hl:l.length<1000) (hm:l[rnd n l.length]?=some m):
 Calls Tryz.prog 62 #[.pointer (some ⟨p,o,none⟩),.int .i64 n] w fun e w'=>e=.returned (.bool (sendR l m).1)∧Sent O w w' p o (sendR l m).2:=by
 have HI:Hid (MailIn O w p o l):=h
 have HL:Hid (l.length<1000):=hl
 have hk:=(List.getElem?_eq_some_iff.1 hm).1
 have HM:Hid _:=hm
 have hne:((l.length:Int) == 0)=false:=by rw [beq_eq_false_iff_ne];omega
 obtain ⟨mv,c0,hrow,hsub⟩:=h.raw
 obtain ⟨g,cap,rfl⟩:=own_some hrow (by omega)
 obtain ⟨_,hR,hnc,_,hcell⟩:=own_row hrow
 have hfl:=flat6_at l _ m HM.out
 have HA:Hid (∀W:World,Below w.heap.size w W->Calls Tryz.prog 96 #[.pointer (some ⟨p,o,none⟩),.int .i64 n] W fun e w'=>e=.returned (.int .i64 (rnd n l.length:Int))∧Below W.heap.size W w'):=fun W hW=>gat_any O l p o n W (HI.out.next hW) HL.out (by intro e;rw [e] at hk;simp at hk)
 have HS:Hid (∀W:World,Below w.heap.size w W->Calls Tryz.prog 93 #[.pointer (some ⟨p,o,none⟩),.agg #[.int .i64 m.kind,.int .i64 m.deal,.int .i64 m.shop,.int .i64 m.c,.int .i64 m.d,.bool m.yes]] W fun e w'=>e=.returned (.bool (sendR l m).1)∧Sent O w w' p o (sendR l m).2):=fun W hW=>(gsend_any O l p o m W (HI.out.next hW) HL.out).mono (fun e w' h=>⟨h.1,Sent.behind HI.out hW h.2⟩)
 generalize rnd n l.length=k at *
 have hgl:=hR.lt
 have hpl:=h.lt
 have HK:Hid (∀w',Below w.heap.size w w'->w'.cell? ⟨p,o,none⟩=some (.slice (some ⟨g,0,none⟩) l.length cap)∧w'.cell? ⟨g,k * 6,none⟩=some (.int .i64 m.kind)∧w'.cell? ⟨g,k * 6+1,none⟩=some (.int .i64 m.deal)∧w'.cell? ⟨g,k * 6+2,none⟩=some (.int .i64 m.shop)∧w'.cell? ⟨g,k * 6+3,none⟩=some (.int .i64 m.c)∧w'.cell? ⟨g,k * 6+4,none⟩=some (.int .i64 m.d)∧w'.cell? ⟨g,k * 6+5,none⟩=some (.bool m.yes)∧Below w.heap.size w w'):=fun w' hb=>⟨((bcell hb).1 _ _ hpl).trans c0,((bcell hb).1 _ _ hgl).trans (hcell _ _ (hfl 0 _ rfl)),((bcell hb).1 _ _ hgl).trans (hcell _ _ (hfl 1 _ rfl)),((bcell hb).1 _ _ hgl).trans (hcell _ _ (hfl 2 _ rfl)),((bcell hb).1 _ _ hgl).trans (hcell _ _ (hfl 3 _ rfl)),((bcell hb).1 _ _ hgl).trans (hcell _ _ (hfl 4 _ rfl)),((bcell hb).1 _ _ hgl).trans (hcell _ _ (hfl 5 _ rfl)),hb⟩
 have j0:(0:Int)<=(k:Int):=by omega
 have j1:(k:Int)<(l.length:Int):=by omega
 obtain ⟨q0,q1,q2,q3,q4,q5,q6,_⟩:=HK.out w.drew ((Below.refl _ _).drew)
 clear h hl hm hrow hsub hR hcell hfl
 go_enter Tryz.func62,Tryz.ntmps62
 go_upto_region 3 with fail
 clear c0
 go_region_with (first | (go_at_call 96;refine Calls.mono (HA.out _ (by go_grown)) ?_;rintro e w9 ⟨rfl,hb9⟩;have hw9:Below w.heap.size w w9:=after (by go_grown) hb9 (by simp);obtain ⟨r0,r1,r2,r3,r4,r5,r6,_⟩:=HK.out w9 hw9;clear hb9) | (go_at_call 93;refine Calls.mono (HS.out _ (by go_grown)) ?_;rintro e w10 ⟨rfl,hs10⟩;have HS10:Hid _:=hs10;clear hs10))
 all_goals
  go_wp2_with fail
  go_ret
  exact ⟨rfl,HS10.out⟩
theorem ptake_any (O:Nat->Prop) (l:List Ml) (p o:Nat) (n:Int) (w:World) (h:MailIn O w p o l) (hl:l.length<1000):
 Calls Tryz.prog 157 #[.pointer (some ⟨p,o,none⟩),.int .i64 n] w fun e w'=>e=.returned (.tuple #[mlV (takeR l n).1,.bool (takeR l n).2.1])∧Sent O w w' p o (takeR l n).2.2:=by
 by_cases hne:l=[]
 ·subst hne
  exact (ptake_none O p o n w h).mono (fun e w' q=>⟨q.1,Sent.stay h q.2⟩)
 ·obtain ⟨m,hm⟩:=rnd_some n hne
  rw [takeR_some hm]
  exact ptake_some O l p o n m w h hl hm
theorem gtake_any (O:Nat->Prop) (l:List Ml) (p o:Nat) (n:Int) (w:World) (h:MailIn O w p o l) (hl:l.length<1000):
 Calls Tryz.prog 61 #[.pointer (some ⟨p,o,none⟩),.int .i64 n] w fun e w'=>e=.returned (.tuple #[mlV (takeR l n).1,.bool (takeR l n).2.1])∧Sent O w w' p o (takeR l n).2.2:=by
 by_cases hne:l=[]
 ·subst hne
  exact (gtake_none O p o n w h).mono (fun e w' q=>⟨q.1,Sent.stay h q.2⟩)
 ·obtain ⟨m,hm⟩:=rnd_some n hne
  rw [takeR_some hm]
  exact gtake_some O l p o n m w h hl hm
theorem pdbl_any (O:Nat->Prop) (l:List Ml) (p o:Nat) (n:Int) (w:World) (h:MailIn O w p o l) (hl:l.length<1000):
 Calls Tryz.prog 161 #[.pointer (some ⟨p,o,none⟩),.int .i64 n] w fun e w'=>e=.returned (.bool (dblR l n).1)∧Sent O w w' p o (dblR l n).2:=by
 by_cases hne:l=[]
 ·subst hne
  exact (pdbl_none O p o n w h).mono (fun e w' q=>⟨q.1,Sent.stay h q.2⟩)
 ·obtain ⟨m,hm⟩:=rnd_some n hne
  rw [dblR_some hm]
  exact pdbl_some O l p o n m w h hl hm
theorem gdbl_any (O:Nat->Prop) (l:List Ml) (p o:Nat) (n:Int) (w:World) (h:MailIn O w p o l) (hl:l.length<1000):
 Calls Tryz.prog 62 #[.pointer (some ⟨p,o,none⟩),.int .i64 n] w fun e w'=>e=.returned (.bool (dblR l n).1)∧Sent O w w' p o (dblR l n).2:=by
 by_cases hne:l=[]
 ·subst hne
  exact (gdbl_none O p o n w h).mono (fun e w' q=>⟨q.1,Sent.stay h q.2⟩)
 ·obtain ⟨m,hm⟩:=rnd_some n hne
  rw [dblR_some hm]
  exact gdbl_some O l p o n m w h hl hm
end Go.Proofs.YtbgnajcmhmpjlacGreatDoor
