/- A desk tells what a shop has, and what is held there. -/
import Derived.Lib.Builder
import Derived.Lib.UnsafeStr
import Derived.Lib.AppendStr
import Derived.Laws.Externs
import Derived.Shelf.RegionOpenPlain
import Derived.Lib.FieldsP
import Derived.Lib.AtoiAll
import Derived.Lib.ItoaNum
import Derived.Test.YtbgnajcmhmpjlacGreatDoorDShelf
import Derived.Lib.SmallJoins
import Derived.Lib.AtoiErrMem
import Derived.Lib.AtoiAllCases
import Derived.Deep.RegionHeld3
import Derived.Test.YtbgnajcmhmpjlacGreatDoorA7
import Derived.Test.YtbgnajcmhmpjlacGreatDoorA8
set_option maxRecDepth 100000
set_option maxHeartbeats 100000000
namespace Go.Proofs.YtbgnajcmhmpjlacGreatDoor
open Go.RowKit
def dkO (q:Nat) (a v:Value):Obj:=.cells #[a,v,.pointer (some ⟨q,0,none⟩)] 48 (0,0)
structure BldIn (p q:Nat) (l:List UInt8) (O:Nat->Prop) (w:World):Prop where
 own:∀k,O k->k<w.heap.size
 mine:O p
 raw:∃a v,w.heap[p]?=some (dkO q a v)∧(a=.pointer none∨a=.pointer (some ⟨p,0,none⟩))∧w.ownsRow (p+1) 5 1 v l.length (Lib.byteCells l)∧(∀k,v.ownBlock=some k->O k)∧(l=[]->v=.slice none 0 0)
structure BldRaw (p q:Nat) (O:Nat->Prop) (w:World):Prop where
 own:∀k,O k->k<w.heap.size
 mine:O p
 raw:∃a v,w.heap[p]?=some (dkO q a v)
theorem dk_cell {w:World} {p q:Nat} {a v:Value} (h:w.heap[p]?=some (dkO q a v)):w.cell? ⟨p,0,none⟩=some a∧w.cell? ⟨p,1,none⟩=some v∧w.cell? ⟨p,2,none⟩=some (.pointer (some ⟨q,0,none⟩))∧w.shape? p=some (48,3)∧p<w.heap.size∧∀k,w.frozen? ⟨p,k,none⟩=false:=by
 refine ⟨?_,?_,?_,?_,(Array.getElem?_eq_some_iff.1 h).1,fun k=>?_⟩ <;> simp [World.cell?,World.shape?,World.frozen?,h,dkO]
theorem bld_stands (p q:Nat) (l:List UInt8):Stands (BldIn p q l):=by
 refine ⟨fun h=>h.own,fun {O O' w w1} h hb hn=>?_⟩
 obtain ⟨a,v,h1,h2,h3,h4,h5⟩:=h.raw
 exact ⟨fun k hk=>Nat.lt_of_lt_of_le (h.own k hk) hb.size,h.mine,a,v,(hb.block p (h.own p h.mine) (hn p h.mine)).trans h1,h2,own_save h3 hb (fun k hk=>hn k (h4 k hk)),h4,h5⟩
theorem dk_set0 {w:World} {p q:Nat} {a v u:Value} (h:w.heap[p]?=some (dkO q a v)):(w.setCell ⟨p,0,none⟩ u).heap[p]?=some (dkO q u v):=by
 simp [World.setCell,Array.getElem?_modify,h,dkO]
theorem dk_set1 {w:World} {p q:Nat} {a v u:Value} (h:w.heap[p]?=some (dkO q a v)):(w.setCell ⟨p,1,none⟩ u).heap[p]?=some (dkO q a u):=by
 simp [World.setCell,Array.getElem?_modify,h,dkO]
theorem sizeB:(Tryz.prog.info? 46).map (·.size)=some 2:=by kernel_rfl
theorem liesB:liesAt Tryz.prog Tryz.prog.depth 48 (3 / Tryz.prog.cellsOf 48) 0 46 1=true:=by kernel_rfl
theorem infoByte:(Tryz.prog.info? 5).map (fun i=>(i.zero,i.size,i.bytes))=some (some (.int .u8 0),1,1):=by kernel_rfl
theorem cellsByte:Tryz.prog.cellsOf 5=1:=by kernel_rfl
theorem str_where {P:Program} {w:World} {base:Nat} {t u ty e:TypeId} {i:TypeInfo} (ht:P.underlying t=some (.slice e)) (hu:P.underlying u=some .string) (hi:P.info? e=some i) (hz:i.zero=some (.int .u8 0)) (hsize:i.size=1) (hby:i.bytes=1)
 {v:Value} {n:Nat} {xs:List Value} (hown:w.ownsRow base e 1 v n xs) {s:ByteArray} (h63:n+s.size<=maxLen) (hbytes:n+s.size<=140737488355328) (hm:0<s.size) {v':Value} {w':World} (hr:(Builtin.append_ #[t,u] ty #[v,.string s]).run P w=.ok v' w'):
 ∀k,v'.ownBlock=some k->v.ownBlock=some k∨k=w.heap.size:=by
 have hsmall:n+s.size<=9223372036854775807:=by simp only [maxLen] at h63;omega
 have hxl:xs.length=n:=by simpa using hown.1
 intro k hk
 rcases hown.2 with ⟨rfl,rfl⟩ | ⟨g,cap,cur,rfl,hbg,hg,hnc,hcm,hcs,htake⟩
 ·have q:=run_append_nil_string (P:=P) w t u ty e i (.int .u8 0) ht hu hi hz s (by omega) (by omega) (by rw [hby];omega)
  rw [q] at hr
  injection hr with e1 _
  rw [<-e1] at hk
  right
  simpa [Value.ownBlock] using hk.symm
 ·by_cases hroom:n+s.size<=cap
  ·have hcs':cur.size=cap:=by simpa using hcs
   have q:=Lib.run_append_room_string (P:=P) w t u ty e i ht hu hi hsize g n cap cur hg s hroom (by omega)
   rw [q] at hr
   injection hr with e1 _
   rw [<-e1] at hk
   left
   simpa [Value.ownBlock] using hk
  ·have q:=Lib.run_append_grow_string (P:=P) w t u ty e i (.int .u8 0) ht hu hi hz ⟨g,0,none⟩ n cap xs (by rw [hsize];simpa using hxl) (hown.cells (g:=g) rfl) s (by omega) (by omega) (by rw [hby];exact growslice_fits (by omega) (by omega))
   rw [q] at hr
   injection hr with e1 _
   rw [<-e1] at hk
   right
   simpa [Value.ownBlock] using hk.symm
theorem list_append_str {P:Program} {w:World} {ops:Array Oper} {rest:List Oper} {o:Oper} {a:Act} {Q:Exit->Act->World->Prop} (hgd:o.guard=none) (sl x:Operand) (t u:TypeId)
 (ho:o.op=.call { callee:=.builtin .append,args:=#[sl,x],argTypes:=#[t,u] })
 (base:Nat) (e:TypeId) (i:TypeInfo) (ht:P.underlying t=some (.slice e)) (hu:P.underlying u=some .string) (hi:P.info? e=some i) (hz:i.zero=some (.int .u8 0)) (hsize:i.size=1) (hby:i.bytes=1)
 (v:Value) (n:Nat) (xs:List Value) (hs:a.eval sl=v) (hown:w.ownsRow base e 1 v n xs) (s:ByteArray) (hx:a.eval x=.string s)
 (h63:n+s.size<=maxLen) (hbytes:n+s.size<=140737488355328) (hbase:base<=w.heap.size) (hm:0<s.size)
 (h:∀v' w',w'.ownsRow base e 1 v' (n+s.size) (xs++Lib.strCells s)->w.grownBy w' v.ownBlock->(∀k,v'.ownBlock=some k->v.ownBlock=some k∨k=w.heap.size)->wpList P ops Q rest (a.put o.dst v') w'):wpList P ops Q (o :: rest) a w:=by
 refine wpList_plain hgd fun K hK=>?_
 obtain ⟨v',w',hr,h2,h3,_⟩:=Lib.run_append_own_string (P:=P) w base t u o.type e i ht hu hi hz hsize hby v n xs hown s h63 hbytes hbase
 have h4:=str_where ht hu hi hz hsize hby hown h63 hbytes hm hr
 unfold Oper.wp execOp
 simp only [ho,resolve,invoke,builtin,Sem.run_bind,Sem.run_pure,Result.andThen_ok,List.map_toArray,List.map_cons,List.map_nil,hs,hx,hr]
 exact hK _ _ (h v' w' h2 h3 h4)
theorem bcheck_any {p q:Nat} {a v:Value} {w:World} (h:w.heap[p]?=some (dkO q a v)) (ha:a=.pointer none∨a=.pointer (some ⟨p,0,none⟩)):
 Calls Tryz.prog 85 #[.pointer (some ⟨p,0,none⟩)] w fun e w'=>e=.returned (.tuple #[])∧w'.heap[p]?=some (dkO q (.pointer (some ⟨p,0,none⟩)) v)∧Save (fun k=>k=p) w w':=by
 obtain ⟨j,hj,hjs⟩:=Option.map_eq_some_iff.1 sizeB
 obtain ⟨h0,_,_,hsh,hlt,hf⟩:=dk_cell h
 have hf0:=hf 0
 have HH:Hid _:=h
 clear h hf
 rcases ha with rfl | rfl
 ·go_enter Tryz.func85,Tryz.ntmps85
  go_wp2
  rw [Lib.run_to_unsafe w ⟨p,0,none⟩ Tryz.underlying43 Tryz.underlying195 hj (by rw [hjs];decide) hsh (by simp)]
  simp only [Result.andThen]
  rw [Oper.upon_value]
  go_wp2
  rw [run_callFunc_extern Tryz.func118 (by kernel_rfl) (by kernel_rfl) (by kernel_rfl) (e:=Extern.AbiNoEscape.same) (by kernel_rfl)]
  rw [Lib.run_noEscape]
  simp only [Result.andThen]
  rw [Oper.upon_value]
  go_wp2
  rw [Lib.run_from_unsafe w ⟨p,0,none⟩ Tryz.underlying195 Tryz.underlying43 hj hsh liesB]
  simp only [Result.andThen]
  rw [Oper.upon_value]
  go_wp2
  go_end0
  exact ⟨rfl,dk_set0 HH.out,Save.setCell (O:=fun k=>k=p) (Save.refl _ w) (p:=⟨p,0,none⟩) (fun _=>rfl) _⟩
 ·go_enter Tryz.func85,Tryz.ntmps85
  go_wp2
  rw [Lib.run_neq_ptr_same w _ Tryz.underlying43 hj]
  go_wp2
  go_end0
  exact ⟨rfl,HH.out,Save.refl _ w⟩
def Room (n:Nat):Prop:=n<=2000000
theorem Room.lt {n:Nat} (h:Room n):n<=maxLen∧n<=140737488355328:=by unfold Room at h;unfold maxLen;omega
theorem wstr_any {O:Nat->Prop} {p q:Nat} {l:List UInt8} {w:World} (s:ByteArray) (h:BldIn p q l O w) (hs:0<s.size) (hR:Room (l.length+s.size)):
 Calls Tryz.prog 53 #[.pointer (some ⟨p,0,none⟩),.string s] w fun e w'=>e=.returned (.tuple #[.int .i64 s.size,.nilIface])∧To (BldIn p q (l++s.data.toList)) O w w':=by
 obtain ⟨i0,hi,hz0,hz1,hz2⟩:=info_parts infoByte
 obtain ⟨a,v,hbk,ha,hown,hsub,_⟩:=h.raw
 have HOwn:Hid (∀k,O k->k<w.heap.size):=h.own
 have HMine:Hid (O p):=h.mine
 have hp:p<w.heap.size:=h.own p h.mine
 have HS:Hid (∀k,v.ownBlock=some k->O k):=hsub
 have HB:Hid (w.ownsRow (p+1) 5 1 v l.length (Lib.byteCells l)):=hown
 have HR:Hid (Room (l.length+s.size)):=hR
 have HZ:Hid (0<s.size):=hs
 clear h hown hsub hs hR
 go_enter Tryz.func53,Tryz.ntmps53
 go_wp2_with (go_at_call 85;refine (bcheck_any hbk ha).mono ?_)
 rintro e w1 ⟨rfl,hb1,hS1⟩
 have hown1:w1.ownsRow (p+1) 5 1 v l.length (Lib.byteCells l):=own_save HB.out hS1 (fun k hk e=>by have:=(HB.out.lt k hk).1;omega)
 have hz1':=hS1.size
 have HB1:Hid _:=hb1
 have HS1:Hid (Save (fun k=>k=p) w w1):=hS1
 obtain ⟨c0,c1,_,_,hlt1,_⟩:=dk_cell hb1
 clear hbk ha hb1 hS1
 go_wp2_with (at_builtin;refine list_append_str rfl _ _ 44 9 rfl (p+1) 5 i0 Tryz.underlying44 Tryz.underlying9 hi hz0 hz1 hz2 _ _ _ rfl hown1 s rfl ?c3 ?c4 ?c5 ?c6 ?_)
 case c3=>exact (Room.lt HR.out).1
 case c4=>exact (Room.lt HR.out).2
 case c5=>omega
 case c6=>exact HZ.out
 intro v' w2 hown' hgrow hwhere
 have hne:some p ≠ v.ownBlock:=fun e=>by have:=(hown1.lt p e.symm).1;omega
 have hb2:w2.heap[p]?=some (dkO q (.pointer (some ⟨p,0,none⟩)) v):=by
  rw [hgrow.block p hlt1 hne]
  exact HB1.out
 obtain ⟨d0,d1,_,_,hlt2,f2⟩:=dk_cell hb2
 have f1:=f2 1
 obtain ⟨ao,n',cap,rfl⟩:∃ao n' cap,v'=.slice ao n' cap:=by
  rcases hown'.2 with ⟨hv,_⟩ | ⟨g,cap,cur,hv,_⟩
  ·exact ⟨_,_,_,hv⟩
  ·exact ⟨_,_,_,hv⟩
 have HB2:Hid _:=hb2
 have HO':Hid (w2.ownsRow (p+1) 5 1 (.slice ao n' cap) (l.length+s.size) (Lib.byteCells l++Lib.strCells s)):=hown'
 have HG:Hid (w1.grownBy w2 v.ownBlock):=hgrow
 have HW:Hid (∀k,(Value.slice ao n' cap).ownBlock=some k->v.ownBlock=some k∨k=w1.heap.size):=hwhere
 clear hb2 hown' hgrow hwhere hown1
 go_wp2
 go_ret2
 have e1:(l++s.data.toList).length=l.length+s.size:=by rw [List.length_append];rfl
 have hS2:Save O w w2:=((HS1.out.mono (fun k _ e=>by rw [e];exact HMine.out)).grown HG.out (fun k hk _=>HS.out k hk))
 refine ⟨rfl,fun k=>O k∨(Value.slice ao n' cap).ownBlock=some k,⟨fun k hk=>?_,.inl HMine.out,_,_,dk_set1 HB2.out,.inr rfl,?_,fun k hk=>.inr hk,fun e=>?_⟩,hS2.setCell (p:=⟨p,1,none⟩) (fun _=>HMine.out) _,fun k hk=>?_⟩
 ·show k<(w2.setCell _ _).heap.size
  rw [show (w2.setCell (⟨p,1,none⟩:Addr) (.slice ao n' cap)).heap.size=w2.heap.size by simp]
  rcases hk with hk | hk
  ·exact Nat.lt_of_lt_of_le (HOwn.out k hk) hS2.size
  ·exact (HO'.out.lt k hk).2
 ·rw [e1,Lib.byteCells_append]
  exact ownsRow_setCell_below HO'.out (Nat.lt_succ_self p) _
 ·have q1:=congrArg List.length e
  have q2:0<s.size:=HZ.out
  rw [e1,List.length_nil] at q1
  omega
 ·rcases hk with hk | hk
  ·exact .inl hk
  ·rcases HW.out k hk with q1 | q1
   ·exact .inl (HS.out k q1)
   ·exact .inr (by omega)
theorem wbyte_any {O:Nat->Prop} {p q:Nat} {l:List UInt8} {w:World} (c:UInt8) (h:BldIn p q l O w) (hR:Room (l.length+1)):
 Calls Tryz.prog 55 #[.pointer (some ⟨p,0,none⟩),.int .u8 c.toNat] w fun e w'=>e=.returned .nilIface∧To (BldIn p q (l++[c])) O w w':=by
 obtain ⟨i0,hi,hz0,hz1,hz2⟩:=info_parts infoByte
 obtain ⟨a,v,hbk,ha,hown,hsub,_⟩:=h.raw
 have HOwn:Hid (∀k,O k->k<w.heap.size):=h.own
 have HMine:Hid (O p):=h.mine
 have hp:p<w.heap.size:=h.own p h.mine
 have HS:Hid (∀k,v.ownBlock=some k->O k):=hsub
 have HB:Hid (w.ownsRow (p+1) 5 1 v l.length (Lib.byteCells l)):=hown
 have HR:Hid (Room (l.length+1)):=hR
 clear h hown hsub hR
 go_enter Tryz.func55,Tryz.ntmps55
 go_wp2_with (go_at_call 85;refine (bcheck_any hbk ha).mono ?_)
 rintro e w1 ⟨rfl,hb1,hS1⟩
 have hown1:w1.ownsRow (p+1) 5 1 v l.length (Lib.byteCells l):=own_save HB.out hS1 (fun k hk e=>by have:=(HB.out.lt k hk).1;omega)
 have hz1':=hS1.size
 have HB1:Hid _:=hb1
 have HS1:Hid (Save (fun k=>k=p) w w1):=hS1
 obtain ⟨c0,c1,_,_,hlt1,_⟩:=dk_cell hb1
 clear hbk ha hb1 hS1
 go_wp2_with (at_builtin;refine list_append_two rfl _ _ 44 rfl (p+1) 5 i0 (.int .u8 0) 1 1 Tryz.underlying44 hi hz0 hz1 hz2 rfl (by decide) _ _ _ rfl (hown1.alloc _) ⟨w1.heap.size,0,none⟩ 1 1 [.int .u8 c.toNat] rfl rfl ?c1 ?c2 ?c3 ?c4 ?c5 (by decide) ?_)
 case c1=>
  intro j u hj
  match j,hj with
  | 0,hj=>simp at hj;subst hj;simp [Addr.add]
 case c2=>intro u hu;simp at hu;subst hu;rfl
 case c3=>exact (Room.lt HR.out).1
 case c4=>have:=(Room.lt HR.out).2;omega
 case c5=>simp;omega
 intro v' w2 hown' hgrow hwhere
 have hne:some p ≠ v.ownBlock:=fun e=>by have:=(hown1.lt p e.symm).1;omega
 have hb2:w2.heap[p]?=some (dkO q (.pointer (some ⟨p,0,none⟩)) v):=by
  rw [hgrow.block p (by simp;omega) hne]
  simp only [World.alloc,Array.getElem?_push]
  rw [if_neg (by omega)]
  exact HB1.out
 obtain ⟨d0,d1,_,_,hlt2,f2⟩:=dk_cell hb2
 have f1:=f2 1
 obtain ⟨ao,n',cap,rfl⟩:∃ao n' cap,v'=.slice ao n' cap:=by
  rcases hown'.2 with ⟨hv,_⟩ | ⟨g,cap,cur,hv,_⟩
  ·exact ⟨_,_,_,hv⟩
  ·exact ⟨_,_,_,hv⟩
 have HB2:Hid _:=hb2
 have HO':Hid (w2.ownsRow (p+1) 5 1 (.slice ao n' cap) (l.length+1) (Lib.byteCells l++[.int .u8 c.toNat])):=hown'
 have HG:Hid ((w1.alloc (.cells #[.int .u8 c.toNat] 5)).grownBy w2 v.ownBlock):=hgrow
 have HW:Hid (∀k,(Value.slice ao n' cap).ownBlock=some k->v.ownBlock=some k∨k=w1.heap.size+1):=hwhere
 clear hb2 hown' hgrow hwhere hown1
 go_wp2
 go_ret
 have e1:(l++[c]).length=l.length+1:=by simp
 have hS2:Save O w w2:=(((HS1.out.mono (fun k _ e=>by rw [e];exact HMine.out)).next (by go_grown)).grown HG.out (fun k hk _=>HS.out k hk))
 refine ⟨rfl,fun k=>O k∨(Value.slice ao n' cap).ownBlock=some k,⟨fun k hk=>?_,.inl HMine.out,_,_,dk_set1 HB2.out,.inr rfl,?_,fun k hk=>.inr hk,fun e=>?_⟩,hS2.setCell (p:=⟨p,1,none⟩) (fun _=>HMine.out) _,fun k hk=>?_⟩
 ·show k<(w2.setCell _ _).heap.size
  rw [show (w2.setCell (⟨p,1,none⟩:Addr) (.slice ao n' cap)).heap.size=w2.heap.size by simp]
  rcases hk with hk | hk
  ·exact Nat.lt_of_lt_of_le (HOwn.out k hk) hS2.size
  ·exact (HO'.out.lt k hk).2
 ·rw [e1,Lib.byteCells_append]
  exact ownsRow_setCell_below HO'.out (Nat.lt_succ_self p) _
 ·simp at e
 ·rcases hk with hk | hk
  ·exact .inl hk
  ·rcases HW.out k hk with q1 | q1
   ·exact .inl (HS.out k q1)
   ·exact .inr (by omega)
theorem save_freeze {O:Nat->Prop} {a w:World} (h:Save O a w) {g:Nat} (hg:O g) (n:Nat):Save O a (w.freeze ⟨g,0,none⟩ n):=by
 unfold World.freeze
 split
 ·exact h
 ·refine ⟨h.os,h.tape,h.output,by simpa using h.size,fun k hk hn=>?_⟩
  rw [<-h.block k hk hn]
  show (w.heap.modify g _)[k]?=_
  rw [Array.getElem?_modify,if_neg (fun e=>hn (by rw [<-e];exact hg))]
theorem bstring_any {O:Nat->Prop} {p q:Nat} {l:List UInt8} {w:World} (h:BldIn p q l O w):
 Calls Tryz.prog 16 #[.pointer (some ⟨p,0,none⟩)] w fun e w'=>e=.returned (.string ⟨l.toArray⟩)∧BldRaw p q O w'∧Save O w w':=by
 obtain ⟨a,v,hbk,ha,hown,hsub,hnil⟩:=h.raw
 have HOwn:Hid (∀k,O k->k<w.heap.size):=h.own
 have HMine:Hid (O p):=h.mine
 have hd:w.drew.heap[p]?=some (dkO q a v):=hbk
 have mixed:Tryz.prog.follows .mixedOrders=true:=by kernel_rfl
 by_cases h0:l=[]
 ·subst h0
  have hv:=hnil rfl
  subst hv
  obtain ⟨_,c1,_⟩:=dk_cell hd
  have HK:Hid (w.heap[p]?=some (dkO q a (.slice none 0 0))):=hbk
  have hUS:=fun W:World=>Lib.run_unsafeString_none (P:=Tryz.prog) W 85 3 9 none
  have hSD:(Builtin.unsafeSliceData_ #[44] 85 #[.slice none 0 0]).run Tryz.prog w.drew=.ok (.pointer none) w.drew:=rfl
  clear hbk hown hsub hnil ha h hd
  go_enter Tryz.func16,Tryz.ntmps16
  go_wp2
  go_region_o
  all_goals
   go_wp2
   go_ret
   exact ⟨rfl,⟨HOwn.out,HMine.out,_,_,HK.out⟩,Save.of_below (Below.drew (Below.refl _ w))⟩
 ·have hl0:l.length ≠ 0:=by simpa using h0
  obtain ⟨g,cap,cur,rfl,hbg,hg,hnc,hcm,hcs,htake⟩:∃g cap cur,v=.slice (some ⟨g,0,none⟩) l.length cap∧p+1<=g∧w.heap[g]?=some (.cells cur 5 (0,0))∧l.length<=cap∧cap<=maxLen∧cur.size=cap * 1∧cur.toList.take (l.length * 1)=Lib.byteCells l:=by
   rcases hown.2 with ⟨_,hz⟩ | ⟨g,cap,cur,hv,r⟩
   ·exact absurd hz hl0
   ·exact ⟨g,cap,cur,hv,r⟩
  obtain ⟨_,c1,_⟩:=dk_cell hd
  have hSD:(Builtin.unsafeSliceData_ #[44] 85 #[.slice (some ⟨g,0,none⟩) l.length cap]).run Tryz.prog w.drew=.ok (.pointer (some ⟨g,0,none⟩)) w.drew:=Lib.run_unsafeSliceData_row w.drew _ _ _ _ _ (by omega)
  have hUS:(Builtin.unsafeString_ #[85,3] 9 #[.pointer (some ⟨g,0,none⟩),.int .i64 l.length]).run Tryz.prog w.drew=.ok (.string ⟨l.toArray⟩) (w.drew.freeze ⟨g,0,none⟩ l.length):=by
   refine Lib.run_unsafeString_row w.drew 85 3 9 5 Tryz.underlying85 cellsByte g cur.size (by have hg':w.drew.heap[g]?=some (.cells cur 5 (0,0)):=hg;simp [World.shape?,hg']) l h0 (by omega) (by unfold maxLen at hcm;omega) ?_
   intro j x hx
   exact hown.cells (g:=g) rfl j (.int .u8 x.toNat) (by simp [Lib.byteCells,hx])
  have HF:Hid (BldRaw p q O (w.drew.freeze ⟨g,0,none⟩ l.length)∧Save O w (w.drew.freeze ⟨g,0,none⟩ l.length)):=by
   have hS:Save O w (w.drew.freeze ⟨g,0,none⟩ l.length):=save_freeze (Save.of_below (Below.drew (Below.refl _ w))) (hsub g rfl) _
   refine ⟨⟨fun k hk=>Nat.lt_of_lt_of_le (HOwn.out k hk) hS.size,HMine.out,a,.slice (some ⟨g,0,none⟩) l.length cap,?_⟩,hS⟩
   rw [<-hd]
   unfold World.freeze
   rw [if_neg hl0]
   show (w.drew.heap.modify g _)[p]?=_
   rw [Array.getElem?_modify,if_neg (by omega)]
  clear hbk hown hsub hnil ha h hd htake hcs hg hcm
  go_enter Tryz.func16,Tryz.ntmps16
  go_wp2
  go_region_o
  all_goals
   go_wp2
   go_ret
   exact ⟨rfl,HF.out⟩
theorem breset_any {O:Nat->Prop} {p q:Nat} {w:World} (h:BldRaw p q O w):
 Calls Tryz.prog 17 #[.pointer (some ⟨p,0,none⟩)] w fun e w'=>e=.returned (.tuple #[])∧BldIn p q [] O w'∧Save O w w':=by
 obtain ⟨a,v,hbk⟩:=h.raw
 have HOwn:Hid (∀k,O k->k<w.heap.size):=h.own
 have HMine:Hid (O p):=h.mine
 obtain ⟨c0,c1,_,_,hlt,hf⟩:=dk_cell hbk
 have f0:=hf 0
 have f1:=hf 1
 have HK:Hid (w.heap[p]?=some (dkO q a v)):=hbk
 clear h hbk hf
 go_enter Tryz.func17,Tryz.ntmps17
 go_wp2
 go_end0
 have hS:Save O w ((w.setCell ⟨p,0,none⟩ (.pointer none)).setCell ⟨p,1,none⟩ (.slice none 0 0)):=((Save.refl O w).setCell (p:=⟨p,0,none⟩) (fun _=>HMine.out) _).setCell (p:=⟨p,1,none⟩) (fun _=>HMine.out) _
 exact ⟨rfl,⟨fun k hk=>Nat.lt_of_lt_of_le (HOwn.out k hk) hS.size,HMine.out,_,_,dk_set1 (dk_set0 HK.out),.inl rfl,World.ownsRow_nil _ _ _ _,fun k hk=>by simp [Value.ownBlock] at hk,fun _=>rfl⟩,hS⟩
def wordsR:List UInt8->List UInt8->List (List UInt8)
 | [],acc=>if acc=[] then [] else [acc]
 | c :: r,acc=>if c=32 then (if acc=[] then wordsR r [] else acc :: wordsR r []) else wordsR r (acc++[c])
theorem words_read:∀(l r acc:List UInt8),(∀x∈l,x ≠ 32)->wordsR (l++r) acc=wordsR r (acc++l)
 | [],r,acc,_=>by simp
 | c :: l,r,acc,h=>by
   have hc:c ≠ 32:=h c (by simp)
   simp only [List.cons_append,wordsR,if_neg hc]
   rw [words_read l r (acc++[c]) (fun x hx=>h x (by simp [hx]))]
   simp
theorem decode32 (s:ByteArray) (i:Nat):((Utf8.decode s i).1=32->(Utf8.decode s i).2=1∧s.get! i=32)∧((Utf8.decode s i).1 ≠ 32->∀j,j<(Utf8.decode s i).2->s.get! (i+j) ≠ 32):=by
 have h32:∀b:UInt8,b=32 ↔ b.toNat=32:=fun b=>⟨fun h=>by rw [h];rfl,fun h=>UInt8.toNat_inj.1 (by rw [h];rfl)⟩
 have hre:Utf8.runeError ≠ 32:=by decide
 unfold Utf8.decode
 simp only [Nat.add_zero,ge_iff_le,Bool.and_eq_true,beq_iff_eq,decide_eq_true_eq,h32,ne_eq]
 repeat' split
 all_goals refine ⟨fun h=>?_,fun h j hj=>?_⟩
 all_goals (try (simp only at h hj))
 all_goals (try (simp only at h))
 all_goals (try omega)
 all_goals (try (exact absurd h hre))
 all_goals (
  match j,hj with
  | 0,_=>simp only [Nat.add_zero];omega
  | 1,_=>omega
  | 2,_=>omega
  | 3,_=>omega
  | k+4,hj=>omega)
theorem take_get (s:ByteArray) (i k:Nat) (h:i+k<=s.size):∀x∈(s.data.toList.drop i).take k,∃j,j<k∧s.get! (i+j)=x:=by
 intro x hx
 obtain ⟨j,hj,rfl⟩:=List.mem_iff_getElem.1 hx
 have hl:j<k:=by have:=hj;simp at this;omega
 refine ⟨j,hl,?_⟩
 have hs:s.size=s.data.size:=rfl
 rw [List.getElem_take,List.getElem_drop,Array.getElem_toList]
 have hz:i+j<s.size:=by omega
 simp [ByteArray.get!,hz]
theorem spans32 (s:ByteArray):∀(f pos:Nat) (st:Option Nat) (acc:List (Nat × Nat)),s.size<=pos+f->pos<=s.size->(∀a,st=some a->a<pos)->
 acc.map (fun p=>Lib.pieceU s.data.toList p.1 p.2)++wordsR (s.data.toList.drop pos) (Lib.openPiece s.data.toList st pos)=(Lib.closeSpans s (Lib.spansFromP (fun r=>r == 32) s f pos st acc)).map (fun p=>Lib.pieceU s.data.toList p.1 p.2)
 | 0,pos,st,acc,h,hp,hst=>by
   obtain rfl:pos=s.size:=by omega
   have hd:s.data.toList.drop s.size=[]:=List.drop_eq_nil_of_le (by rw [<-Lib.size_eq];exact Nat.le_refl _)
   rw [hd]
   cases st with
   | none=>simp [Lib.spansFromP,Lib.closeSpans,Lib.openPiece,wordsR]
   | some a=>
     have:=Lib.pieceU_ne s.data.toList a s.size (hst a rfl) (by rw [<-Lib.size_eq];exact Nat.le_refl _)
     simp [Lib.spansFromP,Lib.closeSpans,Lib.openPiece,wordsR,this]
 | f+1,pos,st,acc,h,hp,hst=>by
   by_cases hlt:pos<s.size
   ·have hw:=Lib.width_pos s pos
    have hwn:pos+(Utf8.decode s pos).2<=s.size:=by
     have:=Lib.decodeN_le_n' (s.size - pos) (s.get! pos).toNat (s.get! (pos+1)).toNat (s.get! (pos+2)).toNat (s.get! (pos+3)).toNat (by omega)
     rw [<-Lib.decode_at] at this
     omega
    obtain ⟨d1,d2⟩:=decode32 s pos
    simp only [Lib.spansFromP,if_pos hlt]
    by_cases hb:(Utf8.decode s pos).1=32
    ·obtain ⟨e1,e2⟩:=d1 hb
     have hdrop:s.data.toList.drop pos=32 :: s.data.toList.drop (pos+1):=by
      have hl:pos<s.data.toList.length:=by rw [<-Lib.size_eq];exact hlt
      rw [List.drop_eq_getElem_cons hl]
      congr 1
      rw [<-e2,Array.getElem_toList]
      simp [ByteArray.get!,hlt]
     rw [e1] at hwn
     simp only [hb,e1,hdrop,wordsR,if_true,beq_self_eq_true]
     cases st with
     | none=>
       have ih:=spans32 s f (pos+1) none acc (by omega) hwn (fun a h=>by cases h)
       simpa [Lib.openPiece] using ih
     | some a=>
       have hpn:=Lib.pieceU_ne s.data.toList a pos (hst a rfl) (by rw [<-Lib.size_eq];omega)
       have ih:=spans32 s f (pos+1) none (acc++[(a,pos)]) (by omega) hwn (fun a h=>by cases h)
       simpa [Lib.openPiece,hpn] using ih
    ·have hbf:((Utf8.decode s pos).1 == 32)=false:=by simpa using hb
     have hr:s.data.toList.drop pos=(s.data.toList.drop pos).take (Utf8.decode s pos).2++s.data.toList.drop (pos+(Utf8.decode s pos).2):=by
      conv=>lhs;rw [<-List.take_append_drop (Utf8.decode s pos).2 (s.data.toList.drop pos)]
      rw [List.drop_drop]
     have hn:∀x∈(s.data.toList.drop pos).take (Utf8.decode s pos).2,x ≠ 32:=by
      intro x hx
      obtain ⟨j,hj,rfl⟩:=take_get s pos _ hwn x hx
      exact d2 hb j hj
     rw [hr,words_read _ _ _ hn]
     simp only [hbf,Bool.false_eq_true,if_false]
     cases st with
     | none=>
       have ih:=spans32 s f (pos+(Utf8.decode s pos).2) (some pos) acc (by omega) hwn (fun a h=>by cases h;omega)
       have e:Lib.openPiece s.data.toList none pos++(s.data.toList.drop pos).take (Utf8.decode s pos).2=Lib.openPiece s.data.toList (some pos) (pos+(Utf8.decode s pos).2):=by
        simp only [Lib.openPiece,Lib.pieceU]
        rw [List.nil_append,Nat.add_sub_cancel_left]
       rw [e]
       exact ih
     | some a=>
       have ih:=spans32 s f (pos+(Utf8.decode s pos).2) (some a) acc (by omega) hwn (fun b h=>by cases h;have:=hst a rfl;omega)
       simp only [Lib.openPiece] at ih ⊢
       rw [Lib.pieceU_grow _ _ _ _ (Nat.le_of_lt (hst a rfl))]
       exact ih
   ·obtain rfl:pos=s.size:=by omega
    have hd:s.data.toList.drop s.size=[]:=List.drop_eq_nil_of_le (by rw [<-Lib.size_eq];exact Nat.le_refl _)
    rw [hd,Lib.spansFromP_end _ s _ _ _ _ hlt]
    cases st with
    | none=>simp [Lib.closeSpans,Lib.openPiece,wordsR]
    | some a=>
      have:=Lib.pieceU_ne s.data.toList a s.size (hst a rfl) (by rw [<-Lib.size_eq];exact Nat.le_refl _)
      simp [Lib.closeSpans,Lib.openPiece,wordsR,this]
theorem fields_words (s:ByteArray):(Lib.goFieldsP (fun r=>r == 32) s).map (·.data.toList)=wordsR s.data.toList []:=by
 have h:=spans32 s s.size 0 none [] (by omega) (by omega) (fun a h=>by cases h)
 simp only [List.map_nil,List.nil_append,List.drop_zero,Lib.openPiece] at h
 rw [h]
 unfold Lib.goFieldsP Lib.spansOfP
 rw [List.map_map]
 refine List.map_congr_left (fun x _=>?_)
 simp only [Function.comp_apply,Lib.pieceU]
 rw [ByteArray.data_extract]
 simp
def numW (w:List UInt8):Option Int:=match Lib.atoiAll w with
 | .ok v=>if Lib.itoa v=w then some v else none
 | _=>none
def numsW:List (List UInt8)->Option (List Int)
 | []=>some []
 | w :: r=>match numW w,numsW r with
   | some n,some l=>some (n :: l)
   | _,_=>none
def pairs:List Int->List (Int × Int)
 | a :: b :: r=>(a,b) :: pairs r
 | _=>[]
def bytes (s:String):List UInt8:=s.toUTF8.data.toList
def say (l:List (List UInt8)):List UInt8:=((l.intersperse [32]).flatten)++[10]
def sayN (w:List UInt8) (l:List Int):List UInt8:=say (w :: l.map Lib.itoa)
def kindW (k:Int):List UInt8:=if k=1 then bytes "ask" else if k=2 then bytes "say" else if k=3 then bytes "end" else if k=4 then bytes "over" else []
def sayM (m:Ml):List UInt8:=say ([kindW m.kind,Lib.itoa m.deal,Lib.itoa m.shop,Lib.itoa m.c,Lib.itoa m.d]++if m.yes then [bytes "yes"] else [])
def sayMails (l:List Ml):List UInt8:=(l.map sayM).flatten++say [bytes "end"]
def sayStep (c:Int):List UInt8:=if c=0 then say [bytes "ok"] else sayN (bytes "no") [c]
def six6 (f:Nat->Int):List Int:=[f 0,f 1,f 2,f 3,f 4,f 5]
def sayHolds (A:Bk):List UInt8:=sayN (bytes "count") [cnt6 A 0,cnt6 A 1,cnt6 A 2]++sayN (bytes "count") [cnt6 A 3,cnt6 A 4,cnt6 A 5]++(A.hs.map (fun h=>sayN (bytes "hold") [h.1,h.2.1,h.2.2])).flatten++say [bytes "end"]
def stepW (T:Twn) (x:TSp):List UInt8 × Twn:=(sayStep (townR T x).1,(townR T x).2)
def aloneR (ws:Nat->Int) (T:Twn) (w:List UInt8):Option (List UInt8 × Twn):=
 if w=bytes "tick" then some (stepW T ⟨2,0,[]⟩)
 else if w=bytes "broker" then some (stepW T ⟨8,0,[]⟩)
 else if w=bytes "calm" then some (sayN (bytes "calm") [((calmR 20 0 T).1:Int)],(calmR 20 0 T).2)
 else if w=bytes "world" then some (sayN (bytes "world") (six6 (valT T)),T)
 else if w=bytes "serial" then some (sayN (bytes "world") (six6 (curR ws T)),T)
 else if w=bytes "done" then some (sayN (bytes "done") T.B.ord,T)
 else if w=bytes "mail" then some (sayMails T.M,T)
 else if w=bytes "due" then some (sayMails (dueR T.B),T)
 else none
def withR (T:Twn) (w:List UInt8) (k:Int):Option (List UInt8 × Twn):=
 if w=bytes "deliver" then some (stepW T ⟨3,k,[]⟩)
 else if w=bytes "lose" then some (stepW T ⟨4,k,[]⟩)
 else if w=bytes "double" then some (stepW T ⟨5,k,[]⟩)
 else if w=bytes "quit" then some (stepW T ⟨6,k,[]⟩)
 else if w=bytes "shop" then some (stepW T ⟨7,k,[]⟩)
 else if w=bytes "state" then some (sayN (bytes "state") [stR T.B k],T)
 else if w=bytes "holds" then some (if 0<=k∧k<3 then sayHolds (T.P k.toNat).A else sayN (bytes "no") [1],T)
 else none
def obeyR (ws:Nat->Int) (T:Twn) (w:List UInt8) (n:List Int):Option (List UInt8 × Twn):=
 if w=bytes "begin" then (if n.length % 2=0 then some (stepW T ⟨1,0,pairs n⟩) else none)
 else match n with
  | []=>aloneR ws T w
  | [k]=>withR T w k
  | _=>none
def lineR (ws:Nat->Int) (T:Twn) (s:List UInt8):List UInt8 × Twn:=match wordsR s [] with
 | []=>([],T)
 | w :: r=>match numsW r with
   | none=>(say [bytes "what"],T)
   | some n=>(obeyR ws T w n).getD (say [bytes "what"],T)
def linesR (ws:Nat->Int):Twn->List (List UInt8)->List UInt8 × Twn
 | T,[]=>([],T)
 | T,s :: r=>((lineR ws T s).1++(linesR ws (lineR ws T s).2 r).1,(linesR ws (lineR ws T s).2 r).2)
theorem lines_append (ws:Nat->Int):∀(a b:List (List UInt8)) (T:Twn),linesR ws T (a++b)=((linesR ws T a).1++(linesR ws (linesR ws T a).2 b).1,(linesR ws (linesR ws T a).2 b).2)
 | [],b,T=>by simp [linesR]
 | s :: r,b,T=>by
   simp only [List.cons_append,linesR]
   rw [lines_append ws r b]
   simp [List.append_assoc]
theorem lines_snoc (ws:Nat->Int) (a:List (List UInt8)) (s:List UInt8) (T:Twn):linesR ws T (a++[s])=((linesR ws T a).1++(lineR ws (linesR ws T a).2 s).1,(lineR ws (linesR ws T a).2 s).2):=by
 rw [lines_append]
 simp [linesR]
def SmlM (m:Ml):Prop:=0<=m.c∧m.c<6∧-100<=m.d∧m.d<=100
def Sml (T:Twn):Prop:=∀m∈T.M,SmlM m
theorem fit_small {c d:Int} (h:wnt c d=0):0<=c∧c<6∧-100<=d∧d<=100:=by
 unfold wnt shp dlt at h
 repeat' split at h
 all_goals omega
theorem send_q {Q:Ml->Prop} {l:List Ml} {m:Ml} (h:∀x∈l,Q x) (hm:Q m):∀x∈(sendR l m).2,Q x:=by
 unfold sendR
 split
 ·exact h
 ·intro x hx
  rcases List.mem_append.1 hx with q | q
  ·exact h x q
  ·rw [List.mem_singleton.1 q];exact hm
theorem sendAll_q {Q:Ml->Prop} {r:List Ml}:∀{l:List Ml},(∀x∈l,Q x)->(∀x∈r,Q x)->∀x∈sendAll l r,Q x:=by
 induction r with
 | nil=>intro l h _;exact h
 | cons m r ih=>intro l h1 h2;exact ih (send_q h1 (h2 m (by simp))) (fun x hx=>h2 x (by simp [hx]))
theorem take_q {Q:Ml->Prop} {l:List Ml} (h:∀x∈l,Q x) (n:Int):(∀x∈(takeR l n).2.2,Q x)∧((takeR l n).2.1=true->Q (takeR l n).1):=by
 by_cases hne:l=[]
 ·subst hne
  exact ⟨by rw [takeR_nil];simp,fun q=>by rw [takeR_nil] at q;cases q⟩
 ·obtain ⟨m,hm⟩:=rnd_some n hne
  rw [takeR_some hm]
  exact ⟨fun x hx=>h x (List.mem_of_mem_eraseIdx hx),fun _=>h m (List.mem_of_getElem? hm)⟩
theorem dbl_q {Q:Ml->Prop} {l:List Ml} (h:∀x∈l,Q x) (n:Int):∀x∈(dblR l n).2,Q x:=by
 by_cases hne:l=[]
 ·subst hne;rw [dblR_nil];simp
 ·obtain ⟨m,hm⟩:=rnd_some n hne
  rw [dblR_some hm]
  exact send_q h (h m (List.mem_of_getElem? hm))
theorem due_small {B:Bok} (h:BInv B):∀m∈dueR B,SmlM m∧(m.kind=1∨m.kind=3)∧0<=m.deal∧m.deal<8∧0<=m.shop∧m.shop<3:=by
 intro m hm
 obtain ⟨n,D,hD,hm⟩:=due_mem hm
 have hf:=h.fit D (dealAt_mem hD)
 have hn:0<=n∧n<8:=by
  unfold dealAt at hD
  split at hD
  ·cases hD
  ·have:=(List.getElem?_eq_some_iff.1 hD).1
   have:=h.len
   omega
 have hsh:∀x∈D.w,0<=shp x.1∧shp x.1<3:=fun x hx=>by
  have:=fit_small (hf.each x hx)
  unfold shp
  rw [if_neg (by omega),if_neg (by omega)]
  omega
 unfold dueD at hm
 split at hm
 ·obtain ⟨c,d,hcd,rfl⟩:=asks_mem hm
  exact ⟨fit_small (hf.each _ hcd),.inl rfl,hn.1,hn.2,(hsh _ hcd).1,(hsh _ hcd).2⟩
 ·obtain ⟨s,hs,rfl⟩:=List.mem_map.1 hm
  have hs':=(List.mem_filter.1 hs).1
  have hr:=shopsL_range hs'
  exact ⟨⟨by simp,by simp,by simp,by simp⟩,.inr rfl,hn.1,hn.2,hr.1,hr.2⟩
theorem ans_small {no:Int} {K:Kb} {m:Ml} (h:SmlM m):(ansR no K m).2.1=true->SmlM (ansR no K m).1:=by
 unfold ansR
 repeat' split
 all_goals (intro q;first | exact h | cases q)
theorem come_small {T:Twn} {x:Ml} (h:Sml T) (hx:SmlM x):Sml (comeR T x):=by
 unfold comeR
 split
 ·exact h
 ·split
  ·show ∀m∈(if (ansR x.shop (T.P x.shop.toNat) x).2.1=true then (sendR T.M (ansR x.shop (T.P x.shop.toNat) x).1).2 else T.M),SmlM m
   split
   ·rename_i q
    exact send_q h (ans_small hx q)
   ·exact h
  ·exact h
theorem step_small {ws:Nat->Int} {T:Twn} (hF:Full ws T) (h:Sml T) (x:TSp):Sml (townR T x).2:=by
 unfold townR
 split
 ·exact h
 split
 ·exact sendAll_q h (fun m hm=>(due_small hF.brk m hm).1)
 split
 ·unfold delivR
  split
  ·rename_i q
   exact come_small (T:={ T with M:=(takeR T.M x.n).2.2 }) (take_q h x.n).1 ((take_q h x.n).2 q)
  ·exact h
 split
 ·exact (take_q h x.n).1
 split
 ·exact dbl_q h x.n
 repeat' split
 all_goals exact h
theorem calm_small {ws:Nat->Int} {T:Twn} (hF:Full ws T):Sml (calmR 20 0 T).2:=by
 intro m hm
 rw [hF.calm.2.1.mail] at hm
 simp at hm
structure DFull (ws:Nat->Int) (T:Twn):Prop where
 full:Full ws T
 sml:Sml T
theorem DFull.step {ws:Nat->Int} {T:Twn} (h:DFull ws T) (x:TSp):DFull ws (townR T x).2:=⟨h.full.step x,step_small h.full h.sml x⟩
theorem DFull.calm {ws:Nat->Int} {T:Twn} (h:DFull ws T):DFull ws (calmR 20 0 T).2:=⟨h.full.calm.1,calm_small h.full⟩
theorem DFull.obey {ws:Nat->Int} {T:Twn} (h:DFull ws T) (w:List UInt8) (n:List Int) {r:List UInt8 × Twn} (hr:obeyR ws T w n=some r):DFull ws r.2:=by
 have h1:∀x,DFull ws (stepW T x).2:=fun x=>h.step x
 unfold obeyR aloneR withR at hr
 repeat' split at hr
 all_goals first | (cases hr;first | exact h | exact h.calm | exact h1 _) | cases hr
theorem DFull.line {ws:Nat->Int} {T:Twn} (h:DFull ws T) (s:List UInt8):DFull ws (lineR ws T s).2:=by
 unfold lineR
 split
 ·exact h
 ·split
  ·exact h
  ·rename_i w r _ _ n _
   cases hr:obeyR ws T w n with
   | none=>exact h
   | some r=>exact h.obey w n hr
theorem DFull.lines {ws:Nat->Int}:∀(l:List (List UInt8)) {T:Twn},DFull ws T->DFull ws (linesR ws T l).2
 | [],_,h=>h
 | s :: r,_,h=>DFull.lines r (h.line s)
theorem dec_short {u:Nat} (h:u<1000):(Lib.decDigits u).length<=3:=by
 have one:∀{i:Nat},i<10->(Lib.decDigits i).length<=1:=fun {i} hi=>by rw [Lib.decDigits,dif_pos hi];simp
 have two:∀{i:Nat},i<100->(Lib.decDigits i).length<=2:=fun {i} hi=>by
  by_cases q:i<10
  ·have:=one q;omega
  ·rw [Lib.decDigits,dif_neg q]
   have:=one (i:=i / 10) (by omega)
   simp
   omega
 by_cases q:u<10
 ·have:=one q;omega
 ·rw [Lib.decDigits,dif_neg q]
  have:=two (i:=u / 10) (by omega)
  simp
  omega
theorem itoa_short {n:Int} (h1: -200<=n) (h2:n<=200):(Lib.itoa n).length<=7:=by
 unfold Lib.itoa
 split
 ·have:=dec_short (u:=n.natAbs) (by omega)
  simp
  omega
 ·have:=dec_short (u:=n.toNat) (by omega)
  omega
theorem inter_short:∀(l:List (List UInt8)),(∀x∈l,x.length<=7)->((l.intersperse [32]).flatten).length<=8 * l.length
 | [],_=>by simp
 | [x],h=>by have:=h x (by simp);simp;omega
 | x :: y :: r,h=>by
   have ih:=inter_short (y :: r) (fun z hz=>h z (by simp [hz]))
   have:=h x (by simp)
   simp only [List.intersperse,List.flatten_cons,List.length_append,List.length_cons,List.length_nil] at ih ⊢
   omega
theorem say_short {l:List (List UInt8)} (h:∀x∈l,x.length<=7):(say l).length<=8 * l.length+1:=by
 have:=inter_short l h
 simp only [say,List.length_append,List.length_cons,List.length_nil]
 omega
theorem sayN_short {w:List UInt8} {l:List Int} (hw:w.length<=7) (h:∀n∈l,-200<=n∧n<=200):(sayN w l).length<=8 * l.length+9:=by
 have:=say_short (l:=w :: l.map Lib.itoa) (fun x hx=>by
  rcases List.mem_cons.1 hx with rfl | q
  ·exact hw
  ·obtain ⟨n,hn,rfl⟩:=List.mem_map.1 q
   exact itoa_short (h n hn).1 (h n hn).2)
 simp only [List.length_cons,List.length_map] at this
 unfold sayN
 omega
def Sm (n:Int):Prop:= -200<=n∧n<=200
theorem Sm.i64 {n:Int} (h:Sm n): -9223372036854775808<=n∧n<=9223372036854775807:=by
 unfold Sm at h
 omega
theorem wnt_small (c d:Int):0<=wnt c d∧wnt c d<=2:=by
 unfold wnt dlt
 repeat' split
 all_goals omega
theorem scan_small:∀(l p:List (Int × Int)),0<=(scanW p l).1∧(scanW p l).1<=4
 | [],p=>by simp [scanW]
 | x :: r,p=>by
   unfold scanW
   split
   ·split
    ·simp
    ·exact scan_small r _
   ·have:=wnt_small x.1 x.2
    simp only
    omega
theorem code_small (T:Twn) (x:TSp):Sm (townR T x).1:=by
 have h1:∀l,0<=(chkW l).1∧(chkW l).1<=4:=fun l=>by
  unfold chkW
  split
  ·simp
  ·split
   ·simp
   ·exact scan_small l []
 unfold Sm townR
 split
 ·unfold beginR
  have:=h1 x.w
  repeat' split
  all_goals (simp only;omega)
 split
 ·simp
 split
 ·unfold delivR
  split <;> simp
 split
 ·simp only
  split <;> omega
 split
 ·simp only
  repeat' split
  all_goals omega
 split
 ·unfold quitR
  repeat' split
  all_goals simp
 repeat' split
 all_goals (simp only;repeat' split)
 all_goals omega
theorem deal_small {B:Bok} (h:BInv B) {n:Int} {D:Dl} (hD:dealAt B n=some D):0<=n∧n<8:=by
 unfold dealAt at hD
 split at hD
 ·cases hD
 ·have:=(List.getElem?_eq_some_iff.1 hD).1
  have:=h.len
  omega
structure MTell (m:Ml):Prop where
 kind:m.kind=1∨m.kind=2∨m.kind=3∨m.kind=4
 deal:Sm m.deal
 shop:Sm m.shop
 c:Sm m.c
 d:Sm m.d
theorem mail_tell {ws:Nat->Int} {T:Twn} (h:DFull ws T):∀m∈T.M,MTell m:=by
 intro m hm
 obtain ⟨h0,h3,D,hD,hc⟩:=h.full.town.inv.mail m hm
 have hn:=deal_small h.full.brk hD
 have hs:=h.sml m hm
 unfold SmlM at hs
 refine ⟨?_,by unfold Sm;omega,by unfold Sm;omega,by unfold Sm;omega,by unfold Sm;omega⟩
 rcases hc with q | q | q | q
 ·exact .inl q.1
 ·exact .inr (.inl q.1)
 ·exact .inr (.inr (.inl q.1))
 ·exact .inr (.inr (.inr q.1))
theorem due_tell {B:Bok} (h:BInv B):∀m∈dueR B,MTell m:=by
 intro m hm
 obtain ⟨⟨a,b,c,d⟩,hk,e,f,g,i⟩:=due_small h m hm
 exact ⟨hk.elim .inl (fun q=>.inr (.inr (.inl q))),by unfold Sm;omega,by unfold Sm;omega,by unfold Sm;omega,by unfold Sm;omega⟩
theorem ord_tell {B:Bok} (h:BInv B):∀n∈B.ord,Sm n:=by
 intro n hn
 obtain ⟨D,hD,_⟩:=(h.ord n).1 hn
 have:=deal_small h hD
 unfold Sm
 omega
theorem state_tell {B:Bok} (h:BInv B) (n:Int):Sm (stR B n):=by
 unfold stR Sm
 split
 ·rename_i D hD
  have:=h.st D (dealAt_mem hD)
  omega
 ·omega
theorem world_tell {ws:Nat->Int} {T:Twn} (h:Full ws T) {k:Nat} (hk:k<6):Sm (valT T k)∧Sm (curR ws T k):=by
 have h1:=h.town.inv.count hk
 have h2:=h.town.inv.cur hk
 have h3:=gain_bounds (T.P (k / 2)).A.hs (k:Int) h.brk.nd
 unfold Sm
 omega
theorem cnt_tell {ws:Nat->Int} {T:Twn} (h:Full ws T) {s:Nat} (hs:s<3) {k:Nat} (hk:k<6):Sm (cnt6 (T.P s).A k):=by
 have hg:=(h.shop hs).2.1
 have h0:=chk_ok (hg.cnt 0 (by omega))
 have h1:=chk_ok (hg.cnt 1 (by omega))
 simp only [Bk.val,Bk.out,Bk.inn,Int.natCast_zero,Int.add_zero,Int.natCast_one] at h0 h1
 unfold Sm
 match k,hk with
 | 0,_=>simp only [cnt6];omega
 | 1,_=>simp only [cnt6];omega
 | 2,_=>simp only [cnt6];omega
 | 3,_=>simp only [cnt6];omega
 | 4,_=>simp only [cnt6];omega
 | 5,_=>simp only [cnt6];omega
theorem hold_tell {ws:Nat->Int} {T:Twn} (h:Full ws T) {s:Nat} (hs:s<3):∀x∈(T.P s).A.hs,Sm x.1∧Sm x.2.1∧Sm x.2.2:=by
 intro x hx
 obtain ⟨a,b,c,d,e⟩:=(h.shop hs).2.1.each x hx
 have:=fit_small d
 unfold Sm
 omega
theorem calm_tell {ws:Nat->Int} {T:Twn} (h:Full ws T):Sm ((calmR 20 0 T).1:Int):=by
 have:=h.calm.2.2
 unfold Sm
 omega
theorem sayM_short {m:Ml} (h:MTell m):(sayM m).length<=49:=by
 have hk:(kindW m.kind).length<=7:=by
  rcases h.kind with q | q | q | q <;> rw [q] <;> decide
 have hy:∀x∈(if m.yes then [bytes "yes"] else []),x.length<=7:=by
  split
  ·intro x hx;rw [List.mem_singleton.1 hx];decide
  ·simp
 have hl:(if m.yes then [bytes "yes"] else []).length<=1:=by split <;> simp
 have:=say_short (l:=[kindW m.kind,Lib.itoa m.deal,Lib.itoa m.shop,Lib.itoa m.c,Lib.itoa m.d]++if m.yes then [bytes "yes"] else []) (fun x hx=>by
  rcases List.mem_append.1 hx with q | q
  ·simp only [List.mem_cons,List.mem_nil_iff,or_false] at q
   rcases q with q | q | q | q | q <;> rw [q]
   ·exact hk
   ·exact itoa_short h.deal.1 h.deal.2
   ·exact itoa_short h.shop.1 h.shop.2
   ·exact itoa_short h.c.1 h.c.2
   ·exact itoa_short h.d.1 h.d.2
  ·exact hy x q)
 simp only [List.length_append,List.length_cons,List.length_nil] at this
 unfold sayM
 omega
theorem flat_short {α:Type} {n:Nat} {f:α->List UInt8}:∀{l:List α},(∀x∈l,(f x).length<=n)->((l.map f).flatten).length<=n * l.length
 | [],_=>by simp
 | x :: r,h=>by
   have ih:=flat_short (l:=r) (fun y hy=>h y (by simp [hy]))
   have:=h x (by simp)
   simp only [List.map_cons,List.flatten_cons,List.length_append,List.length_cons,Nat.mul_add]
   omega
theorem sayMails_short {l:List Ml} (h:∀m∈l,MTell m) (hl:l.length<=40):(sayMails l).length<=2000:=by
 have h1:=flat_short (f:=sayM) (n:=49) (fun m hm=>sayM_short (h m hm))
 have h2:(say [bytes "end"]).length=4:=by decide
 unfold sayMails
 rw [List.length_append,h2]
 omega
theorem sayHolds_short {ws:Nat->Int} {T:Twn} (h:Full ws T) {s:Nat} (hs:s<3):(sayHolds (T.P s).A).length<=2000:=by
 have c:∀k,k<6->Sm (cnt6 (T.P s).A k):=fun k hk=>cnt_tell h hs hk
 have h1:=sayN_short (w:=bytes "count") (l:=[cnt6 (T.P s).A 0,cnt6 (T.P s).A 1,cnt6 (T.P s).A 2]) (by decide) (fun n hn=>by
  simp only [List.mem_cons,List.mem_nil_iff,or_false] at hn
  rcases hn with q | q | q <;> rw [q] <;> exact c _ (by omega))
 have h2:=sayN_short (w:=bytes "count") (l:=[cnt6 (T.P s).A 3,cnt6 (T.P s).A 4,cnt6 (T.P s).A 5]) (by decide) (fun n hn=>by
  simp only [List.mem_cons,List.mem_nil_iff,or_false] at hn
  rcases hn with q | q | q <;> rw [q] <;> exact c _ (by omega))
 have h3:=flat_short (l:=(T.P s).A.hs) (f:=fun x=>sayN (bytes "hold") [x.1,x.2.1,x.2.2]) (n:=33) (fun x hx=>by
  have q:=hold_tell h hs x hx
  have:=sayN_short (w:=bytes "hold") (l:=[x.1,x.2.1,x.2.2]) (by decide) (fun n hn=>by
   simp only [List.mem_cons,List.mem_nil_iff,or_false] at hn
   rcases hn with e | e | e <;> rw [e]
   ·exact q.1
   ·exact q.2.1
   ·exact q.2.2)
  simp only [List.length_cons,List.length_nil] at this
  omega)
 have h4:(say [bytes "end"]).length=4:=by decide
 have h5:=(h.shop hs).2.2.2.1
 simp only [List.length_cons,List.length_nil] at h1 h2
 unfold sayHolds
 simp only [List.length_append,h4]
 omega
theorem sayStep_short {c:Int} (h:Sm c):(sayStep c).length<=2000:=by
 unfold sayStep
 split
 ·decide
 ·have:=sayN_short (w:=bytes "no") (l:=[c]) (by decide) (fun n hn=>by rw [List.mem_singleton.1 hn];exact h)
  simp only [List.length_cons,List.length_nil] at this
  omega
theorem six6_short {f:Nat->Int} (h:∀k,k<6->Sm (f k)):(sayN (bytes "world") (six6 f)).length<=2000:=by
 have:=sayN_short (w:=bytes "world") (l:=six6 f) (by decide) (fun n hn=>by
  simp only [six6,List.mem_cons,List.mem_nil_iff,or_false] at hn
  rcases hn with q | q | q | q | q | q <;> rw [q] <;> exact h _ (by omega))
 simp only [six6,List.length_cons,List.length_nil] at this ⊢
 omega
theorem one_short {w:List UInt8} {c:Int} (hw:w.length<=7) (h:Sm c):(sayN w [c]).length<=2000:=by
 have:=sayN_short (w:=w) (l:=[c]) hw (fun n hn=>by rw [List.mem_singleton.1 hn];exact h)
 simp only [List.length_cons,List.length_nil] at this
 omega
theorem due_few {B:Bok} (h:BInv B):(dueR B).length<=40:=by
 have:=due_room h
 omega
theorem obey_short {ws:Nat->Int} {T:Twn} (h:DFull ws T) (w:List UInt8) (n:List Int) {r:List UInt8 × Twn} (hr:obeyR ws T w n=some r):r.1.length<=2000:=by
 have h1:∀x,(stepW T x).1.length<=2000:=fun x=>sayStep_short (code_small T x)
 unfold obeyR at hr
 split at hr
 ·split at hr
  ·cases hr;exact h1 _
  ·cases hr
 ·split at hr
  ·unfold aloneR at hr
   repeat' split at hr
   ·cases hr;exact h1 _
   ·cases hr;exact h1 _
   ·cases hr;exact one_short (by decide) (calm_tell h.full)
   ·cases hr;exact six6_short (fun k hk=>(world_tell h.full hk).1)
   ·cases hr;exact six6_short (fun k hk=>(world_tell h.full hk).2)
   ·cases hr
    have:=sayN_short (w:=bytes "done") (l:=T.B.ord) (by decide) (ord_tell h.full.brk)
    have:=h.full.brk.ordLen
    simp only
    omega
   ·cases hr;exact sayMails_short (mail_tell h) h.full.town.inv.mlen
   ·cases hr;exact sayMails_short (due_tell h.full.brk) (due_few h.full.brk)
   ·cases hr
  ·unfold withR at hr
   split at hr
   ·cases hr;exact h1 _
   split at hr
   ·cases hr;exact h1 _
   split at hr
   ·cases hr;exact h1 _
   split at hr
   ·cases hr;exact h1 _
   split at hr
   ·cases hr;exact h1 _
   split at hr
   ·cases hr;exact one_short (by decide) (state_tell h.full.brk _)
   split at hr
   ·cases hr
    simp only
    split
    ·exact sayHolds_short h.full (by omega)
    ·exact one_short (by decide) (by unfold Sm;omega)
   ·cases hr
  ·cases hr
theorem line_short {ws:Nat->Int} {T:Twn} (h:DFull ws T) (s:List UInt8):(lineR ws T s).1.length<=2000:=by
 have hw:(say [bytes "what"]).length<=2000:=by decide
 unfold lineR
 split
 ·simp
 ·split
  ·exact hw
  ·rename_i w r _ _ n _
   cases hr:obeyR ws T w n with
   | none=>exact hw
   | some r=>exact obey_short h w n hr
theorem lines_short {ws:Nat->Int}:∀(l:List (List UInt8)) {T:Twn},DFull ws T->(linesR ws T l).1.length<=2000 * l.length
 | [],_,_=>by simp [linesR]
 | s :: r,T,h=>by
   have h1:=line_short h s
   have h2:=lines_short r (h.line s)
   simp only [linesR,List.length_append,List.length_cons]
   omega
def DkIn (p q b m:Nat) (c:Nat->Nat) (ws:Nat->Int) (l:List UInt8) (T:Twn) (O:Nat->Prop) (w:World):Prop:=Pr (BldIn p q l) (TnIn q b m c ws T) O w
theorem dk_stands (p q b m:Nat) (c:Nat->Nat) (ws:Nat->Int) (l:List UInt8) (T:Twn):Stands (DkIn p q b m c ws l T):=pr_stands (bld_stands p q l) (tn_stands q b m c ws T)
structure DLv (w0:World) (Z:Nat->Prop) (w:World) (p q b m:Nat) (c:Nat->Nat) (ws:Nat->Int) (l:List UInt8) (T:Twn):Prop where
 lv:Lv (DkIn p q b m c ws l T) w0 Z w
 full:DFull ws T
 ok:OkT ws
theorem DLv.next {w0 w w1:World} {Z:Nat->Prop} {p q b m:Nat} {c:Nat->Nat} {ws:Nat->Int} {l:List UInt8} {T:Twn} (h:DLv w0 Z w p q b m c ws l T) (hb:Below w.heap.size w w1):DLv w0 Z w1 p q b m c ws l T:=⟨h.lv.next (dk_stands ..) hb,h.full,h.ok⟩
theorem DLv.more {w0 w w1:World} {Z Z':Nat->Prop} {p q b m:Nat} {c:Nat->Nat} {ws:Nat->Int} {l:List UInt8} {T:Twn} (h:DLv w0 Z w p q b m c ws l T) (hb:Below w.heap.size w w1) (hZ:∀k,Z' k->Z k∨(w.heap.size<=k∧k<w1.heap.size)):DLv w0 Z' w1 p q b m c ws l T:=⟨h.lv.more (dk_stands ..) hb hZ,h.full,h.ok⟩
theorem DLv.less {w0 w:World} {Z Z':Nat->Prop} {p q b m:Nat} {c:Nat->Nat} {ws:Nat->Int} {l:List UInt8} {T:Twn} (h:DLv w0 Z w p q b m c ws l T) (hZ:∀k,Z' k->Z k):DLv w0 Z' w p q b m c ws l T:=⟨h.lv.less hZ,h.full,h.ok⟩
theorem DLv.below {w0 w:World} {Z:Nat->Prop} {p q b m:Nat} {c:Nat->Nat} {ws:Nat->Int} {l:List UInt8} {T:Twn} (h:DLv w0 Z w p q b m c ws l T):Below w0.heap.size w0 w:=h.lv.below
theorem DLv.bld {w0 w:World} {Z:Nat->Prop} {p q b m:Nat} {c:Nat->Nat} {ws:Nat->Int} {l:List UInt8} {T:Twn} (h:DLv w0 Z w p q b m c ws l T):∃O,BldIn p q l O w∧∀w' l',To (BldIn p q l') O w w'->DLv w0 Z w' p q b m c ws l' T∧Save (fun k=>¬Z k) w w':=by
 obtain ⟨O,h1,h2⟩:=h.lv.inn
 obtain ⟨OA,a1,_,a3⟩:=Pr.left (bld_stands p q l) (tn_stands q b m c ws T) h1
 refine ⟨OA,a1,fun w' l' ht=>?_⟩
 obtain ⟨k1,k2⟩:=h.lv.step h2 (a3 w' _ (bld_stands p q l') ht)
 exact ⟨⟨k1,h.full,h.ok⟩,k2⟩
theorem DLv.twn {w0 w:World} {Z:Nat->Prop} {p q b m:Nat} {c:Nat->Nat} {ws:Nat->Int} {l:List UInt8} {T:Twn} (h:DLv w0 Z w p q b m c ws l T):∃O,TnIn q b m c ws T O w∧∀w' T',DFull ws T'->To (TnIn q b m c ws T') O w w'->DLv w0 Z w' p q b m c ws l T'∧Save (fun k=>¬Z k) w w':=by
 obtain ⟨O,h1,h2⟩:=h.lv.inn
 obtain ⟨OA,a1,_,a3⟩:=Pr.right (bld_stands p q l) (tn_stands q b m c ws T) h1
 refine ⟨OA,a1,fun w' T' hT ht=>?_⟩
 obtain ⟨k1,k2⟩:=h.lv.step h2 (a3 w' _ (tn_stands q b m c ws T') ht)
 exact ⟨⟨k1,hT,h.ok⟩,k2⟩
theorem DLv.rdy {w0 w:World} {Z:Nat->Prop} {p q b m:Nat} {c:Nat->Nat} {ws:Nat->Int} {l:List UInt8} {T:Twn} (h:DLv w0 Z w p q b m c ws l T):Rdy ws T:=h.full.full.rdy h.ok
theorem DLv.cells {w0 w:World} {Z:Nat->Prop} {p q b m:Nat} {c:Nat->Nat} {ws:Nat->Int} {l:List UInt8} {T:Twn} (h:DLv w0 Z w p q b m c ws l T):w.cell? ⟨p,2,none⟩=some (.pointer (some ⟨q,0,none⟩))∧p<w.heap.size∧w.cell? ⟨q,0,none⟩=some (.pointer (some ⟨b,0,none⟩))∧q<w.heap.size:=by
 obtain ⟨O,h1,_⟩:=h.bld
 obtain ⟨a,v,hb,_⟩:=h1.raw
 obtain ⟨O',h2,_⟩:=h.twn
 exact ⟨(dk_cell hb).2.2.1,(dk_cell hb).2.2.2.2.1,h2.c0,h2.lt⟩
theorem wstr_dlv {w0 w:World} {Z:Nat->Prop} {p q b m:Nat} {c:Nat->Nat} {ws:Nat->Int} {l:List UInt8} {T:Twn} (s:ByteArray) (h:DLv w0 Z w p q b m c ws l T) (hs:0<s.size) (hR:Room (l.length+s.size)):
 Calls Tryz.prog 53 #[.pointer (some ⟨p,0,none⟩),.string s] w fun e w'=>e=.returned (.tuple #[.int .i64 s.size,.nilIface])∧DLv w0 Z w' p q b m c ws (l++s.data.toList) T∧Save (fun k=>¬Z k) w w':=by
 obtain ⟨O,h1,h2⟩:=h.bld
 exact (wstr_any s h1 hs hR).mono (fun e w' k=>⟨k.1,h2 w' _ k.2⟩)
theorem wbyte_dlv {w0 w:World} {Z:Nat->Prop} {p q b m:Nat} {c:Nat->Nat} {ws:Nat->Int} {l:List UInt8} {T:Twn} (h:DLv w0 Z w p q b m c ws l T) (hR:Room (l.length+1)):
 Calls Tryz.prog 55 #[.pointer (some ⟨p,0,none⟩),.int .u8 10] w fun e w'=>e=.returned .nilIface∧DLv w0 Z w' p q b m c ws (l++[10]) T∧Save (fun k=>¬Z k) w w':=by
 obtain ⟨O,h1,h2⟩:=h.bld
 exact (wbyte_any 10 h1 hR).mono (fun e w' k=>⟨k.1,h2 w' _ k.2⟩)
theorem step_dlv {w0 w:World} {Z:Nat->Prop} {p q b m:Nat} {c:Nat->Nat} {ws:Nat->Int} {l:List UInt8} {T:Twn} (x:TSp) {sa:Option Addr} {sc:Nat} (h:DLv w0 Z w p q b m c ws l T) (hx:WantsAt w sa x.w):Calls Tryz.prog 104 #[.pointer (some ⟨q,0,none⟩),.agg #[.int .i64 x.kind,.int .i64 x.n,.slice sa x.w.length sc]] w fun e w'=>e=.returned (.int .i64 (townR T x).1)∧DLv w0 Z w' p q b m c ws l (townR T x).2∧Save (fun k=>¬Z k) w w':=by
 obtain ⟨O,h1,h2⟩:=h.twn
 exact (tstep_any x h1 h.rdy hx).mono (fun e w' k=>⟨k.1,h2 w' _ (h.full.step x) k.2⟩)
theorem calm_dlv {w0 w:World} {Z:Nat->Prop} {p q b m:Nat} {c:Nat->Nat} {ws:Nat->Int} {l:List UInt8} {T:Twn} (h:DLv w0 Z w p q b m c ws l T):Calls Tryz.prog 75 #[.pointer (some ⟨q,0,none⟩)] w fun e w'=>e=.returned (.int .i64 ((calmR 20 0 T).1:Int))∧DLv w0 Z w' p q b m c ws l (calmR 20 0 T).2∧Save (fun k=>¬Z k) w w':=by
 obtain ⟨O,h1,h2⟩:=h.twn
 exact (tcalm_any h1 h.full.full h.ok).mono (fun e w' k=>⟨k.1,h2 w' _ h.full.calm k.2⟩)
theorem DLv.tlv {w0 w:World} {Z:Nat->Prop} {p q b m:Nat} {c:Nat->Nat} {ws:Nat->Int} {l:List UInt8} {T:Twn} (h:DLv w0 Z w p q b m c ws l T):TLv w0 Z w q b m c ws T:=by
 obtain ⟨O,h1,h2⟩:=h.lv.inn
 obtain ⟨OA,a1,a2,_⟩:=Pr.right (bld_stands p q l) (tn_stands q b m c ws T) h1
 exact ⟨⟨⟨OA,a1,fun k hk=>h2 k (a2 k hk)⟩,h.lv.below,h.lv.kept⟩,h.full.full,h.ok⟩
structure Tied (w:World):Prop where
 tab:Lib.TabIs Tryz.prog w "internal/strconv.uint64pow10" .u64 Lib.pow10Tab
 syn:∃tp v,w.var? Tryz.prog "strconv.ErrSyntax" =some #[.iface tp v]
 rng:∃tp v,w.var? Tryz.prog "strconv.ErrRange" =some #[.iface tp v]
theorem gTab:∃g,Tryz.prog.globalNamed "internal/strconv.uint64pow10" =some g:=Option.isSome_iff_exists.1 (by kernel_rfl)
theorem gSyn:∃g,Tryz.prog.globalNamed "strconv.ErrSyntax" =some g:=Option.isSome_iff_exists.1 (by kernel_rfl)
theorem gRng:∃g,Tryz.prog.globalNamed "strconv.ErrRange" =some g:=Option.isSome_iff_exists.1 (by kernel_rfl)
theorem Tied.below {w0 w:World} (h:Tied w0) (hb:Below w0.heap.size w0 w):Tied w:=by
 obtain ⟨g1,h1⟩:=gTab
 obtain ⟨g2,h2⟩:=gSyn
 obtain ⟨g3,h3⟩:=gRng
 obtain ⟨t2,v2,k2⟩:=h.syn
 obtain ⟨t3,v3,k3⟩:=h.rng
 exact ⟨Joins.tab_stays h1 h.tab hb (Nat.le_refl _),⟨t2,v2,Joins.var_stays h2 k2 hb (Nat.le_refl _)⟩,⟨t3,v3,Joins.var_stays h3 k3 hb (Nat.le_refl _)⟩⟩
def bs (l:List UInt8):ByteArray:=⟨l.toArray⟩
theorem bs_data (l:List UInt8):(bs l).data.toList=l:=rfl
theorem bs_size (l:List UInt8):(bs l).size=l.length:=rfl
def StrsAt (w:World) (la:Option Addr) (l:List ByteArray):Prop:=∀k x,l[k]?=some x->∃b off,la=some ⟨b,off,none⟩∧b<w.heap.size∧w.cell? ⟨b,off+k,none⟩=some (.string x)
theorem StrsAt.below {w w':World} {la:Option Addr} {l:List ByteArray} (h:StrsAt w la l) (hb:Below w.heap.size w w'):StrsAt w' la l:=by
 intro k x hk
 obtain ⟨b,off,e,hl,hc⟩:=h k x hk
 exact ⟨b,off,e,Nat.lt_of_lt_of_le hl hb.size,(hb.cell (p:=⟨b,off+k,none⟩) hl).trans hc⟩
theorem strs_of_own {w:World} {B e n:Nat} {v:Value} {l:List ByteArray} (h:w.ownsRow B e 1 v n (l.map Value.string)):∃ga cap,v=.slice ga n cap∧StrsAt w ga l∧l.length=n∧n<=cap∧∀a,ga=some a->B<=a.block∧a.block<w.heap.size:=by
 have hn:l.length=n:=by have:=h.1;simpa using this
 rcases h.2 with ⟨e1,e0⟩ | ⟨g,cap,cur,e1,hb,hg,hc,hm,hz,ht⟩
 ·refine ⟨none,0,by rw [e1,e0],?_,hn,by omega,fun a ha=>by cases ha⟩
  intro k x hk
  have:=(List.getElem?_eq_some_iff.1 hk).1
  omega
 ·refine ⟨_,cap,e1,fun k x hk=>⟨g,0,rfl,(Array.getElem?_eq_some_iff.1 hg).1,?_⟩,hn,hc,fun a ha=>by cases ha;exact ⟨hb,(Array.getElem?_eq_some_iff.1 hg).1⟩⟩
  have hk':=(List.getElem?_eq_some_iff.1 hk).1
  have h1:(cur.toList.take (n * 1))[k]?=(l.map Value.string)[k]?:=by rw [ht]
  rw [Nat.mul_one,List.getElem?_take_of_lt (by omega),List.getElem?_map,hk] at h1
  simp only [World.cell?,hg]
  simpa using h1
theorem infoStr:(Tryz.prog.info? 9).map (fun i=>(i.zero,i.size,i.bytes))=some (some (.string ⟨#[]⟩),1,16):=by kernel_rfl
theorem below_grow (w:World) (k:Nat) (os:Array Obj):Below w.heap.size w (Sort.grow (w.drewN k) os):=by
 refine ⟨rfl,rfl,rfl,?_,fun j hj=>?_⟩
 ·show w.heap.size<=(w.heap++os).size
  simp
 ·show (w.heap++os)[j]?=w.heap[j]?
  rw [Array.getElem?_append_left hj]
theorem itoa_any (n:Int) (h0: -9223372036854775808<=n) (h1:n<=9223372036854775807) (w:World) (ht:Tied w):Calls Tryz.prog 49 #[.int .i64 n] w fun e w'=>e=.returned (.string (bs (Lib.itoa n)))∧Below w.heap.size w w':=by
 refine (Tryz.strconv_Itoa n h0 h1 w ht.tab).mono ?_
 rintro e w' ⟨rfl,k,os,rfl⟩
 exact ⟨rfl,below_grow w k os⟩
def wordsB (wd:ByteArray) (ns:List Int):List ByteArray:=wd :: ns.map (fun n=>bs (Lib.itoa n))
theorem wordsB_snoc (wd:ByteArray) (ns:List Int) (n:Int):wordsB wd (ns++[n])=wordsB wd ns++[bs (Lib.itoa n)]:=by simp [wordsB]
theorem with_any (wd:ByteArray) (ns:List Int) (la:Option Addr) (lc:Nat) (w:World) (ht:Tied w) (hl:NumsAt w la ns) (hs:∀n∈ns,Sm n) (hn:ns.length<100):
 Calls Tryz.prog 105 #[.string wd,.slice la ns.length lc] w fun e w'=>(∃v,e=.returned v∧w'.ownsRow w.heap.size 9 1 v (ns.length+1) ((wordsB wd ns).map Value.string))∧Below w.heap.size w w':=by
 obtain ⟨i0,hi,hz0,hz1,hz2⟩:=info_parts infoStr
 have HT:Hid (∀W:World,Below w.heap.size w W->Tied W):=fun W hW=>ht.below hW
 have HL:Hid (NumsAt w la ns):=hl
 have HS:Hid (∀n∈ns,Sm n):=hs
 clear ht hl hs
 obtain ⟨ll,hll⟩:∃ll,ns.length=ll:=⟨_,rfl⟩
 rw [hll] at hn ⊢
 go_enter Tryz.func105,Tryz.ntmps105
 go_wp2_with fail
 go_loopg [5,12] ll (fun g v i wr=>∃k:Nat,k<=ll∧g=ll - k∧i=.int .i64 k∧wr.ownsRow w.heap.size 9 1 v (k+1) ((wordsB wd (ns.take k)).map Value.string)∧Below w.heap.size w wr)
 case atStart=>
  refine ⟨0,Nat.zero_le _,rfl,rfl,⟨by simp [wordsB],.inr ⟨w.heap.size,1,_,rfl,Nat.le_refl _,heap_alloc_new w _,by simp,by unfold maxLen;omega,by simp,?_⟩⟩,by go_grown⟩
  simp [wordsB]
 case round=>
  obtain ⟨k,hk,rfl,rfl,hR,hB⟩:=hrel
  by_cases hlt:k<ll
  ·obtain ⟨n,hkn⟩:∃n,ns[k]?=some n:=⟨_,List.getElem?_eq_getElem (by omega)⟩
   obtain ⟨bl,ol,rfl,hbl,hcl⟩:=HL.out k n hkn
   have hsn:=(HS.out n (List.mem_of_getElem? hkn)).i64
   have HI:Hid (∀W:World,Below w.heap.size w W->Calls Tryz.prog 49 #[.int .i64 n] W fun e w'=>e=.returned (.string (bs (Lib.itoa n)))∧Below W.heap.size W w'):=fun W hW=>itoa_any n hsn.1 hsn.2 W (HT.out W hW)
   have j0:(0:Int)<=(k:Int):=by omega
   have j1:(k:Int)<(ll:Int):=by omega
   have j2:(ll:Int)<100:=by omega
   have hcl':wr.cell? ⟨bl,ol+k,none⟩=some (.int .i64 n):=(hB.cell (p:=⟨bl,ol+k,none⟩) hbl).trans hcl
   have HE:Hid (wordsB wd (ns.take (k+1))=wordsB wd (ns.take k)++[bs (Lib.itoa n)]):=by
    have:ns.take (k+1)=ns.take k++[n]:=by rw [List.take_add_one,hkn];rfl
    rw [this,wordsB_snoc]
    exact rfl
   have HR:Hid (wr.ownsRow w.heap.size 9 1 u5 (k+1) ((wordsB wd (ns.take k)).map Value.string)):=hR
   have HB:Hid (Below w.heap.size w wr):=hB
   clear hcl hsn hR
   go_wp2_with (go_at_call 49;refine (HI.out _ HB.out).mono ?_)
   rintro e w1 ⟨rfl,hb1⟩
   have hB1:Below w.heap.size w w1:=after HB.out hb1 HB.out.size
   have hy1:=hb1.size
   have hy0:=HB.out.size
   clear hB
   go_wp2_with (at_builtin;refine list_append_two rfl (.tmp 16) (.tmp 19) 22 rfl w.heap.size 9 i0 (.string ⟨#[]⟩) 1 16 Tryz.underlying22 hi hz0 hz1 hz2 rfl (by decide) _ _ _ rfl ((own_next HR.out hb1).alloc _) ⟨w1.heap.size,0,none⟩ 1 1 [.string (bs (Lib.itoa n))] rfl rfl ?c1 ?c2 ?c3 ?c4 ?c5 (by decide) ?_)
   case c1=>
    intro j u hj
    match j,hj with
    | 0,hj=>simp at hj;subst hj;simp [Addr.add]
   case c2=>intro u hu;simp at hu;subst hu;rfl
   case c3=>unfold maxLen;omega
   case c4=>omega
   case c5=>simp;omega
   intro v7 w7 hown7 hgrow7 _
   have HO:Hid _:=hown7
   have hB7:Below w.heap.size w w7:=own_below ((own_next HR.out hb1).alloc _) hgrow7 (hB1.alloc (by omega) _) (by simp;omega) (Nat.le_refl _)
   clear hown7 hgrow7
   go_wp2_with fail
   go_roundg (ll - (k+1))
   case measure=>omega
   case rel=>
    refine ⟨k+1,by omega,rfl,by simp,?_,hB7⟩
    rw [HE.out,List.map_append]
    exact HO.out
  ·have hk':k=ll:=by omega
   subst hk'
   have HR:Hid (wr.ownsRow w.heap.size 9 1 u5 (k+1) ((wordsB wd ns).map Value.string)):=by
    have:=hR
    rw [List.take_of_length_le (by omega)] at this
    exact this
   clear hR
   go_wp2_with fail
   go_ret
   exact ⟨⟨_,rfl,HR.out⟩,hB⟩
theorem join_say (xs:List ByteArray):say (xs.map (·.data.toList))=Lib.join (xs.map (·.data.toList)) [32]++[10]:=rfl
theorem say_dlv {w0 w:World} {Z:Nat->Prop} {p q b m:Nat} {c:Nat->Nat} {ws:Nat->Int} {l:List UInt8} {T:Twn} (xs:List ByteArray) {sa:Option Addr} {sc:Nat} (h:DLv w0 Z w p q b m c ws l T) (hx:StrsAt w sa xs) (hc:xs.length<=sc) (hn:xs.length<200) (hne:0<(Lib.join (xs.map (·.data.toList)) [32]).length) (hR:Room (l.length+(say (xs.map (·.data.toList))).length)):
 Calls Tryz.prog 31 #[.pointer (some ⟨p,0,none⟩),.slice sa xs.length sc] w fun e w'=>e=.returned (.tuple #[])∧DLv w0 Z w' p q b m c ws (l++say (xs.map (·.data.toList))) T∧Save (fun k=>¬Z k) w w':=by
 have HR:Hid (Room (l.length+(say (xs.map (·.data.toList))).length)):=hR
 have HN:Hid (0<(Lib.join (xs.map (·.data.toList)) [32]).length):=hne
 have e1:(say (xs.map (·.data.toList))).length=(Lib.join (xs.map (·.data.toList)) [32]).length+1:=by rw [join_say];simp
 have H1:Hid (Room (l.length+(bs (Lib.join (xs.map (·.data.toList)) [32])).size)∧Room ((l++Lib.join (xs.map (·.data.toList)) [32]).length+1)):=by
  unfold Room at hR ⊢
  rw [bs_size,List.length_append]
  exact ⟨by omega,by omega⟩
 obtain ⟨x0,h0⟩:∃x,xs[0]?=some x:=by
  cases xs with
  | nil=>simp [Lib.join] at hne
  | cons x r=>exact ⟨x,rfl⟩
 obtain ⟨bk,o,rfl,hbk,_⟩:=hx 0 x0 h0
 have HJ:Hid (∀W:World,Below w.heap.size w W->Calls Tryz.prog 54 #[.slice (some ⟨bk,o,none⟩) xs.length sc,.string ⟨#[32]⟩] W fun e w'=>e=.returned (.string (bs (Lib.join (xs.map (·.data.toList)) [32])))∧Below W.heap.size W w'):=fun W hW=>by
  refine Tryz.strings_Join bk o sc xs ⟨#[32]⟩ W (fun j x hj=>?_) (Nat.lt_of_lt_of_le hbk hW.size) (by omega) hc ?_
  ·obtain ⟨b',o',e,hb',hc'⟩:=hx j x hj
   cases e
   exact (hW.cell (p:=⟨bk,o+j,none⟩) hb').trans hc'
  ·have:=HR.out
   unfold Room at this
   show (Lib.join (xs.map (·.data.toList)) [32]).length<=_
   omega
 have HW:Hid (∀W:World,Below w.heap.size w W->Calls Tryz.prog 53 #[.pointer (some ⟨p,0,none⟩),.string (bs (Lib.join (xs.map (·.data.toList)) [32]))] W fun e w'=>e=.returned (.tuple #[.int .i64 (bs (Lib.join (xs.map (·.data.toList)) [32])).size,.nilIface])∧DLv w0 Z w' p q b m c ws (l++Lib.join (xs.map (·.data.toList)) [32]) T∧Save (fun k=>¬Z k) W w'):=fun W hW=>wstr_dlv _ (h.next hW) (by rw [bs_size];exact HN.out) H1.out.1
 obtain ⟨_,hp,_,_⟩:=h.cells
 have HX:Hid (∀W,DLv w0 Z W p q b m c ws (l++Lib.join (xs.map (·.data.toList)) [32]) T->Calls Tryz.prog 55 #[.pointer (some ⟨p,0,none⟩),.int .u8 10] W fun e w'=>e=.returned .nilIface∧DLv w0 Z w' p q b m c ws (l++say (xs.map (·.data.toList))) T∧Save (fun k=>¬Z k) W w'):=fun W hW=>by
  refine (wbyte_dlv hW H1.out.2).mono ?_
  rintro e w' ⟨rfl,k1,k2⟩
  rw [List.append_assoc] at k1
  exact ⟨rfl,k1,k2⟩
 clear h hx hc hR hne h0 hbk e1
 generalize bs (Lib.join (xs.map (·.data.toList)) [32])=J at *
 go_enter Tryz.func31,Tryz.ntmps31
 go_upto_region 0 with fail
 go_region_held3 (fun _=>True)
  (exact trivial)
  (first | (go_at_call 54;refine Calls.mono (HJ.out _ (by go_grown)) ?_;rintro e w8 ⟨rfl,hb8⟩;have hB8:Below w.heap.size w w8:=after (by go_grown) hb8 (by simp)) | (go_at_call 53;refine Calls.mono (HW.out _ (by go_grown)) ?_;rintro e w9 ⟨rfl,k1,k2⟩;have HK9:Hid (DLv w0 Z w9 p q b m c ws (l++Lib.join (xs.map (·.data.toList)) [32]) T∧Save (fun k=>¬Z k) w w9):=And.intro k1 (Save.trans (Save.of_below hB8) k2 (fun _ _ hj=>hj));clear k1 k2))
 all_goals
  go_wp2_with (go_at_call 55;refine Calls.mono (HX.out _ HK9.out.1) ?_)
  rintro e w7 ⟨rfl,k1,k2⟩
  have HK7:Hid (DLv w0 Z w7 p q b m c ws (l++say (xs.map (·.data.toList))) T∧Save (fun k=>¬Z k) w w7):=⟨k1,HK9.out.2.trans k2 (fun _ _ hj=>hj)⟩
  clear k1 k2
  go_wp2_with fail
  go_end0
  exact ⟨rfl,HK7.out⟩
theorem wordsB_say (wd:ByteArray) (ns:List Int):say ((wordsB wd ns).map (·.data.toList))=sayN wd.data.toList ns:=by
 unfold sayN wordsB
 rw [List.map_cons,List.map_map]
 rfl
theorem wordsB_pos {wd:ByteArray} (ns:List Int) (h:0<wd.size) (r:List ByteArray):0<(Lib.join ((wordsB wd ns++r).map (·.data.toList)) [32]).length:=by
 have h1:0<wd.data.toList.length:=by simpa using h
 unfold wordsB Lib.join
 generalize (ns.map (fun n=>bs (Lib.itoa n))++r)=k at *
 have e:(wd :: ns.map (fun n=>bs (Lib.itoa n))++r).map (·.data.toList)=wd.data.toList :: (ns.map (fun n=>bs (Lib.itoa n))++r).map (·.data.toList):=by simp
 rw [e]
 cases (ns.map (fun n=>bs (Lib.itoa n))++r).map (·.data.toList) with
 | nil=>simpa [List.intercalate] using h1
 | cons y t=>
   simp [List.intercalate,List.intersperse]
   omega
theorem tell_dlv {w0 w:World} {Z:Nat->Prop} {p q b m:Nat} {c:Nat->Nat} {ws:Nat->Int} {l:List UInt8} {T:Twn} (wd:ByteArray) (ns:List Int) {sa:Option Addr} {sc:Nat} (ht:Tied w0) (h:DLv w0 Z w p q b m c ws l T) (hx:NumsAt w sa ns) (hs:∀n∈ns,Sm n) (hn:ns.length<100) (hw:0<wd.size) (hR:Room (l.length+(sayN wd.data.toList ns).length)):
 Calls Tryz.prog 74 #[.pointer (some ⟨p,0,none⟩),.string wd,.slice sa ns.length sc] w fun e w'=>e=.returned (.tuple #[])∧DLv w0 Z w' p q b m c ws (l++sayN wd.data.toList ns) T∧Save (fun k=>¬Z k) w w':=by
 have HW:=with_any wd ns sa sc w (ht.below h.below) hx hs hn
 have HS:Hid (∀(W:World) (v:Value),Below w.heap.size w W->W.ownsRow w.heap.size 9 1 v (ns.length+1) ((wordsB wd ns).map Value.string)->Calls Tryz.prog 31 #[.pointer (some ⟨p,0,none⟩),v] W fun e w'=>e=.returned (.tuple #[])∧DLv w0 Z w' p q b m c ws (l++sayN wd.data.toList ns) T∧Save (fun k=>¬Z k) w w'):=fun W v hW hv=>by
  obtain ⟨ga,cap,rfl,hg,hgl,hc,_⟩:=strs_of_own hv
  have:=say_dlv (wordsB wd ns) (sc:=cap) (h.next hW) hg (by omega) (by omega) (by have:=wordsB_pos ns hw [];rwa [List.append_nil] at this) (by rw [wordsB_say];exact hR)
  rw [wordsB_say,hgl] at this
  refine this.mono ?_
  rintro e w' ⟨rfl,k1,k2⟩
  exact ⟨rfl,k1,(Save.of_below hW).trans k2 (fun _ _ hj=>hj)⟩
 clear h hx hs hR hw ht
 go_enter Tryz.func74,Tryz.ntmps74
 go_wp2_with (go_at_call 105;refine Calls.mono HW ?_)
 rintro e w1 ⟨⟨v,rfl,hv⟩,hb1⟩
 have HV:=HS.out w1 v hb1 hv
 clear hv HS
 go_wp2_with (go_at_call 31;refine Calls.mono HV ?_)
 rintro e w2 ⟨rfl,k1,k2⟩
 have HK7:Hid (DLv w0 Z w2 p q b m c ws (l++sayN wd.data.toList ns) T∧Save (fun k=>¬Z k) w w2):=⟨k1,k2⟩
 clear k1 k2
 go_wp2_with fail
 go_end0
 exact ⟨rfl,HK7.out⟩
theorem strs_one (w:World) (x:ByteArray) (t:TypeId):StrsAt (w.alloc (.cells #[.string x] t)) (some ⟨w.heap.size,0,none⟩) [x]:=by
 intro k y hk
 match k,hk with
 | 0,hk=>
   simp at hk
   subst hk
   exact ⟨w.heap.size,0,rfl,by simp,by simp [go_sem]⟩
theorem numS_one (w:World) (n:Int) (t:TypeId):NumsAt (w.alloc (.cells #[.int .i64 n] t)) (some ⟨w.heap.size,0,none⟩) [n]:=by
 intro k y hk
 match k,hk with
 | 0,hk=>
   simp at hk
   subst hk
   exact ⟨w.heap.size,0,rfl,by simp,by simp [go_sem]⟩
theorem Room.le {n k:Nat} (h:Room n) (hk:k<=n):Room k:=Nat.le_trans hk h
theorem word_dlv {w0 w:World} {Z:Nat->Prop} {p q b m:Nat} {c:Nat->Nat} {ws:Nat->Int} {l:List UInt8} {T:Twn} (x:ByteArray) (t:TypeId) (h:DLv w0 Z w p q b m c ws l T) (hx:0<x.size) (hy:x.size<=7) (hR:Room (l.length+2000)):
 Calls Tryz.prog 31 #[.pointer (some ⟨p,0,none⟩),.slice (some ⟨w.heap.size,0,none⟩) 1 1] (w.alloc (.cells #[.string x] t)) fun e w'=>e=.returned (.tuple #[])∧DLv w0 Z w' p q b m c ws (l++say [x.data.toList]) T∧Save (fun k=>¬Z k) w w':=by
 have h1:Below w.heap.size w (w.alloc (.cells #[.string x] t)):=by go_grown
 have e1:(say ([x].map (·.data.toList))).length=x.size+1:=by simp [say]
 refine (say_dlv [x] (h.next h1) (strs_one w x t) (by simp) (by simp) (by simpa [Lib.join,List.intercalate] using hx) (hR.le (by rw [e1];omega))).mono ?_
 rintro e w' ⟨rfl,k1,k2⟩
 exact ⟨rfl,k1,(Save.of_below h1).trans k2 (fun _ _ hj=>hj)⟩
theorem num_dlv {w0 w:World} {Z:Nat->Prop} {p q b m:Nat} {c:Nat->Nat} {ws:Nat->Int} {l:List UInt8} {T:Twn} (x:ByteArray) (n:Int) (t:TypeId) (ht:Tied w0) (h:DLv w0 Z w p q b m c ws l T) (hx:0<x.size) (hy:x.size<=7) (hn:Sm n) (hR:Room (l.length+2000)):
 Calls Tryz.prog 74 #[.pointer (some ⟨p,0,none⟩),.string x,.slice (some ⟨w.heap.size,0,none⟩) 1 1] (w.alloc (.cells #[.int .i64 n] t)) fun e w'=>e=.returned (.tuple #[])∧DLv w0 Z w' p q b m c ws (l++sayN x.data.toList [n]) T∧Save (fun k=>¬Z k) w w':=by
 have h1:Below w.heap.size w (w.alloc (.cells #[.int .i64 n] t)):=by go_grown
 have e1:=one_short (w:=x.data.toList) (by simpa using hy) hn
 refine (tell_dlv x [n] ht (h.next h1) (numS_one w n t) (fun k hk=>by rw [List.mem_singleton.1 hk];exact hn) (by simp) hx (hR.le (by omega))).mono ?_
 rintro e w' ⟨rfl,k1,k2⟩
 exact ⟨rfl,k1,(Save.of_below h1).trans k2 (fun _ _ hj=>hj)⟩
theorem save_z {Z:Nat->Prop} {w w1 w2:World} (hb:Below w.heap.size w w1) (h:Save (fun k=>¬(Z k∨k=w.heap.size)) w1 w2):Save (fun k=>¬Z k) w w2:=(Save.of_below hb).trans h (fun _ _ hj hz=>hj (.inl hz))
def stpO (x:TSp) (sa:Option Addr) (sc:Nat):Obj:=.cells #[.int .i64 x.kind,.int .i64 x.n,.slice sa x.w.length sc] 95
theorem dstep_dlv {w0 w:World} {Z:Nat->Prop} {p q b m:Nat} {c:Nat->Nat} {ws:Nat->Int} {l:List UInt8} {T:Twn} (x:TSp) {sa:Option Addr} {sc:Nat} (ht:Tied w0) (h:DLv w0 Z w p q b m c ws l T) (hx:WantsAt w sa x.w) (hR:Room (l.length+2000)):
 Calls Tryz.prog 73 #[.pointer (some ⟨p,0,none⟩),.agg #[.int .i64 x.kind,.int .i64 x.n,.slice sa x.w.length sc]] w fun e w'=>e=.returned (.tuple #[])∧DLv w0 Z w' p q b m c ws (l++sayStep (townR T x).1) (townR T x).2∧Save (fun k=>¬Z k) w w':=by
 obtain ⟨W1,hW1⟩:∃W1,W1=w.alloc (stpO x sa sc):=⟨_,rfl⟩
 have hb1:Below w.heap.size w W1:=by rw [hW1];go_grown
 have hz1:W1.heap.size=w.heap.size+1:=by rw [hW1];simp
 have h1:DLv w0 (fun k=>Z k∨k=w.heap.size) W1 p q b m c ws l T:=h.more hb1 (fun k hk=>hk.elim .inl (fun e=>.inr ⟨by omega,by omega⟩))
 obtain ⟨c2,hp,_,_⟩:=h1.cells
 have x0:W1.cell? ⟨w.heap.size,0,none⟩=some (.int .i64 x.kind):=by rw [hW1];simp [go_sem,stpO]
 have x1:W1.cell? ⟨w.heap.size,1,none⟩=some (.int .i64 x.n):=by rw [hW1];simp [go_sem,stpO]
 have x2:W1.cell? ⟨w.heap.size,2,none⟩=some (.slice sa x.w.length sc):=by rw [hW1];simp [go_sem,stpO]
 have hb:w.heap.size<W1.heap.size:=by omega
 have HC:Hid (∀W:World,Below W1.heap.size W1 W->Calls Tryz.prog 104 #[.pointer (some ⟨q,0,none⟩),.agg #[.int .i64 x.kind,.int .i64 x.n,.slice sa x.w.length sc]] W fun e w'=>e=.returned (.int .i64 (townR T x).1)∧DLv w0 (fun k=>Z k∨k=w.heap.size) w' p q b m c ws l (townR T x).2∧Save (fun k=>¬(Z k∨k=w.heap.size)) W w'):=fun W hW=>step_dlv x (h1.next hW) (WantsAt.below hx (after hb1 hW hb1.size) (Nat.le_refl _))
 have HK:Hid (∀w',Below W1.heap.size W1 w'->w'.cell? ⟨p,2,none⟩=some (.pointer (some ⟨q,0,none⟩))∧w'.cell? ⟨w.heap.size,0,none⟩=some (.int .i64 x.kind)∧w'.cell? ⟨w.heap.size,1,none⟩=some (.int .i64 x.n)∧w'.cell? ⟨w.heap.size,2,none⟩=some (.slice sa x.w.length sc)):=fun w' hb'=>⟨((bcell hb').1 _ _ hp).trans c2,((bcell hb').1 _ _ hb).trans x0,((bcell hb').1 _ _ hb).trans x1,((bcell hb').1 _ _ hb).trans x2⟩
 have HK2:Hid (∀W w',Below W1.heap.size W1 W->DLv w0 (fun k=>Z k∨k=w.heap.size) w' p q b m c ws l (townR T x).2->Save (fun k=>¬(Z k∨k=w.heap.size)) W w'->(w'.cell? ⟨p,2,none⟩=some (.pointer (some ⟨q,0,none⟩))∧w'.cell? ⟨w.heap.size,0,none⟩=some (.int .i64 x.kind)∧w'.cell? ⟨w.heap.size,1,none⟩=some (.int .i64 x.n)∧w'.cell? ⟨w.heap.size,2,none⟩=some (.slice sa x.w.length sc))∧DLv w0 Z w' p q b m c ws l (townR T x).2∧Save (fun k=>¬Z k) w w'):=fun W w' hW hd hs=>by
  obtain ⟨k0,k1,k2,k3⟩:=HK.out W hW
  have hz:=hW.size
  have q:∀j,w'.cell? ⟨w.heap.size,j,none⟩=W.cell? ⟨w.heap.size,j,none⟩:=fun j=>hs.cell (p:=⟨w.heap.size,j,none⟩) (Nat.lt_of_lt_of_le hb hz) (fun hn=>hn (.inr rfl))
  exact ⟨⟨hd.cells.1,(q 0).trans k1,(q 1).trans k2,(q 2).trans k3⟩,hd.less (fun _ hk=>.inl hk),save_z (after hb1 hW hb1.size) hs⟩
 have HR:Hid (Room (l.length+2000)):=hR
 have HT:Hid (Tied w0):=ht
 have HM:Hid (Sm (townR T x).1):=code_small T x
 have HY:Hid ((townR T x).1=0->sayStep (townR T x).1=say [(⟨#[111,107]⟩:ByteArray).data.toList]):=fun e=>by unfold sayStep;rw [if_pos e];rfl
 have HNo:Hid ((townR T x).1 ≠ 0->sayStep (townR T x).1=sayN (⟨#[110,111]⟩:ByteArray).data.toList [(townR T x).1]):=fun e=>by unfold sayStep;rw [if_neg e];rfl
 clear h hx hR ht h1 c2 x0 x1 x2
 generalize (townR T x).2=T' at *
 generalize (townR T x).1=co at *
 go_enter Tryz.func73,Tryz.ntmps73
 go_upto_region 1 with fail
 rw [show w.alloc (.cells #[.int .i64 x.kind,.int .i64 x.n,.slice sa x.w.length sc] 95)=W1 from hW1.symm]
 clear hW1
 by_cases hc:co=0
 ·have HY0:Hid (sayStep co=say [(⟨#[111,107]⟩:ByteArray).data.toList]):=HY.out hc
  subst hc
  go_region_held3 (fun w'=>w'.cell? ⟨p,2,none⟩=some (.pointer (some ⟨q,0,none⟩))∧w'.cell? ⟨w.heap.size,0,none⟩=some (.int .i64 x.kind)∧w'.cell? ⟨w.heap.size,1,none⟩=some (.int .i64 x.n)∧w'.cell? ⟨w.heap.size,2,none⟩=some (.slice sa x.w.length sc))
   (first | exact HK9 | exact HK.out _ (by go_grown))
   (first | (go_at_call 104;refine Calls.mono (HC.out _ (by go_grown)) ?_;rintro e w9 ⟨rfl,h91,h92⟩;have HK9:=(HK2.out _ w9 (by go_grown) h91 h92).1;have HE9:Hid (DLv w0 Z w9 p q b m c ws l T'∧Save (fun k=>¬Z k) w w9):=(HK2.out _ w9 (by go_grown) h91 h92).2;clear h91 h92))
  all_goals
   go_wp2_with (go_at_call 31;refine Calls.mono (word_dlv ⟨#[111,107]⟩ 9 HE9.out.1 (by decide) (by decide) HR.out) ?_;rintro e w7 ⟨rfl,k1,k2⟩;have HK7:Hid (DLv w0 Z w7 p q b m c ws (l++sayStep 0) T'∧Save (fun k=>¬Z k) w w7):=⟨by rw [HY0.out];exact k1,HE9.out.2.trans k2 (fun _ _ hj=>hj)⟩;clear k1 k2)
   go_end0
   exact ⟨rfl,HK7.out⟩
 ·have hc':(co != 0)=true:=by simpa using hc
  have HC0:Hid (co ≠ 0):=hc
  clear hc
  go_region_held3 (fun w'=>w'.cell? ⟨p,2,none⟩=some (.pointer (some ⟨q,0,none⟩))∧w'.cell? ⟨w.heap.size,0,none⟩=some (.int .i64 x.kind)∧w'.cell? ⟨w.heap.size,1,none⟩=some (.int .i64 x.n)∧w'.cell? ⟨w.heap.size,2,none⟩=some (.slice sa x.w.length sc))
   (first | exact HK9 | exact HK.out _ (by go_grown))
   (first | (go_at_call 104;refine Calls.mono (HC.out _ (by go_grown)) ?_;rintro e w9 ⟨rfl,h91,h92⟩;have HK9:=(HK2.out _ w9 (by go_grown) h91 h92).1;have HE9:Hid (DLv w0 Z w9 p q b m c ws l T'∧Save (fun k=>¬Z k) w w9):=(HK2.out _ w9 (by go_grown) h91 h92).2;clear h91 h92))
  all_goals
   go_wp2_with (go_at_call 74;refine Calls.mono (num_dlv ⟨#[110,111]⟩ co 3 HT.out HE9.out.1 (by decide) (by decide) HM.out HR.out) ?_;rintro e w7 ⟨rfl,k1,k2⟩;have HK7:Hid (DLv w0 Z w7 p q b m c ws (l++sayStep co) T'∧Save (fun k=>¬Z k) w w7):=⟨by rw [HNo.out HC0.out];exact k1,HE9.out.2.trans k2 (fun _ _ hj=>hj)⟩;clear k1 k2)
   (try simp only [Exit.inBlock,Exit.then]);refine bodyPost_ret (results_none rfl _ _ _) rfl ?_
   exact ⟨rfl,HK7.out⟩
theorem nums_row {w:World} {g:Nat} {ns:List Int} (h:g<w.heap.size) (hc:∀k n,ns[k]?=some n->w.cell? ⟨g,k,none⟩=some (.int .i64 n)):NumsAt w (some ⟨g,0,none⟩) ns:=fun k n hk=>⟨g,0,rfl,h,by rw [Nat.zero_add];exact hc k n hk⟩
theorem dworld_dlv {w0 w:World} {Z:Nat->Prop} {p q b m:Nat} {c:Nat->Nat} {ws:Nat->Int} {l:List UInt8} {T:Twn} (f:Nat->Int) (ht:Tied w0) (h:DLv w0 Z w p q b m c ws l T) (hf:∀k,k<6->Sm (f k)) (hR:Room (l.length+2000)):
 Calls Tryz.prog 76 #[.pointer (some ⟨p,0,none⟩),wldV f,.int .i64 0] w fun e w'=>e=.returned (.tuple #[])∧DLv w0 Z w' p q b m c ws (l++sayN (bytes "world") (six6 f)) T∧Save (fun k=>¬Z k) w w':=by
 have HT:Hid (∀W:World,Below w.heap.size w W->NumsAt W (some ⟨w.heap.size,0,none⟩) (six6 f)->∀sc,Calls Tryz.prog 74 #[.pointer (some ⟨p,0,none⟩),.string ⟨#[119,111,114,108,100]⟩,.slice (some ⟨w.heap.size,0,none⟩) 6 sc] W fun e w'=>e=.returned (.tuple #[])∧DLv w0 Z w' p q b m c ws (l++sayN (bytes "world") (six6 f)) T∧Save (fun k=>¬Z k) w w'):=fun W hW hn sc=>by
  have hs:=six6_short hf
  refine (tell_dlv ⟨#[119,111,114,108,100]⟩ (six6 f) (sc:=sc) ht (h.next hW) hn (fun n hn=>?_) (by simp [six6]) (by decide) (hR.le ?_)).mono ?_
  ·simp only [six6,List.mem_cons,List.mem_nil_iff,or_false] at hn
   rcases hn with q | q | q | q | q | q <;> rw [q] <;> exact hf _ (by omega)
  ·have:(sayN (⟨#[119,111,114,108,100]⟩:ByteArray).data.toList (six6 f)).length<=2000:=hs
   omega
  ·rintro e w' ⟨rfl,k1,k2⟩
   exact ⟨rfl,k1,(Save.of_below hW).trans k2 (fun _ _ hj=>hj)⟩
 have hp:=h.cells.2.1
 have HC:=HT.out (w.alloc (.cells #[.int .i64 (f 0),.int .i64 (f 1),.int .i64 (f 2),.int .i64 (f 3),.int .i64 (f 4),.int .i64 (f 5)] 40)) (by go_grown) (nums_row (by simp) (fun k n hk=>by
  match k,hk with
  | 0,hk=>simp [six6] at hk;subst hk;simp [go_sem]
  | 1,hk=>simp [six6] at hk;subst hk;simp [go_sem]
  | 2,hk=>simp [six6] at hk;subst hk;simp [go_sem]
  | 3,hk=>simp [six6] at hk;subst hk;simp [go_sem]
  | 4,hk=>simp [six6] at hk;subst hk;simp [go_sem]
  | 5,hk=>simp [six6] at hk;subst hk;simp [go_sem]
  | k+6,hk=>simp [six6] at hk)) 6
 clear h hf hR ht HT
 unfold wldV
 go_enter Tryz.func76,Tryz.ntmps76
 go_wp2_with (go_at_call 74;refine Calls.mono HC ?_;rintro e w7 ⟨rfl,k1,k2⟩;have HK7:Hid (DLv w0 Z w7 p q b m c ws (l++sayN (bytes "world") (six6 f)) T∧Save (fun k=>¬Z k) w w7):=⟨k1,k2⟩;clear k1 k2)
 go_returns
 exact ⟨rfl,HK7.out⟩
theorem mword_any (k:Int) (hk:k=1∨k=2∨k=3∨k=4) (w:World):Calls Tryz.prog 111 #[.int .i64 k] w fun e w'=>e=.returned (.string (bs (kindW k)))∧w'=w:=by
 rcases hk with rfl | rfl | rfl | rfl
 all_goals
  go_enter Tryz.func111,Tryz.ntmps111
  go_wp2_with fail
  go_returns
  exact ⟨by rfl,rfl⟩
theorem say_own {w0 w W:World} {Z:Nat->Prop} {p q b m B n:Nat} {c:Nat->Nat} {ws:Nat->Int} {l:List UInt8} {T:Twn} {v:Value} (xs:List ByteArray) (h:DLv w0 Z w p q b m c ws l T) (hW:Below w.heap.size w W) (hv:W.ownsRow B 9 1 v n (xs.map Value.string)) (hn:xs.length<200) (hne:0<(Lib.join (xs.map (·.data.toList)) [32]).length) (hR:Room (l.length+(say (xs.map (·.data.toList))).length)):
 Calls Tryz.prog 31 #[.pointer (some ⟨p,0,none⟩),v] W fun e w'=>e=.returned (.tuple #[])∧DLv w0 Z w' p q b m c ws (l++say (xs.map (·.data.toList))) T∧Save (fun k=>¬Z k) w w':=by
 obtain ⟨ga,cap,rfl,hg,hgl,hc,_⟩:=strs_of_own hv
 have:=say_dlv xs (sc:=cap) (h.next hW) hg (by omega) hn hne hR
 rw [hgl] at this
 refine this.mono ?_
 rintro e w' ⟨rfl,k1,k2⟩
 exact ⟨rfl,k1,(Save.of_below hW).trans k2 (fun _ _ hj=>hj)⟩
theorem own_less {w:World} {B C e s n:Nat} {v:Value} {xs:List Value} (h:w.ownsRow B e s v n xs) (hC:C<=B):w.ownsRow C e s v n xs:=⟨h.1,h.2.imp id (fun ⟨g,cap,cur,a,b,r⟩=>⟨g,cap,cur,a,Nat.le_trans hC b,r⟩)⟩
theorem str_new {w:World} {x:ByteArray} {t:TypeId} (H:Nat) (hH:w.heap.size=H):∀j u,[Value.string x][j]?=some u->(w.alloc (.cells #[.string x] t)).cell? ((⟨H,0,none⟩:Addr).add j)=some u:=by
 subst hH
 intro j u hj
 match j,hj with
 | 0,hj=>simp at hj;subst hj;simp [Addr.add]
theorem str_cell {x:ByteArray}:∀u∈[Value.string x],u.oneCell'=true:=by
 intro u hu
 rw [List.mem_singleton.1 hu];rfl
def mailB (x:Ml):List ByteArray:=wordsB (bs (kindW x.kind)) [x.deal,x.shop,x.c,x.d]
theorem mailB_say (x:Ml):say ((mailB x++if x.yes then [bs (bytes "yes")] else []).map (·.data.toList))=sayM x:=by
 unfold sayM mailB wordsB
 cases x.yes <;> rfl
theorem kindW_pos {k:Int} (hk:k=1∨k=2∨k=3∨k=4):0<(bs (kindW k)).size:=by rcases hk with rfl | rfl | rfl | rfl <;> decide
theorem mails_dlv {w0 w:World} {Z:Nat->Prop} {p q b m:Nat} {c:Nat->Nat} {ws:Nat->Int} {l:List UInt8} {T:Twn} (ms:List Ml) {ga:Option Addr} {gc:Nat} (ht:Tied w0) (h:DLv w0 Z w p q b m c ws l T) (hm:MailsAt w ga ms) (hz:∀a,ga=some a->Z a.block) (hs:∀x∈ms,MTell x) (hl:ms.length<=40) (hR:Room (l.length+5000)):
 Calls Tryz.prog 80 #[.pointer (some ⟨p,0,none⟩),.slice ga ms.length gc] w fun e w'=>e=.returned (.tuple #[])∧DLv w0 Z w' p q b m c ws (l++sayMails ms) T∧Save (fun k=>¬Z k) w w':=by
 obtain ⟨i0,hi,hz0,hz1,hz2⟩:=info_parts infoStr
 have HT:Hid (Tied w0):=ht
 have HM:Hid (MailsAt w ga ms):=hm
 have HZ:Hid (∀a,ga=some a->Z a.block):=hz
 have HS:Hid (∀x∈ms,MTell x):=hs
 have HR:Hid (∀k,Room ((l++((ms.take k).map sayM).flatten).length+2000)):=fun k=>by
  have h1:=flat_short (l:=ms.take k) (f:=sayM) (n:=49) (fun x hx=>sayM_short (hs x (List.mem_of_mem_take hx)))
  have h2:(ms.take k).length<=40:=by rw [List.length_take];omega
  refine hR.le ?_
  rw [List.length_append]
  omega
 have HD:Hid (DLv w0 Z w p q b m c ws l T):=h
 obtain ⟨ll,hll⟩:∃ll,ms.length=ll:=⟨_,rfl⟩
 rw [hll] at hl ⊢
 clear h hm hz hs hR ht
 go_enter Tryz.func80,Tryz.ntmps80
 go_wp2_with fail
 go_loopg [9] ll (fun g i wr=>∃k:Nat,k<=ll∧g=ll - k∧i=.int .i64 k∧DLv w0 Z wr p q b m c ws (l++((ms.take k).map sayM).flatten) T∧Save (fun k=>¬Z k) w wr)
 case atStart=>exact ⟨0,Nat.zero_le _,rfl,rfl,by simpa using HD.out,Save.refl _ _⟩
 case round=>
  obtain ⟨k,hk,rfl,rfl,hD,hV⟩:=hrel
  have HD1:Hid (DLv w0 Z wr p q b m c ws (l++((ms.take k).map sayM).flatten) T):=hD
  have HV1:Hid (Save (fun k=>¬Z k) w wr):=hV
  have hp:=hD.cells.2.1
  clear hD hV
  by_cases hlt:k<ll
  ·obtain ⟨x,hkx⟩:∃x,ms[k]?=some x:=⟨_,List.getElem?_eq_getElem (by omega)⟩
   obtain ⟨bl,ol,rfl,hbl,hcl⟩:=HM.out k x hkx
   have hx:=HS.out x (List.mem_of_getElem? hkx)
   have hcell:∀j v,x.cells[j]?=some v->wr.cell? ⟨bl,ol+k * 6+j,none⟩=some v:=fun j v hj=>(HV1.out.cell (p:=⟨bl,ol+k * 6+j,none⟩) hbl (fun hn=>hn (HZ.out ⟨bl,ol,none⟩ rfl))).trans (hcl j v hj)
   have y0:wr.cell? ⟨bl,ol+k * 6,none⟩=some (.int .i64 x.kind):=hcell 0 _ rfl
   have y1:wr.cell? ⟨bl,ol+k * 6+1,none⟩=some (.int .i64 x.deal):=hcell 1 _ rfl
   have y2:wr.cell? ⟨bl,ol+k * 6+2,none⟩=some (.int .i64 x.shop):=hcell 2 _ rfl
   have y3:wr.cell? ⟨bl,ol+k * 6+3,none⟩=some (.int .i64 x.c):=hcell 3 _ rfl
   have y4:wr.cell? ⟨bl,ol+k * 6+4,none⟩=some (.int .i64 x.d):=hcell 4 _ rfl
   have y5:wr.cell? ⟨bl,ol+k * 6+5,none⟩=some (.bool x.yes):=hcell 5 _ rfl
   have j0:(0:Int)<=(k:Int):=by omega
   have j1:(k:Int)<(ll:Int):=by omega
   have j2:(ll:Int)<100:=by omega
   have HX:Hid (MTell x):=hx
   have HE:Hid (((ms.take (k+1)).map sayM).flatten=((ms.take k).map sayM).flatten++sayM x):=by
    have e1:ms.take (k+1)=ms.take k++[x]:=by rw [List.take_add_one,hkx];rfl
    have e2:((ms.take (k+1)).map sayM).flatten=((ms.take k).map sayM).flatten++sayM x:=by rw [e1];simp
    exact e2
   have HSy:Hid (∀(W:World) (v:Value) (B n:Nat),Below wr.heap.size wr W->W.ownsRow B 9 1 v n ((mailB x++if x.yes then [bs (bytes "yes")] else []).map Value.string)->Calls Tryz.prog 31 #[.pointer (some ⟨p,0,none⟩),v] W fun e w'=>e=.returned (.tuple #[])∧DLv w0 Z w' p q b m c ws (l++((ms.take (k+1)).map sayM).flatten) T∧Save (fun k=>¬Z k) w w'):=fun W v B n hW hv=>by
    have h1:=sayM_short HX.out
    have h2:=HR.out k
    refine (say_own _ HD1.out hW hv ?_ (wordsB_pos _ (kindW_pos HX.out.kind) _) (by rw [mailB_say];exact h2.le (by omega))).mono ?_
    ·unfold mailB wordsB
     cases x.yes <;> simp
    ·rintro e w' ⟨rfl,k1,k2⟩
     rw [mailB_say,List.append_assoc] at k1
     rw [HE.out]
     exact ⟨rfl,k1,HV1.out.trans k2 (fun _ _ hj=>hj)⟩
   have HW:Hid (∀(W:World) (g:Nat),Below wr.heap.size wr W->g<W.heap.size->W.cell? ⟨g,0,none⟩=some (.int .i64 x.deal)->W.cell? ⟨g,1,none⟩=some (.int .i64 x.shop)->W.cell? ⟨g,2,none⟩=some (.int .i64 x.c)->W.cell? ⟨g,3,none⟩=some (.int .i64 x.d)->Calls Tryz.prog 105 #[.string (bs (kindW x.kind)),.slice (some ⟨g,0,none⟩) 4 4] W fun e w'=>(∃v,e=.returned v∧w'.ownsRow wr.heap.size 9 1 v 5 ((mailB x).map Value.string))∧Below W.heap.size W w'):=fun W g hW hg a0 a1 a2 a3=>by
    refine Calls.mono (with_any (bs (kindW x.kind)) [x.deal,x.shop,x.c,x.d] (some ⟨g,0,none⟩) 4 W (HT.out.below (after HD1.out.below hW HD1.out.below.size)) (nums_row hg (fun k n hk=>?_)) (fun n hn=>?_) (by simp)) (fun e w' hq=>?_)
    ·match k,hk with
     | 0,hk=>simp at hk;subst hk;exact a0
     | 1,hk=>simp at hk;subst hk;exact a1
     | 2,hk=>simp at hk;subst hk;exact a2
     | 3,hk=>simp at hk;subst hk;exact a3
     | k+4,hk=>simp at hk
    ·simp only [List.mem_cons,List.mem_nil_iff,or_false] at hn
     rcases hn with e | e | e | e <;> rw [e]
     ·exact HX.out.deal
     ·exact HX.out.shop
     ·exact HX.out.c
     ·exact HX.out.d
    ·obtain ⟨⟨v,e1,e2⟩,e3⟩:=hq
     exact ⟨⟨v,e1,own_less e2 hW.size⟩,e3⟩
   have HWo:Hid (∀W:World,Calls Tryz.prog 111 #[.int .i64 x.kind] W fun e w'=>e=.returned (.string (bs (kindW x.kind)))∧w'=W):=fun W=>mword_any x.kind HX.out.kind W
   clear hcell hcl hx hkx HM HS HX
   obtain ⟨kx,dx,sx,cx,dd,yx⟩:=x
   dsimp only at *
   obtain ⟨Wm,hWm⟩:∃Wm,Wm=wr.alloc (.cells #[.int .i64 kx,.int .i64 dx,.int .i64 sx,.int .i64 cx,.int .i64 dd,.bool yx] 142):=⟨_,rfl⟩
   have hbm:Below wr.heap.size wr Wm:=by rw [hWm];go_grown
   have hzm:Wm.heap.size=wr.heap.size+1:=by rw [hWm];simp
   have HK:Hid (∀w',Below Wm.heap.size Wm w'->w'.cell? ⟨wr.heap.size,0,none⟩=some (.int .i64 kx)∧w'.cell? ⟨wr.heap.size,1,none⟩=some (.int .i64 dx)∧w'.cell? ⟨wr.heap.size,2,none⟩=some (.int .i64 sx)∧w'.cell? ⟨wr.heap.size,3,none⟩=some (.int .i64 cx)∧w'.cell? ⟨wr.heap.size,4,none⟩=some (.int .i64 dd)∧w'.cell? ⟨wr.heap.size,5,none⟩=some (.bool yx)∧Below Wm.heap.size Wm w'):=fun w' hb'=>by
    have hlt':wr.heap.size<Wm.heap.size:=by omega
    refine ⟨((bcell hb').1 _ _ hlt').trans ?_,((bcell hb').1 _ _ hlt').trans ?_,((bcell hb').1 _ _ hlt').trans ?_,((bcell hb').1 _ _ hlt').trans ?_,((bcell hb').1 _ _ hlt').trans ?_,((bcell hb').1 _ _ hlt').trans ?_,hb'⟩ <;> (rw [hWm];simp [go_sem])
   have HBm:Hid (∀w',Below Wm.heap.size Wm w'->Below wr.heap.size wr w'):=fun w' hb'=>after hbm hb' hbm.size
   go_upto_region 3 with fail
   rw [<-hWm]
   clear y0 y1 y2 y3 y4 y5 hWm hzm
   go_region_held3 (fun w'=>w'.cell? ⟨wr.heap.size,0,none⟩=some (.int .i64 kx)∧w'.cell? ⟨wr.heap.size,1,none⟩=some (.int .i64 dx)∧w'.cell? ⟨wr.heap.size,2,none⟩=some (.int .i64 sx)∧w'.cell? ⟨wr.heap.size,3,none⟩=some (.int .i64 cx)∧w'.cell? ⟨wr.heap.size,4,none⟩=some (.int .i64 dd)∧w'.cell? ⟨wr.heap.size,5,none⟩=some (.bool yx)∧Below Wm.heap.size Wm w')
    (exact HK.out _ (by go_grown))
    (first | (go_at_call 111;refine Calls.mono (HWo.out _) ?_;rintro e w8 ⟨rfl,rfl⟩) | (go_at_call 105;refine Calls.mono (HW.out _ Wm.heap.size (HBm.out _ (by go_grown)) (by simp) (by simp [go_sem]) (by simp [go_sem]) (by simp [go_sem]) (by simp [go_sem])) ?_;rintro e w9 ⟨⟨v,rfl,hv⟩,hb9⟩;have hB9:Below Wm.heap.size Wm w9:=after (by go_grown) hb9 (by simp);have HV9:=hid hv;clear hv hb9))
   all_goals
    have k5:=(HK.out w9 hB9).2.2.2.2.2.1
    have HB9:Hid (Below wr.heap.size wr w9):=HBm.out _ hB9
    have hz9:=hB9.size
    cases yx with
    | false=>
      have HC:=HSy.out w9 v _ 5 HB9.out (by simpa using HV9.out)
      clear HSy HV9 HK HBm hB9 HW HWo
      go_wp2_with (go_at_call 31;refine Calls.mono HC ?_;rintro e w7 ⟨rfl,k1,k2⟩;have HK7:Hid (DLv w0 Z w7 p q b m c ws (l++((ms.take (k+1)).map sayM).flatten) T∧Save (fun k=>¬Z k) w w7):=⟨k1,k2⟩;clear k1 k2)
      go_roundg (ll - (k+1))
      case measure=>omega
      case rel=>exact ⟨k+1,by omega,rfl,by simp,HK7.out⟩
    | true=>
      have HO9':Hid (w9.ownsRow wr.heap.size 9 1 v 5 ((mailB ⟨kx,dx,sx,cx,dd,true⟩).map Value.string)):=HV9.out
      have hBs:=HB9.out.size
      clear HV9 HK HBm hB9 HW HWo
      go_wp2_with (at_builtin;refine list_append_two rfl (.tmp 30) (.tmp 31) 22 rfl wr.heap.size 9 i0 (.string ⟨#[]⟩) 1 16 Tryz.underlying22 hi hz0 hz1 hz2 rfl (by decide) v 5 _ rfl (HO9'.out.alloc _) ⟨w9.heap.size,0,none⟩ 1 1 [.string ⟨#[121,101,115]⟩] rfl rfl (str_new _ (by simp)) str_cell (by unfold maxLen;omega) (by omega) (by simp;omega) (by decide) ?_;intro v7 w7 hown7 hgrow7 _)
      have hb7:Below wr.heap.size wr w7:=own_below (HO9'.out.alloc _) hgrow7 (HB9.out.alloc HB9.out.size _) (by have:=HB9.out.size;simp;omega) (Nat.le_refl _)
      have HC:=HSy.out w7 v7 wr.heap.size 6 hb7 (by rw [if_pos trivial,List.map_append];exact hown7)
      clear HSy hown7 hgrow7
      go_wp2_with (go_at_call 31;refine Calls.mono HC ?_;rintro e w6 ⟨rfl,k1,k2⟩;have HK7:Hid (DLv w0 Z w6 p q b m c ws (l++((ms.take (k+1)).map sayM).flatten) T∧Save (fun k=>¬Z k) w w6):=⟨k1,k2⟩;clear k1 k2)
      go_roundg (ll - (k+1))
      case measure=>omega
      case rel=>exact ⟨k+1,by omega,rfl,by simp,HK7.out⟩
  ·have hk':k=ll:=by omega
   subst hk'
   have j1:¬(k:Int)<(k:Int):=by omega
   have HE:Hid (l++((ms.take k).map sayM).flatten++say [bytes "end"]=l++sayMails ms):=by
    rw [List.take_of_length_le (by omega),List.append_assoc]
    exact rfl
   have HC:=word_dlv ⟨#[101,110,100]⟩ 9 HD1.out (by decide) (by decide) (HR.out k)
   go_wp2_with (go_at_call 31;refine Calls.mono HC ?_;rintro e w7 ⟨rfl,k1,k2⟩;have HK7:Hid (DLv w0 Z w7 p q b m c ws (l++sayMails ms) T∧Save (fun k=>¬Z k) w w7):=⟨by rw [<-HE.out];exact k1,HV1.out.trans k2 (fun _ _ hj=>hj)⟩;clear k1 k2)
   go_returns
   exact ⟨rfl,HK7.out⟩
def sayC (A:Bk) (k:Nat):List UInt8:=sayN (bytes "count") [cnt6 A (k * 3),cnt6 A (k * 3+1),cnt6 A (k * 3+2)]
def sayCs (A:Bk):Nat->List UInt8
 | 0=>[]
 | k+1=>sayCs A k++sayC A k
def sayH (x:H3):List UInt8:=sayN (bytes "hold") [x.1,x.2.1,x.2.2]
theorem holds_say (A:Bk):sayHolds A=sayCs A 2++(A.hs.map sayH).flatten++say [bytes "end"]:=by
 unfold sayHolds sayCs sayCs sayCs sayC
 simp only [List.nil_append]
 rfl
theorem three_short {w:List UInt8} {a b c:Int} (hw:w.length<=7) (ha:Sm a) (hb:Sm b) (hc:Sm c):(sayN w [a,b,c]).length<=33:=by
 have:=sayN_short (w:=w) (l:=[a,b,c]) hw (fun n hn=>by
  simp only [List.mem_cons,List.mem_nil_iff,or_false] at hn
  rcases hn with e | e | e <;> rw [e]
  ·exact ha
  ·exact hb
  ·exact hc)
 simp only [List.length_cons,List.length_nil] at this
 omega
theorem three_dlv {w0 w W:World} {Z:Nat->Prop} {p q b m g:Nat} {c:Nat->Nat} {ws:Nat->Int} {l:List UInt8} {T:Twn} (x:ByteArray) (n0 n1 n2:Int) (ht:Tied w0) (h:DLv w0 Z w p q b m c ws l T) (hW:Below w.heap.size w W) (hg:g<W.heap.size) (a0:W.cell? ⟨g,0,none⟩=some (.int .i64 n0)) (a1:W.cell? ⟨g,1,none⟩=some (.int .i64 n1)) (a2:W.cell? ⟨g,2,none⟩=some (.int .i64 n2)) (hx:0<x.size) (hy:x.size<=7) (m0:Sm n0) (m1:Sm n1) (m2:Sm n2) (hR:Room (l.length+2000)):
 Calls Tryz.prog 74 #[.pointer (some ⟨p,0,none⟩),.string x,.slice (some ⟨g,0,none⟩) 3 3] W fun e w'=>e=.returned (.tuple #[])∧DLv w0 Z w' p q b m c ws (l++sayN x.data.toList [n0,n1,n2]) T∧Save (fun k=>¬Z k) w w':=by
 have e1:=three_short (w:=x.data.toList) (by simpa using hy) m0 m1 m2
 refine (tell_dlv x [n0,n1,n2] ht (h.next hW) (nums_row hg (fun k n hk=>?_)) (fun n hn=>?_) (by simp) hx (hR.le (by omega))).mono ?_
 ·match k,hk with
  | 0,hk=>simp at hk;subst hk;exact a0
  | 1,hk=>simp at hk;subst hk;exact a1
  | 2,hk=>simp at hk;subst hk;exact a2
  | k+3,hk=>simp at hk
 ·simp only [List.mem_cons,List.mem_nil_iff,or_false] at hn
  rcases hn with e | e | e <;> rw [e]
  ·exact m0
  ·exact m1
  ·exact m2
 ·rintro e w' ⟨rfl,k1,k2⟩
  exact ⟨rfl,k1,(Save.of_below hW).trans k2 (fun _ _ hj=>hj)⟩
theorem holds_none {w0 w:World} {Z:Nat->Prop} {p q b m:Nat} {c:Nat->Nat} {ws:Nat->Int} {l:List UInt8} {T:Twn} (s:Int) (ht:Tied w0) (h:DLv w0 Z w p q b m c ws l T) (hs:¬(0<=s∧s<3)) (hR:Room (l.length+5000)):
 Calls Tryz.prog 84 #[.pointer (some ⟨p,0,none⟩),.int .i64 s] w fun e w'=>e=.returned (.tuple #[])∧DLv w0 Z w' p q b m c ws (l++sayN (bytes "no") [1]) T∧Save (fun k=>¬Z k) w w':=by
 obtain ⟨c2,hp,_,_⟩:=h.cells
 have HC:=clerk_tlv s h.tlv
 rw [show clkP c s=none by unfold clkP;rw [if_neg hs]] at HC
 have HN:=num_dlv ⟨#[110,111]⟩ 1 3 ht h (by decide) (by decide) (by unfold Sm;omega) (hR.le (by omega))
 clear h ht hR hs
 go_enter Tryz.func84,Tryz.ntmps84
 go_wp2_with (first | (go_at_call 116;refine Calls.mono HC ?_;rintro e w7 ⟨rfl,rfl⟩) | (go_at_call 74;refine Calls.mono HN ?_;rintro e w8 ⟨rfl,k1,k2⟩;have HK8:Hid (DLv w0 Z w8 p q b m c ws (l++sayN (bytes "no") [1]) T∧Save (fun k=>¬Z k) w7 w8):=⟨k1,k2⟩;clear k1 k2))
 go_returns
 exact ⟨rfl,HK8.out⟩
theorem holds_some {w0 w:World} {Z:Nat->Prop} {p q b m:Nat} {c:Nat->Nat} {ws:Nat->Int} {l:List UInt8} {T:Twn} (s:Nat) (ht:Tied w0) (h:DLv w0 Z w p q b m c ws l T) (hs:s<3) (hR:Room (l.length+5000)):
 Calls Tryz.prog 84 #[.pointer (some ⟨p,0,none⟩),.int .i64 (s:Int)] w fun e w'=>e=.returned (.tuple #[])∧DLv w0 Z w' p q b m c ws (l++sayHolds (T.P s).A) T∧Save (fun k=>¬Z k) w w':=by
 obtain ⟨c2,hp,_,_⟩:=h.cells
 have HC:=clerk_tlv (s:Int) h.tlv
 rw [clkP_at c hs] at HC
 obtain ⟨q1,r1,x0,x1,l0,l1,hsh⟩:=shop_tlv h.tlv hs
 have HCt:Hid (∀W:World,Below w.heap.size w W->Calls Tryz.prog 108 #[.pointer (some ⟨r1,0,none⟩)] W fun e w'=>e=.returned (cntV (cnt6 (T.P s).A))∧Below W.heap.size W w'):=fun W hW=>(hsh W hW).1
 have HD:Hid (DLv w0 Z w p q b m c ws l T):=h
 have HT:Hid (Tied w0):=ht
 have HF:Hid (∀k,k<6->Sm (cnt6 (T.P s).A k)):=fun k hk=>cnt_tell h.full.full hs hk
 have HHs:Hid (∀x∈(T.P s).A.hs,Sm x.1∧Sm x.2.1∧Sm x.2.2):=hold_tell h.full.full hs
 have HLen:Hid ((T.P s).A.hs.length<=24):=(h.full.full.shop hs).2.2.2.1
 have HSC:Hid (∀k,k<2->(sayC (T.P s).A k).length<=33):=fun k hk=>three_short (by decide) (HF.out _ (by omega)) (HF.out _ (by omega)) (HF.out _ (by omega))
 have HR1:Hid (∀k,k<=2->Room ((l++sayCs (T.P s).A k).length+2000)):=fun k hk=>by
  have a0:=HSC.out 0 (by omega)
  have a1:=HSC.out 1 (by omega)
  refine hR.le ?_
  rw [List.length_append]
  match k,hk with
  | 0,_=>simp only [sayCs,List.length_nil];omega
  | 1,_=>simp only [sayCs,List.length_append,List.length_nil];omega
  | 2,_=>simp only [sayCs,List.length_append,List.length_nil];omega
 have HR2:Hid (∀k,Room ((l++sayCs (T.P s).A 2++(((T.P s).A.hs.take k).map sayH).flatten).length+2000)):=fun k=>by
  have a0:=HSC.out 0 (by omega)
  have a1:=HSC.out 1 (by omega)
  have h1:=flat_short (l:=(T.P s).A.hs.take k) (f:=sayH) (n:=33) (fun x hx=>by
   have q:=HHs.out x (List.mem_of_mem_take hx)
   exact three_short (by decide) q.1 q.2.1 q.2.2)
  have h2:((T.P s).A.hs.take k).length<=24:=by have:=HLen.out;rw [List.length_take];omega
  refine hR.le ?_
  rw [List.length_append,List.length_append]
  simp only [sayCs,List.length_append,List.length_nil]
  omega
 clear h ht hR hsh
 obtain ⟨A,hA⟩:∃A,(T.P s).A=A:=⟨_,rfl⟩
 have HA:Hid ((T.P s).A=A):=hA
 rw [hA] at HCt HF HHs HLen HR1 HR2 ⊢
 clear hA HSC
 go_enter Tryz.func84,Tryz.ntmps84
 go_wp2_with (first | (go_at_call 116;refine Calls.mono HC ?_;rintro e w7 ⟨rfl,h7⟩;rw [h7];clear h7 w7) | (go_at_call 108;refine Calls.mono (HCt.out _ (by go_grown)) ?_;rintro e w1 ⟨rfl,hb1⟩))
 have HB1:Hid (Below w.heap.size w w1):=hb1
 clear hb1 x0 x1 c2 HCt HC
 go_loopg [28] 2 (fun g i wr=>∃k:Nat,k<=2∧g=2 - k∧i=.int .i64 k∧DLv w0 Z wr p q b m c ws (l++sayCs A k) T∧Save (fun k=>¬Z k) w wr)
 case atStart=>exact ⟨0,by omega,rfl,rfl,by simpa [sayCs] using HD.out.next HB1.out,Save.of_below HB1.out⟩
 case round=>
  obtain ⟨k,hk,rfl,rfl,hD,hV⟩:=hrel
  have HD1:=hid hD
  have HV1:=hid hV
  have hp1:=hD.cells.2.1
  clear hD hV
  by_cases hlt:k<2
  ·have HS:Hid (∀(W:World) (g:Nat),Below wr.heap.size wr W->g<W.heap.size->W.cell? ⟨g,0,none⟩=some (.int .i64 (cnt6 A (k * 3)))->W.cell? ⟨g,1,none⟩=some (.int .i64 (cnt6 A (k * 3+1)))->W.cell? ⟨g,2,none⟩=some (.int .i64 (cnt6 A (k * 3+2)))->Calls Tryz.prog 74 #[.pointer (some ⟨p,0,none⟩),.string ⟨#[99,111,117,110,116]⟩,.slice (some ⟨g,0,none⟩) 3 3] W fun e w'=>e=.returned (.tuple #[])∧DLv w0 Z w' p q b m c ws (l++sayCs A (k+1)) T∧Save (fun k=>¬Z k) w w'):=fun W g hW hg a0 a1 a2=>by
    refine (three_dlv ⟨#[99,111,117,110,116]⟩ _ _ _ HT.out HD1.out hW hg a0 a1 a2 (by decide) (by decide) (HF.out _ (by omega)) (HF.out _ (by omega)) (HF.out _ (by omega)) (HR1.out k hk)).mono ?_
    rintro e w' ⟨rfl,k1,k2⟩
    rw [List.append_assoc] at k1
    exact ⟨rfl,k1,HV1.out.trans k2 (fun _ _ hj=>hj)⟩
   have hix:=fun W:World=>idx2 (cnt6 A 0) (cnt6 A 1) (cnt6 A 2) (cnt6 A 3) (cnt6 A 4) (cnt6 A 5) W
   have hq:k=0∨k=1:=by omega
   unfold cntV
   rcases hq with rfl | rfl
   ·have hi0:=fun W:World=>(hix W).1
    clear hix
    go_wp2_with (go_at_call 74;refine Calls.mono (HS.out _ (wr.heap.size+1) (by go_grown) (by simp) (by simp [go_sem]) (by simp [go_sem]) (by simp [go_sem])) ?_;rintro e w6 ⟨rfl,k1,k2⟩;have HK6:=hid (And.intro k1 k2);clear k1 k2)
    go_roundg 1
    case measure=>omega
    case rel=>exact ⟨1,by omega,rfl,rfl,HK6.out⟩
   ·have hi0:=fun W:World=>(hix W).2
    clear hix
    go_wp2_with (go_at_call 74;refine Calls.mono (HS.out _ (wr.heap.size+1) (by go_grown) (by simp) (by simp [go_sem]) (by simp [go_sem]) (by simp [go_sem])) ?_;rintro e w6 ⟨rfl,k1,k2⟩;have HK6:=hid (And.intro k1 k2);clear k1 k2)
    go_roundg 0
    case measure=>omega
    case rel=>exact ⟨2,by omega,rfl,rfl,HK6.out⟩
  ·obtain rfl:k=2:=by omega
   obtain ⟨q2,r2,x0,x1,l2,l3,hsh⟩:=shop_tlv HD1.out.tlv hs
   rw [HA.out] at hsh
   have HHo:Hid (∀W:World,Below wr.heap.size wr W->Calls Tryz.prog 117 #[.pointer (some ⟨r2,0,none⟩)] W fun e w'=>(∃ga cap,e=.returned (.slice ga A.hs.length cap)∧HoldsAt w' ga A.hs∧(∀a,ga=some a->W.heap.size<=a.block∧a.block<w'.heap.size))∧Below W.heap.size W w'):=fun W hW=>(hsh W hW).2
   obtain ⟨ll,hll⟩:∃ll,A.hs.length=ll:=⟨_,rfl⟩
   rw [hll] at HHo HLen
   clear hsh
   go_wp2_with (go_at_call 117;refine Calls.mono (HHo.out _ (by go_grown)) ?_;rintro e w2 ⟨⟨ga,cap,rfl,hH,hnew⟩,hb2⟩;have HH:=hid hH;have HNew:=hid hnew;have HB2:=hid hb2;clear hH hnew hb2)
   have HD2:Hid (DLv w0 (fun k=>Z k∨∃a,ga=some a∧k=a.block) w2 p q b m c ws (l++sayCs A 2) T):=HD1.out.more HB2.out (fun k hk=>hk.elim .inl (fun ⟨a,ha,e⟩=>.inr (by rw [e];exact HNew.out a ha)))
   have HV2:Hid (Save (fun k=>¬Z k) w w2):=HV1.out.next HB2.out
   clear x0 x1 HHo HNew HB2 HD1 HV1
   go_loopg [50] ll (fun g i wr=>∃k:Nat,k<=ll∧g=ll - k∧i=.int .i64 k∧DLv w0 (fun k=>Z k∨∃a,ga=some a∧k=a.block) wr p q b m c ws (l++sayCs A 2++((A.hs.take k).map sayH).flatten) T∧Save (fun k=>¬(Z k∨∃a,ga=some a∧k=a.block)) w2 wr)
   case atStart=>exact ⟨0,by omega,rfl,rfl,by simpa using HD2.out,Save.refl _ _⟩
   case round=>
    obtain ⟨k,hk,rfl,rfl,hD,hV⟩:=hrel
    have HD3:=hid hD
    have HV3:=hid hV
    have hp3:=hD.cells.2.1
    clear hD hV
    by_cases hlt:k<ll
    ·obtain ⟨⟨d,cc,dd⟩,hkx⟩:∃x,A.hs[k]?=some x:=⟨_,List.getElem?_eq_getElem (by omega)⟩
     obtain ⟨bl,ol,rfl,hbl,y0,y1,y2⟩:=HH.out k d cc dd hkx
     have hx:=HHs.out _ (List.mem_of_getElem? hkx)
     have hkeep:∀j,wr.cell? ⟨bl,j,none⟩=w2.cell? ⟨bl,j,none⟩:=fun j=>HV3.out.cell (p:=⟨bl,j,none⟩) hbl (fun hn=>hn (.inr ⟨_,rfl,rfl⟩))
     have z0:=(hkeep _).trans y0
     have z1:=(hkeep _).trans y1
     have z2:=(hkeep _).trans y2
     have j0:(0:Int)<=(k:Int):=by omega
     have j1:(k:Int)<(ll:Int):=by omega
     have j2:(ll:Int)<100:=by have:=HLen.out;omega
     have HE:Hid (((A.hs.take (k+1)).map sayH).flatten=((A.hs.take k).map sayH).flatten++sayH (d,cc,dd)):=by
      have e1:A.hs.take (k+1)=A.hs.take k++[(d,cc,dd)]:=by rw [List.take_add_one,hkx];rfl
      have e2:((A.hs.take (k+1)).map sayH).flatten=((A.hs.take k).map sayH).flatten++sayH (d,cc,dd):=by rw [e1];simp
      exact e2
     have HS:Hid (∀(W:World) (g:Nat),Below wr.heap.size wr W->g<W.heap.size->W.cell? ⟨g,0,none⟩=some (.int .i64 d)->W.cell? ⟨g,1,none⟩=some (.int .i64 cc)->W.cell? ⟨g,2,none⟩=some (.int .i64 dd)->Calls Tryz.prog 74 #[.pointer (some ⟨p,0,none⟩),.string ⟨#[104,111,108,100]⟩,.slice (some ⟨g,0,none⟩) 3 3] W fun e w'=>e=.returned (.tuple #[])∧DLv w0 (fun k=>Z k∨∃a,(some ⟨bl,ol,none⟩:Option Addr)=some a∧k=a.block) w' p q b m c ws (l++sayCs A 2++((A.hs.take (k+1)).map sayH).flatten) T∧Save (fun k=>¬(Z k∨∃a,(some ⟨bl,ol,none⟩:Option Addr)=some a∧k=a.block)) w2 w'):=fun W g hW hg a0 a1 a2=>by
      refine (three_dlv ⟨#[104,111,108,100]⟩ _ _ _ HT.out HD3.out hW hg a0 a1 a2 (by decide) (by decide) hx.1 hx.2.1 hx.2.2 (HR2.out k)).mono ?_
      rintro e w' ⟨rfl,k1,k2⟩
      rw [HE.out,<-List.append_assoc]
      exact ⟨rfl,k1,HV3.out.trans k2 (fun _ _ hj=>hj)⟩
     clear hkeep y0 y1 y2 hx hkx HH HHs HD2
     go_wp2_with (go_at_call 74;refine Calls.mono (HS.out _ (wr.heap.size+1) (by go_grown) (by simp) (by simp [go_sem]) (by simp [go_sem]) (by simp [go_sem])) ?_;rintro e w6 ⟨rfl,k1,k2⟩;have HK6:=hid (And.intro k1 k2);clear k1 k2)
     go_roundg (ll - (k+1))
     case measure=>omega
     case rel=>exact ⟨k+1,by omega,rfl,by simp,HK6.out⟩
    ·have hk':k=ll:=by omega
     subst hk'
     have j1:¬(k:Int)<(k:Int):=by omega
     have HE:Hid (l++sayCs A 2++((A.hs.take k).map sayH).flatten++say [bytes "end"]=l++sayHolds A):=by
      have e1:l++sayCs A 2++((A.hs.take k).map sayH).flatten++say [bytes "end"]=l++sayHolds A:=by
       rw [List.take_of_length_le (by omega),holds_say]
       simp only [List.append_assoc]
      exact e1
     have HC:=word_dlv ⟨#[101,110,100]⟩ 9 HD3.out (by decide) (by decide) (HR2.out k)
     go_wp2_with (go_at_call 31;refine Calls.mono HC ?_;rintro e w7 ⟨rfl,k1,k2⟩;have HK7:Hid (DLv w0 Z w7 p q b m c ws (l++sayHolds A) T∧Save (fun k=>¬Z k) w w7):=⟨by rw [<-HE.out];exact k1.less (fun _ hk=>.inl hk),HV2.out.trans (HV3.out.trans k2 (fun _ _ hj=>hj)) (fun _ _ hj hz=>hj (.inl hz))⟩;clear k1 k2)
     go_returns
     exact ⟨rfl,HK7.out⟩
end Go.Proofs.YtbgnajcmhmpjlacGreatDoor
