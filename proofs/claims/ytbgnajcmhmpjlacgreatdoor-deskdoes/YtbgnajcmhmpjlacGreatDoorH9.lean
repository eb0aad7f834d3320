/- The law DeskDoes: every Do is as the document says, one behind the other. -/
import Derived.Test.YtbgnajcmhmpjlacGreatDoorB8
set_option maxRecDepth 100000
set_option maxHeartbeats 100000000
namespace Go.Proofs.YtbgnajcmhmpjlacGreatDoor
open Go.RowKit
def LineOk:Prop:=∀{w0 w:World} {Z:Nat->Prop} {r mk:Nat} {ws:Nat->Int} {l:List UInt8} {T:Twn} (s:ByteArray),s.size<=9000->Tied w0->ELv w0 Z w r mk ws l T->Room (l.length+5000)->
    Calls Tryz.prog 19 #[.pointer (some ⟨r,0,none⟩),.string s] w fun e w'=>e=.returned (.tuple #[])∧ELv w0 Z w' r mk ws (l++(lineR ws T s.data.toList).1) (lineR ws T s.data.toList).2∧Save (fun k=>¬Z k) w w'
theorem edo_elv (hline:LineOk) {w0 w:World} {Z:Nat->Prop} {r mk:Nat} {ws:Nat->Int} {l:List UInt8} {T:Twn} (xs:List ByteArray) {la:Option Addr} {lc:Nat} (ht:Tied w0) (h:ELv w0 Z w r mk ws l T) (hx:StrsAt w la xs) (hz:xs ≠ []->∀a,la=some a->Z a.block∨a.block<w0.heap.size) (hs:∀x∈xs,x.size<=9000) (hl:xs.length<=150):
 Calls Tryz.prog 11 #[.pointer (some ⟨r,0,none⟩),.slice la xs.length lc] w fun e w'=>e=.returned (.string (bs (linesR ws T (xs.map (·.data.toList))).1))∧ELv w0 Z w' r mk ws (linesR ws T (xs.map (·.data.toList))).1 (linesR ws T (xs.map (·.data.toList))).2∧Save (fun k=>¬Z k) w w':=by
 obtain ⟨b1,b2,b3,b4⟩:=h.bx
 obtain ⟨c0,c1,hrl,hf⟩:=bx_cell b1
 have HD:=hid h
 have HT:=hid ht
 have HX:=hid hx
 have HZ:=hid hz
 have HS:=hid hs
 have HLe:=hid hl
 have hset:Hid (ELv w0 Z (w.setCell ⟨r,0,none⟩ (.string (bs []))) r mk ws [] T∧Save (fun k=>¬Z k) w (w.setCell ⟨r,0,none⟩ (.string (bs [])))):=b4 _ _ (bx_set b1) (Save.setCell (O:=fun k=>k=r) (Save.refl _ w) (p:=⟨r,0,none⟩) (fun _=>rfl) _)
 have HCell:Hid (∀k x,xs[k]?=some x->∃bl ol,la=some ⟨bl,ol,none⟩∧∀(wr:World) l' T',ELv w0 Z wr r mk ws l' T'->Save (fun k=>¬Z k) w wr->wr.cell? ⟨bl,ol+k,none⟩=some (.string x)):=fun k x hk=>by
  obtain ⟨bl,ol,e,hbl,hc⟩:=HX.out k x hk
  refine ⟨bl,ol,e,fun wr l' T' hd hs=>?_⟩
  rcases HZ.out (fun e=>by rw [e] at hk;simp at hk) _ e with q1 | q1
  ·exact (hs.cell (p:=⟨bl,ol+k,none⟩) hbl (fun hn=>hn q1)).trans hc
  ·exact (hd.below.cell (p:=⟨bl,ol+k,none⟩) q1).trans ((HD.out.below.cell (p:=⟨bl,ol+k,none⟩) q1).symm.trans hc)
 have HFu:=hid h.full
 obtain ⟨ll,hll⟩:∃ll,xs.length=ll:=⟨_,rfl⟩
 rw [hll]
 clear h ht hx hz hs hl b1 b2 b3 b4 HX HZ
 go_enter Tryz.func11,Tryz.ntmps11
 go_upto_region 2 with fail
 generalize hW2:w.setCell ⟨r,0,none⟩ (.string _)=W2
 rw [show w.setCell ⟨r,0,none⟩ (.string (bs []))=W2 from hW2] at hset
 clear hW2 c0 c1 hf
 go_wp2_with fail
 go_loopg [5] ll (fun g i wr=>∃k:Nat,k<=ll∧g=ll - k∧i=.int .i64 k∧Hid (ELv w0 Z wr r mk ws (linesR ws T ((xs.take k).map (·.data.toList))).1 (linesR ws T ((xs.take k).map (·.data.toList))).2∧Save (fun k=>¬Z k) w wr))
 case atStart=>exact ⟨0,by omega,rfl,rfl,hset⟩
 case round=>
  obtain ⟨k,hk,rfl,rfl,HV⟩:=hrel
  by_cases hlt:k<ll
  ·obtain ⟨x,hkx⟩:∃x,xs[k]?=some x:=⟨_,List.getElem?_eq_getElem (by omega)⟩
   obtain ⟨bl,ol,rfl,hcl⟩:=HCell.out k x hkx
   have y0:=hcl wr _ _ HV.out.1 HV.out.2
   have HE:Hid (linesR ws T ((xs.take (k+1)).map (·.data.toList))=((linesR ws T ((xs.take k).map (·.data.toList))).1++(lineR ws (linesR ws T ((xs.take k).map (·.data.toList))).2 x.data.toList).1,(lineR ws (linesR ws T ((xs.take k).map (·.data.toList))).2 x.data.toList).2)):=by
    have e1:xs.take (k+1)=xs.take k++[x]:=by rw [List.take_add_one,hkx];rfl
    rw [e1,List.map_append]
    exact lines_snoc ws _ _ T
   have HRm:Room ((linesR ws T ((xs.take k).map (·.data.toList))).1.length+5000):=by
    have e1:=lines_short ((xs.take k).map (·.data.toList)) HFu.out
    have e2:=HLe.out
    rw [List.length_map,List.length_take] at e1
    have e3:min k xs.length<=150:=by omega
    unfold Room
    omega
   have HC:=hline x (HS.out x (List.mem_of_getElem? hkx)) HT.out HV.out.1 HRm
   have j0:(0:Int)<=(k:Int):=by omega
   have j1:(k:Int)<(ll:Int):=by omega
   have j2:(ll:Int)<200:=by have:=HLe.out;omega
   clear hcl hkx HRm
   go_wp2_with (go_at_call 19;refine Calls.mono HC ?_;rintro e w6 ⟨rfl,q1,q2⟩;have HK6:=hid (And.intro q1 (HV.out.2.trans q2 (fun _ _ hj=>hj)));clear q1 q2)
   go_roundg (ll - (k+1))
   case measure=>omega
   case rel=>exact ⟨k+1,by omega,rfl,by simp,by rw [HE.out];exact HK6⟩
  ·obtain rfl:k=ll:=by omega
   have j1:¬(k:Int)<(k:Int):=by omega
   have HE:Hid (xs.take k=xs):=List.take_of_length_le (by omega)
   rw [HE.out] at HV
   have d0:=(bx_cell HV.out.1.bx.1).1
   have d1:=(bx_cell HV.out.1.bx.1).2.2.1
   go_wp2_with fail
   go_ret
   exact ⟨rfl,HV.out.1,HV.out.2⟩
theorem edo_to (hline:LineOk) {O:Nat->Prop} {w0 w:World} {r mk:Nat} {l:List UInt8} {T:Twn} (xs:List ByteArray) {la:Option Addr} {lc:Nat} (ht:Tied w0) (h:EkIn r mk w50 l T O w) (hO:∀k,O k->w0.heap.size<=k) (hb:Below w0.heap.size w0 w) (hF:DFull w50 T) (hx:StrsAt w la xs) (hz:xs ≠ []->∀a,la=some a->a.block<w0.heap.size) (hs:∀x∈xs,x.size<=9000) (hl:xs.length<=150):
 Calls Tryz.prog 11 #[.pointer (some ⟨r,0,none⟩),.slice la xs.length lc] w fun e w'=>e=.returned (.string (bs (linesR w50 T (xs.map (·.data.toList))).1))∧To (EkIn r mk w50 (linesR w50 T (xs.map (·.data.toList))).1 (linesR w50 T (xs.map (·.data.toList))).2) O w w':=by
 have hD:ELv w0 (fun k=>k<w.heap.size∧¬O k) w r mk w50 l T:=⟨⟨⟨O,h,fun k hk=>⟨hO k hk,fun q=>q.2 hk⟩⟩,hb,fun k hk=>hk.1⟩,hF,ok50⟩
 refine (edo_elv hline xs ht hD hx (fun hn a ha=>.inr (hz hn a ha)) hs hl).mono ?_
 rintro e w' ⟨rfl,k1,k2⟩
 obtain ⟨O',a1,a2⟩:=k1.lv.inn
 refine ⟨rfl,O',a1,k2.mono (fun j hj hn=>?_),fun k hk=>?_⟩
 ·exact Classical.byContradiction (fun q=>hn ⟨hj,q⟩)
 ·have:=(a2 k hk).2
  by_cases q:k<w.heap.size
  ·exact .inl (Classical.byContradiction (fun o=>this ⟨q,o⟩))
  ·exact .inr (by omega)
structure DE (w0:World) (Z:Nat->Prop) (w:World) (K:Dc) (r mk:Nat) (l:List UInt8) (T T':Twn):Prop where
 lv:Lv (Pr (DkT K T) (EkIn r mk w50 l T')) w0 Z w
 f1:DFull w50 T
 f2:DFull w50 T'
theorem DE.next {w0 w w1:World} {Z:Nat->Prop} {K:Dc} {r mk:Nat} {l:List UInt8} {T T':Twn} (h:DE w0 Z w K r mk l T T') (hb:Below w.heap.size w w1):DE w0 Z w1 K r mk l T T':=⟨h.lv.next (pr_stands (dkt_stands ..) (ek_stands ..)) hb,h.f1,h.f2⟩
theorem DE.cons {w0 w w1:World} {z:List Nat} {x:Nat} {K:Dc} {r mk:Nat} {l:List UInt8} {T T':Twn} (h:DE w0 (fun k=>k∈z) w K r mk l T T') (hb:Below w.heap.size w w1) (h1:w.heap.size<=x) (h2:x<w1.heap.size):DE w0 (fun k=>k∈x :: z) w1 K r mk l T T':=⟨h.lv.cons (pr_stands (dkt_stands ..) (ek_stands ..)) hb h1 h2,h.f1,h.f2⟩
theorem DE.doL {w0 w:World} {Z:Nat->Prop} {K:Dc} {r mk:Nat} {l:List UInt8} {T T':Twn} (xs:List ByteArray) {la:Option Addr} {lc:Nat} (ht:Tied w0) (h:DE w0 Z w K r mk l T T') (hx:StrsAt w la xs) (hz:xs ≠ []->∀a,la=some a->a.block<w0.heap.size) (hs:∀x∈xs,x.size<=4294967296) (hl:xs.length<1000):
 Calls Tryz.prog 9 #[.pointer (some ⟨K.p,0,none⟩),.slice la xs.length lc] w fun e w'=>e=.returned (.tuple #[.string (bs (deskR w50 T xs).1),.agg #[.int .i64 (deskR w50 T xs).2.1.1,.int .i64 (deskR w50 T xs).2.1.2]])∧DE w0 Z w' K r mk l (deskR w50 T xs).2.2 T'∧Save (fun k=>¬Z k) w w':=by
 obtain ⟨O,h1,h2⟩:=h.lv.inn
 obtain ⟨OA,a1,a2,a3⟩:=Pr.left (dkt_stands K T) (ek_stands r mk w50 l T') h1
 refine (do_to xs ht a1 (fun k hk=>(h2 k (a2 k hk)).1) h.lv.below h.f1 hx hz hs hl).mono ?_
 rintro e w' ⟨rfl,k⟩
 obtain ⟨r1,r2⟩:=h.lv.step h2 (a3 w' _ (dkt_stands ..) k)
 exact ⟨rfl,⟨r1,deskR_full h.f1 xs,h.f2⟩,r2⟩
theorem DE.doR (hline:LineOk) {w0 w:World} {Z:Nat->Prop} {K:Dc} {r mk:Nat} {l:List UInt8} {T T':Twn} (xs:List ByteArray) {la:Option Addr} {lc:Nat} (ht:Tied w0) (h:DE w0 Z w K r mk l T T') (hx:StrsAt w la xs) (hz:xs ≠ []->∀a,la=some a->a.block<w0.heap.size) (hs:∀x∈xs,x.size<=9000) (hl:xs.length<=150):
 Calls Tryz.prog 11 #[.pointer (some ⟨r,0,none⟩),.slice la xs.length lc] w fun e w'=>e=.returned (.string (bs (linesR w50 T' (xs.map (·.data.toList))).1))∧DE w0 Z w' K r mk (linesR w50 T' (xs.map (·.data.toList))).1 T (linesR w50 T' (xs.map (·.data.toList))).2∧Save (fun k=>¬Z k) w w':=by
 obtain ⟨O,h1,h2⟩:=h.lv.inn
 obtain ⟨OA,a1,a2,a3⟩:=Pr.right (dkt_stands K T) (ek_stands r mk w50 l T') h1
 refine (edo_to hline xs ht a1 (fun k hk=>(h2 k (a2 k hk)).1) h.lv.below h.f2 hx hz hs hl).mono ?_
 rintro e w' ⟨rfl,k⟩
 obtain ⟨r1,r2⟩:=h.lv.step h2 (a3 w' _ (ek_stands ..) k)
 exact ⟨rfl,⟨r1,h.f1,h.f2.lines _⟩,r2⟩
theorem DE.new {w w1 w2:World} {K:Dc} {r mk:Nat} (h1:Lv (DkT K (T00 w50)) w (fun k=>k∈([]:List Nat)) w1) (h2:ELv w1 (fun k=>k∈([]:List Nat)) w2 r mk w50 [] (T00 w50)):DE w (fun k=>k∈([]:List Nat)) w2 K r mk [] (T00 w50) (T00 w50):=⟨Pr.new (dkt_stands ..) (ek_stands ..) h1 h2.below h2.lv,dfull_new,dfull_new⟩
theorem chk_zero {xs:List ByteArray} (h:(chkL xs).1=0):chkL xs=(0,0):=by
 unfold chkL at h ⊢
 split at h
 ·simp at h
 ·rename_i q
  rw [if_neg q]
  split at h
  ·simp at h
  ·rename_i q2
   rw [if_neg q2]
theorem desk_fault (T:Twn) (xs:List ByteArray):(deskR w50 T xs).2.1=chkL xs:=by
 rcases desk_code T xs with e | ⟨e,e1⟩
 ·exact e
 ·rw [e,chk_zero e1]
theorem desk_bad (T:Twn) {xs:List ByteArray} (h:(chkL xs).1 ≠ 0):(deskR w50 T xs).1=[]∧(deskR w50 T xs).2.2=T:=by
 unfold deskR
 rw [if_neg h]
 exact ⟨rfl,rfl⟩
theorem desk_good (T:Twn) {xs:List ByteArray} (h:(chkL xs).1=0):(deskR w50 T xs).1=(linesR w50 T (xs.map (·.data.toList))).1∧(deskR w50 T xs).2.2=(linesR w50 T (xs.map (·.data.toList))).2:=by
 unfold deskR
 rw [if_pos h]
 exact ⟨rfl,rfl⟩
theorem chk_few {xs:List ByteArray} (h:(chkL xs).1=0):xs.length<=150:=by
 unfold chkL at h
 split at h
 ·simp at h
 ·omega
theorem does_walk (hline:LineOk) (la lb:Option Addr) (na ca nb cb:Nat) (xs ys:List ByteArray) (w:World) (ht:Tied w) (hx:StrsAt w la xs) (hy:StrsAt w lb ys) (hna:xs.length=na) (hnb:ys.length=nb) (hsx:∀x∈xs,x.size<=140737488355328) (hsy:∀x∈ys,x.size<=140737488355328):
 Calls Tryz.prog 3 #[.slice la na ca,.slice lb nb cb] w fun e w'=>e=.returned (.bool true)∧Below w.heap.size w w':=by
 have HBg:=deskBegun_any w ht
 by_cases h1:200<na
 ·have j1:(200:Int)<(na:Int):=by omega
  go_enter Tryz.func3,Tryz.ntmps3
  go_wp2_with (go_at_call 5;refine Calls.mono HBg ?_;rintro e w1 ⟨rfl,hb1⟩)
  go_ret
  exact ⟨rfl,hb1⟩
 have j1:¬(200:Int)<(na:Int):=by omega
 by_cases h2:200<nb
 ·have j2:(200:Int)<(nb:Int):=by omega
  go_enter Tryz.func3,Tryz.ntmps3
  go_wp2_with (go_at_call 5;refine Calls.mono HBg ?_;rintro e w1 ⟨rfl,hb1⟩)
  go_ret
  exact ⟨rfl,hb1⟩
 have j2:¬(200:Int)<(nb:Int):=by omega
 have HSa:Hid (∀W:World,Below w.heap.size w W->Calls Tryz.prog 6 #[.slice la na ca] W fun e w'=>SlowIs (sumL xs) e∧w'=W):=fun W hW=>by
  have:=slow_any xs la ca W (hx.below hW) (by omega) hsx
  rw [hna] at this
  exact this
 have HSb:Hid (∀W:World,Below w.heap.size w W->Calls Tryz.prog 6 #[.slice lb nb cb] W fun e w'=>SlowIs (sumL ys) e∧w'=W):=fun W hW=>by
  have:=slow_any ys lb cb W (hy.below hW) (by omega) hsy
  rw [hnb] at this
  exact this
 have HT:=hid ht
 have HX:=hid hx
 have HY:=hid hy
 have HL:=hid (And.intro hna hnb)
 have HL2:Hid (na<=200∧nb<=200):=⟨by omega,by omega⟩
 clear ht hx hy hsx hsy hna hnb h1 h2
 go_enter Tryz.func3,Tryz.ntmps3
 go_upto_region 3 with (go_at_call 5;refine Calls.mono HBg ?_;rintro e w1 ⟨rfl,hb1⟩;have HB1:=hid hb1;clear hb1)
 clear HBg
 go_upto_region 5 with (first | (go_at_call 6;refine Calls.mono (HSa.out _ HB1.out) ?_;rintro e w2 ⟨⟨o,rfl,hfew⟩,h2⟩;subst w2;have HFa:=hid hfew;clear hfew HSa;cases o) | (go_at_call 6;refine Calls.mono (HSb.out _ HB1.out) ?_;rintro e w2 ⟨⟨o,rfl,hfew⟩,h2⟩;subst w2;have HFb:=hid hfew;clear hfew;cases o))
 all_goals (try (go_ret;exact ⟨rfl,HB1.out⟩))
 have HZx:Hid (∀x∈xs,x.size<=9000):=fun x hx=>by
  have e1:=HFa.out (by first | rfl | trivial)
  have e2:=sumL_mem hx
  unfold Few at e1
  omega
 have HZy:Hid (∀x∈ys,x.size<=9000):=fun x hx=>by
  have e1:=HFb.out (by first | rfl | trivial)
  have e2:=sumL_mem hx
  unfold Few at e1
  omega
 clear HFa HFb HSb
 have HNa:=new_one w1
 go_upto_region 6 with (go_at_call 7;refine Calls.mono HNa ?_;rintro e w3 ⟨K,rfl,h3,hp3,hb3⟩;have HNb:=enew_elv w3;have HK3:=hid h3;have HB3:Hid (Below w.heap.size w w3):=after HB1.out hb3 HB1.out.size;clear h3 hb3 HNa)
 go_upto_region 7 with (go_at_call 8;refine Calls.mono HNb ?_;rintro e w4 ⟨r,mk,rfl,h4⟩;have HD4:=hid (DE.new HK3.out h4);clear h4 HK3 HNb)
 go_upto_region 8 with fail
 generalize hWc:World.alloc w4 _=Wc
 have hBC:BoxAt Wc w4.heap.size [.slice la na ca,.slice lb nb cb]:=by rw [<-hWc];exact BoxAt.new w4 [.slice la na ca,.slice lb nb cb] _
 have hWb:Below w4.heap.size w4 Wc:=by rw [<-hWc];go_grown
 have HD5:Hid (DE w1 (fun k=>k∈[w4.heap.size]) Wc K r mk [] (T00 w50) (T00 w50)):=HD4.out.cons hWb (Nat.le_refl _) (by rw [<-hWc];simp)
 have HBC:=hid hBC
 clear hWc hBC hWb HD4
 generalize w4.heap.size=B at *
 go_wp2_with fail
 go_loopg [8] 2 (fun g i wr=>∃(k:Nat) (T:Twn) (l:List UInt8),k<=2∧g=2 - k∧i=.int .i64 k∧Hid (DE w1 (fun k=>k∈[B]) wr K r mk l T T∧BoxAt wr B [.slice la na ca,.slice lb nb cb]))
 case atStart=>exact ⟨0,_,_,by omega,rfl,rfl,hid ⟨HD5.out,HBC.out⟩⟩
 case round=>
  obtain ⟨k,T,l,hk,rfl,rfl,HV⟩:=hrel
  clear HD5 HBC
  have hq:k=0∨k=1∨k=2:=by omega
  rcases hq with rfl | rfl | rfl
  ·have HXz:Hid (∀W,Below w1.heap.size w1 W->StrsAt W la xs):=fun W hW=>(HX.out.below HB1.out).below hW
   have HLz:Hid (xs ≠ []->∀a,la=some a->a.block<w1.heap.size):=fun hn a ha=>Nat.lt_of_lt_of_le (HX.out.lt hn a ha) HB1.out.size
   have HTz:Hid (Tied w1):=HT.out.below HB1.out
   have hlen:xs.length=na:=HL.out.1
   have c1:=HV.out.2.2 0 _ rfl
   have HDo:Hid (Calls Tryz.prog 9 #[.pointer (some ⟨K.p,0,none⟩),.slice la na ca] wr fun e w'=>e=.returned (.tuple #[.string (bs (deskR w50 T xs).1),.agg #[.int .i64 (deskR w50 T xs).2.1.1,.int .i64 (deskR w50 T xs).2.1.2]])∧DE w1 (fun k=>k∈[B]) w' K r mk l (deskR w50 T xs).2.2 T∧Save (fun k=>¬k∈[B]) wr w'):=by
    have:=HV.out.1.doL xs (la:=la) (lc:=ca) HTz.out (HXz.out _ HV.out.1.lv.below) HLz.out (fun x hx=>Nat.le_trans (HZx.out x hx) (by omega)) (by have:=HL2.out;omega)
    rw [hlen] at this
    exact this
   have HFt:Hid (∀W,Below w1.heap.size w1 W->Calls Tryz.prog 10 #[.slice la na ca] W fun e w'=>e=.returned (.agg #[.int .i64 (chkL xs).1,.int .i64 (chkL xs).2])∧Below W.heap.size W w'):=fun W hW=>by
    have:=efault_any xs la ca W (HXz.out W hW) (by have:=HL2.out;omega) HZx.out
    rw [hlen] at this
    exact this
   have HRd:Hid (∀(W:World) (T1:Twn),(chkL xs).1=0->DE w1 (fun k=>k∈[B]) W K r mk l T1 T->Calls Tryz.prog 11 #[.pointer (some ⟨r,0,none⟩),.slice la na ca] W fun e w'=>e=.returned (.string (bs (linesR w50 T (xs.map (·.data.toList))).1))∧DE w1 (fun k=>k∈[B]) w' K r mk (linesR w50 T (xs.map (·.data.toList))).1 T1 (linesR w50 T (xs.map (·.data.toList))).2∧Save (fun k=>¬k∈[B]) W w'):=fun W T1 hc hW=>by
    have:=hW.doR hline xs (la:=la) (lc:=ca) HTz.out (HXz.out _ hW.lv.below) HLz.out HZx.out (chk_few hc)
    rw [hlen] at this
    exact this
   by_cases hc:(chkL xs).1=0
   ·rw [(desk_good T hc).1,(desk_good T hc).2,desk_fault,chk_zero hc] at HDo
    rw [chk_zero hc] at HFt
    have HRd2:=hid (fun W T1=>HRd.out W T1 hc)
    dsimp only at HDo HFt
    have HLn:Hid (DFull w50 (linesR w50 T (xs.map (·.data.toList))).2):=HV.out.1.f2.lines _
    clear HRd HXz HLz hlen hc
    generalize (linesR w50 T (xs.map (·.data.toList))).2=T1 at *
    generalize (linesR w50 T (xs.map (·.data.toList))).1=l1 at *
    go_wp2_with (first | (go_at_call 9;refine Calls.mono HDo.out ?_;rintro e w6 ⟨rfl,k1,k2⟩;have HD6:=hid k1;have c6:=(HV.out.2.save k2 (fun q=>q (by simp))).2 0 _ rfl;have HX6:=hid (HV.out.2.save k2 (fun q=>q (by simp)));have hB6:=HX6.out.1;clear k1 k2) | (go_at_call 10;refine Calls.mono (HFt.out _ (after HD6.out.lv.below (by go_grown) HD6.out.lv.below.size)) ?_;rintro e w7 ⟨rfl,hb7⟩;have hg7:Below w6.heap.size w6 w7:=after (by go_grown) hb7 (by simp);have HD7:=hid (HD6.out.next hg7);have HX7:=hid (HX6.out.next hg7);have c7:=HX7.out.2 0 _ rfl;have hB7:=HX7.out.1;have hz7:w6.heap.size<w7.heap.size:=Nat.lt_of_lt_of_le (by simp) hb7.size;have g0:=((bcell hb7).1 w6.heap.size 0 (by simp)).trans (by simp [go_sem];rfl);have g1:=((bcell hb7).1 w6.heap.size 1 (by simp)).trans (by simp [go_sem];rfl);clear hb7 hg7) | (go_at_call 11;refine Calls.mono (HRd2.out _ _ (HD7.out.next (by go_grown))) ?_;rintro e w8 ⟨rfl,k1,k2⟩;have HD8:=hid k1;have HX8:=hid ((HX7.out.next (by go_grown)).save k2 (fun q=>q (by simp)));clear k1 k2))
    go_roundg 1
    case measure=>omega
    case rel=>exact ⟨1,T1,l1,by omega,rfl,rfl,hid ⟨HD8.out,HX8.out⟩⟩
   ·rw [(desk_bad T hc).1,(desk_bad T hc).2,desk_fault,show bs []=(⟨#[]⟩:ByteArray) from rfl] at HDo
    have hc':((chkL xs).1 == 0)=false:=by simpa using hc
    clear HRd HXz HLz hlen
    generalize (chkL xs).1=cc at *
    generalize (chkL xs).2=dd at *
    go_wp2_with (first | (go_at_call 9;refine Calls.mono HDo.out ?_;rintro e w6 ⟨rfl,k1,k2⟩;have HD6:=hid k1;have c6:=(HV.out.2.save k2 (fun q=>q (by simp))).2 0 _ rfl;have HX6:=hid (HV.out.2.save k2 (fun q=>q (by simp)));have hB6:=HX6.out.1;clear k1 k2) | (go_at_call 10;refine Calls.mono (HFt.out _ (after HD6.out.lv.below (by go_grown) HD6.out.lv.below.size)) ?_;rintro e w7 ⟨rfl,hb7⟩;have hg7:Below w6.heap.size w6 w7:=after (by go_grown) hb7 (by simp);have HD7:=hid (HD6.out.next hg7);have HX7:=hid (HX6.out.next hg7);have c7:=HX7.out.2 0 _ rfl;have hB7:=HX7.out.1;have hz7:w6.heap.size<w7.heap.size:=Nat.lt_of_lt_of_le (by simp) hb7.size;have g0:=((bcell hb7).1 w6.heap.size 0 (by simp)).trans (by simp [go_sem];rfl);have g1:=((bcell hb7).1 w6.heap.size 1 (by simp)).trans (by simp [go_sem];rfl);clear hb7 hg7))
    go_roundg 1
    case measure=>omega
    case rel=>exact ⟨1,T,l,by omega,rfl,rfl,hid ⟨HD7.out.next (by go_grown),HX7.out.next (by go_grown)⟩⟩
  ·have HXz:Hid (∀W,Below w1.heap.size w1 W->StrsAt W lb ys):=fun W hW=>(HY.out.below HB1.out).below hW
   have HLz:Hid (ys ≠ []->∀a,lb=some a->a.block<w1.heap.size):=fun hn a ha=>Nat.lt_of_lt_of_le (HY.out.lt hn a ha) HB1.out.size
   have HTz:Hid (Tied w1):=HT.out.below HB1.out
   have hlen:ys.length=nb:=HL.out.2
   have c1:=HV.out.2.2 1 _ rfl
   have HDo:Hid (Calls Tryz.prog 9 #[.pointer (some ⟨K.p,0,none⟩),.slice lb nb cb] wr fun e w'=>e=.returned (.tuple #[.string (bs (deskR w50 T ys).1),.agg #[.int .i64 (deskR w50 T ys).2.1.1,.int .i64 (deskR w50 T ys).2.1.2]])∧DE w1 (fun k=>k∈[B]) w' K r mk l (deskR w50 T ys).2.2 T∧Save (fun k=>¬k∈[B]) wr w'):=by
    have:=HV.out.1.doL ys (la:=lb) (lc:=cb) HTz.out (HXz.out _ HV.out.1.lv.below) HLz.out (fun x hx=>Nat.le_trans (HZy.out x hx) (by omega)) (by have:=HL2.out;omega)
    rw [hlen] at this
    exact this
   have HFt:Hid (∀W,Below w1.heap.size w1 W->Calls Tryz.prog 10 #[.slice lb nb cb] W fun e w'=>e=.returned (.agg #[.int .i64 (chkL ys).1,.int .i64 (chkL ys).2])∧Below W.heap.size W w'):=fun W hW=>by
    have:=efault_any ys lb cb W (HXz.out W hW) (by have:=HL2.out;omega) HZy.out
    rw [hlen] at this
    exact this
   have HRd:Hid (∀(W:World) (T1:Twn),(chkL ys).1=0->DE w1 (fun k=>k∈[B]) W K r mk l T1 T->Calls Tryz.prog 11 #[.pointer (some ⟨r,0,none⟩),.slice lb nb cb] W fun e w'=>e=.returned (.string (bs (linesR w50 T (ys.map (·.data.toList))).1))∧DE w1 (fun k=>k∈[B]) w' K r mk (linesR w50 T (ys.map (·.data.toList))).1 T1 (linesR w50 T (ys.map (·.data.toList))).2∧Save (fun k=>¬k∈[B]) W w'):=fun W T1 hc hW=>by
    have:=hW.doR hline ys (la:=lb) (lc:=cb) HTz.out (HXz.out _ hW.lv.below) HLz.out HZy.out (chk_few hc)
    rw [hlen] at this
    exact this
   by_cases hc:(chkL ys).1=0
   ·rw [(desk_good T hc).1,(desk_good T hc).2,desk_fault,chk_zero hc] at HDo
    rw [chk_zero hc] at HFt
    have HRd2:=hid (fun W T1=>HRd.out W T1 hc)
    dsimp only at HDo HFt
    have HLn:Hid (DFull w50 (linesR w50 T (ys.map (·.data.toList))).2):=HV.out.1.f2.lines _
    clear HRd HXz HLz hlen hc
    generalize (linesR w50 T (ys.map (·.data.toList))).2=T1 at *
    generalize (linesR w50 T (ys.map (·.data.toList))).1=l1 at *
    go_wp2_with (first | (go_at_call 9;refine Calls.mono HDo.out ?_;rintro e w6 ⟨rfl,k1,k2⟩;have HD6:=hid k1;have c6:=(HV.out.2.save k2 (fun q=>q (by simp))).2 1 _ rfl;have HX6:=hid (HV.out.2.save k2 (fun q=>q (by simp)));have hB6:=HX6.out.1;clear k1 k2) | (go_at_call 10;refine Calls.mono (HFt.out _ (after HD6.out.lv.below (by go_grown) HD6.out.lv.below.size)) ?_;rintro e w7 ⟨rfl,hb7⟩;have hg7:Below w6.heap.size w6 w7:=after (by go_grown) hb7 (by simp);have HD7:=hid (HD6.out.next hg7);have HX7:=hid (HX6.out.next hg7);have c7:=HX7.out.2 1 _ rfl;have hB7:=HX7.out.1;have hz7:w6.heap.size<w7.heap.size:=Nat.lt_of_lt_of_le (by simp) hb7.size;have g0:=((bcell hb7).1 w6.heap.size 0 (by simp)).trans (by simp [go_sem];rfl);have g1:=((bcell hb7).1 w6.heap.size 1 (by simp)).trans (by simp [go_sem];rfl);clear hb7 hg7) | (go_at_call 11;refine Calls.mono (HRd2.out _ _ (HD7.out.next (by go_grown))) ?_;rintro e w8 ⟨rfl,k1,k2⟩;have HD8:=hid k1;have HX8:=hid ((HX7.out.next (by go_grown)).save k2 (fun q=>q (by simp)));clear k1 k2))
    go_roundg 0
    case measure=>omega
    case rel=>exact ⟨2,T1,l1,by omega,rfl,rfl,hid ⟨HD8.out,HX8.out⟩⟩
   ·rw [(desk_bad T hc).1,(desk_bad T hc).2,desk_fault,show bs []=(⟨#[]⟩:ByteArray) from rfl] at HDo
    have hc':((chkL ys).1 == 0)=false:=by simpa using hc
    clear HRd HXz HLz hlen
    generalize (chkL ys).1=cc at *
    generalize (chkL ys).2=dd at *
    go_wp2_with (first | (go_at_call 9;refine Calls.mono HDo.out ?_;rintro e w6 ⟨rfl,k1,k2⟩;have HD6:=hid k1;have c6:=(HV.out.2.save k2 (fun q=>q (by simp))).2 1 _ rfl;have HX6:=hid (HV.out.2.save k2 (fun q=>q (by simp)));have hB6:=HX6.out.1;clear k1 k2) | (go_at_call 10;refine Calls.mono (HFt.out _ (after HD6.out.lv.below (by go_grown) HD6.out.lv.below.size)) ?_;rintro e w7 ⟨rfl,hb7⟩;have hg7:Below w6.heap.size w6 w7:=after (by go_grown) hb7 (by simp);have HD7:=hid (HD6.out.next hg7);have HX7:=hid (HX6.out.next hg7);have c7:=HX7.out.2 1 _ rfl;have hB7:=HX7.out.1;have hz7:w6.heap.size<w7.heap.size:=Nat.lt_of_lt_of_le (by simp) hb7.size;have g0:=((bcell hb7).1 w6.heap.size 0 (by simp)).trans (by simp [go_sem];rfl);have g1:=((bcell hb7).1 w6.heap.size 1 (by simp)).trans (by simp [go_sem];rfl);clear hb7 hg7))
    go_roundg 0
    case measure=>omega
    case rel=>exact ⟨2,T,l,by omega,rfl,rfl,hid ⟨HD7.out.next (by go_grown),HX7.out.next (by go_grown)⟩⟩
  ·go_wp2_with fail
   go_ret
   exact ⟨rfl,after HB1.out HV.out.1.lv.below HB1.out.size⟩
end Go.Proofs.YtbgnajcmhmpjlacGreatDoor
