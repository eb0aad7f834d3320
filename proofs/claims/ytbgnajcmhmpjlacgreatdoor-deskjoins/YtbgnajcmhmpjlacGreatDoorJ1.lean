/- For every list of lines and every number: the statement DeskJoins of the program returns true, and its arguments read as before, where the library's listed variables read as the program's own text lays them (the card ties them to it). -/
import Derived.Test.YtbgnajcmhmpjlacGreatDoorCards
import Derived.Test.YtbgnajcmhmpjlacGreatDoorTie
import Derived.OpenShut
import Derived.Stop.Joined
import Derived.Test.YtbgnajcmhmpjlacGreatDoorB0
set_option maxRecDepth 100000
set_option maxHeartbeats 100000000
namespace Go.Proofs.YtbgnajcmhmpjlacGreatDoor
open Go.RowKit
structure D2 (w0:World) (Z:Nat->Prop) (w:World) (K K':Dc) (T T':Twn):Prop where
 lv:Lv (Pr (DkT K T) (DkT K' T')) w0 Z w
 f1:DFull w50 T
 f2:DFull w50 T'
theorem D2.cons {w0 w w1:World} {l:List Nat} {x:Nat} {K K':Dc} {T T':Twn} (h:D2 w0 (fun k=>k∈l) w K K' T T') (hb:Below w.heap.size w w1) (h1:w.heap.size<=x) (h2:x<w1.heap.size):D2 w0 (fun k=>k∈x :: l) w1 K K' T T':=⟨h.lv.cons (pr_stands (dkt_stands ..) (dkt_stands ..)) hb h1 h2,h.f1,h.f2⟩
theorem D2.doL {w0 w:World} {Z:Nat->Prop} {K K':Dc} {T T':Twn} (xs:List ByteArray) {la:Option Addr} {lc:Nat} (ht:Tied w0) (h:D2 w0 Z w K K' T T') (hx:StrsAt w la xs) (hz:xs ≠ []->∀a,la=some a->a.block<w0.heap.size) (hs:∀x∈xs,x.size<=4294967296) (hl:xs.length<1000):
 Calls Tryz.prog 9 #[.pointer (some ⟨K.p,0,none⟩),.slice la xs.length lc] w fun e w'=>e=.returned (.tuple #[.string (bs (deskR w50 T xs).1),.agg #[.int .i64 (deskR w50 T xs).2.1.1,.int .i64 (deskR w50 T xs).2.1.2]])∧D2 w0 Z w' K K' (deskR w50 T xs).2.2 T'∧Save (fun k=>¬Z k) w w':=by
 obtain ⟨O,h1,h2⟩:=h.lv.inn
 obtain ⟨OA,a1,a2,a3⟩:=Pr.left (dkt_stands K T) (dkt_stands K' T') h1
 refine (do_to xs ht a1 (fun k hk=>(h2 k (a2 k hk)).1) h.lv.below h.f1 hx hz hs hl).mono ?_
 rintro e w' ⟨rfl,k⟩
 obtain ⟨r1,r2⟩:=h.lv.step h2 (a3 w' _ (dkt_stands ..) k)
 exact ⟨rfl,⟨r1,deskR_full h.f1 xs,h.f2⟩,r2⟩
theorem D2.doR {w0 w:World} {Z:Nat->Prop} {K K':Dc} {T T':Twn} (xs:List ByteArray) {la:Option Addr} {lc:Nat} (ht:Tied w0) (h:D2 w0 Z w K K' T T') (hx:StrsAt w la xs) (hz:xs ≠ []->∀a,la=some a->a.block<w0.heap.size) (hs:∀x∈xs,x.size<=4294967296) (hl:xs.length<1000):
 Calls Tryz.prog 9 #[.pointer (some ⟨K'.p,0,none⟩),.slice la xs.length lc] w fun e w'=>e=.returned (.tuple #[.string (bs (deskR w50 T' xs).1),.agg #[.int .i64 (deskR w50 T' xs).2.1.1,.int .i64 (deskR w50 T' xs).2.1.2]])∧D2 w0 Z w' K K' T (deskR w50 T' xs).2.2∧Save (fun k=>¬Z k) w w':=by
 obtain ⟨O,h1,h2⟩:=h.lv.inn
 obtain ⟨OA,a1,a2,a3⟩:=Pr.right (dkt_stands K T) (dkt_stands K' T') h1
 refine (do_to xs ht a1 (fun k hk=>(h2 k (a2 k hk)).1) h.lv.below h.f2 hx hz hs hl).mono ?_
 rintro e w' ⟨rfl,k⟩
 obtain ⟨r1,r2⟩:=h.lv.step h2 (a3 w' _ (dkt_stands ..) k)
 exact ⟨rfl,⟨r1,h.f1,deskR_full h.f2 xs⟩,r2⟩
theorem d2_new {w0 w w1 w2:World} {K K':Dc} (hb:Below w0.heap.size w0 w) (h1:Lv (DkT K (T00 w50)) w (fun k=>k∈([]:List Nat)) w1) (h2:Lv (DkT K' (T00 w50)) w1 (fun k=>k∈([]:List Nat)) w2):D2 w0 (fun k=>k∈([]:List Nat)) w2 K K' (T00 w50) (T00 w50):=⟨Pr.new (dkt_stands ..) (dkt_stands ..) (Lv.since hb h1) h2.below h2,dfull_new,dfull_new⟩
theorem StrsAt.take {w:World} {la:Option Addr} {xs:List ByteArray} (h:StrsAt w la xs) (k:Nat):StrsAt w la (xs.take k):=fun j x hj=>h j x (by
 rw [List.getElem?_take] at hj
 split at hj
 ·exact hj
 ·cases hj)
theorem StrsAt.drop {w:World} {b o:Nat} {xs:List ByteArray} (h:StrsAt w (some ⟨b,o,none⟩) xs) (k:Nat):StrsAt w (some ⟨b,o+k,none⟩) (xs.drop k):=fun j x hj=>by
 rw [List.getElem?_drop] at hj
 obtain ⟨b',o',e,hb,hc⟩:=h (k+j) x hj
 cases e
 exact ⟨b,o+k,rfl,hb,by rw [show o+k+j=o+(k+j) by omega];exact hc⟩
theorem chk_nl {xs:List ByteArray} (h:xs.length<=150):(chkL xs).1=0 ↔ xs.any hasNl=false:=by
 rw [<-nlB_any]
 unfold chkL
 rw [if_neg (by omega)]
 split
 ·rename_i q
  simp [q]
 ·rename_i q
  simp [q]
theorem chk_join {xs:List ByteArray} (h:xs.length<=150) (k:Nat):(chkL xs).1=0 ↔ (chkL (xs.take k)).1=0∧(chkL (xs.drop k)).1=0:=by
 rw [chk_nl h,chk_nl (by rw [List.length_take];omega),chk_nl (by rw [List.length_drop];omega)]
 conv=>lhs;rw [<-List.take_append_drop k xs]
 rw [List.any_append,Bool.or_eq_false_iff]
theorem desk_join {T:Twn} {xs:List ByteArray} (h:xs.length<=150) (k:Nat) (hc:(chkL xs).1=0):(deskR w50 T xs).1=(deskR w50 T (xs.take k)).1++(deskR w50 (deskR w50 T (xs.take k)).2.2 (xs.drop k)).1:=by
 obtain ⟨h1,h2⟩:=(chk_join h k).1 hc
 unfold deskR
 rw [if_pos hc,if_pos h1,if_pos h2]
 have e:xs.map (·.data.toList)=(xs.take k).map (·.data.toList)++(xs.drop k).map (·.data.toList):=by rw [<-List.map_append,List.take_append_drop]
 simp only
 rw [e,lines_append]
theorem desk_len {T:Twn} (h:DFull w50 T) {xs:List ByteArray} (hl:xs.length<=150):(deskR w50 T xs).1.length<=300000:=by
 unfold deskR
 split
 ·have:=lines_short (xs.map (·.data.toList)) h
  rw [List.length_map] at this
  simp only
  omega
 ·simp
theorem desk_zero (T:Twn) (xs:List ByteArray):(deskR w50 T xs).2.1.1=(chkL xs).1:=by
 rcases desk_code T xs with e | ⟨e,e1⟩
 ·rw [e]
 ·rw [e,e1]
theorem joins_walk (la:Option Addr) (ll lc:Nat) (n:Int) (xs:List ByteArray) (w:World) (ht:Tied w) (hx:StrsAt w la xs) (hll:xs.length=ll) (hcap:ll<=lc) (hnil:la=none->lc=0) (hs:∀x∈xs,x.size<=140737488355328):
 Calls Tryz.prog 4 #[.slice la ll lc,.int .i64 n] w fun e w'=>e=.returned (.bool true)∧Below w.heap.size w w':=by
 have HBg:=deskBegun_any w ht
 by_cases h150:150<ll
 ·have j1:(150:Int)<(ll:Int):=by omega
  clear ht hx hs hnil hcap h150 hll
  go_enter Tryz.func4,Tryz.ntmps4
  go_wp2_with (go_at_call 5;refine Calls.mono HBg ?_;rintro e w1 ⟨rfl,hb1⟩)
  go_ret
  exact ⟨rfl,hb1⟩
 have j1:¬(150:Int)<(ll:Int):=by omega
 have HSl:Hid (∀W:World,Below w.heap.size w W->Calls Tryz.prog 6 #[.slice la ll lc] W fun e w'=>SlowIs (sumL xs) e∧w'=W):=fun W hW=>by
  have:=slow_any xs la lc W (hx.below hW) (by omega) hs
  rw [hll] at this
  exact this
 have HT:=hid ht
 have HX:=hid hx
 have H150:Hid (xs.length<=150):=hid (by omega)
 have HLl:=hid hll
 have HCap:=hid hcap
 have HNil:=hid hnil
 clear ht hx hs h150 hll hcap hnil
 go_enter Tryz.func4,Tryz.ntmps4
 go_upto_region 3 with (go_at_call 5;refine Calls.mono HBg ?_;rintro e w1 ⟨rfl,hb1⟩;have HB1:=hid hb1;clear hb1)
 clear HBg
 go_upto_region 5 with (go_at_call 6;refine Calls.mono (HSl.out _ HB1.out) ?_;rintro e w2 ⟨⟨o,rfl,hfew⟩,h2⟩;rw [h2];clear h2 w2;have HFew:=hid hfew;clear hfew;cases o)
 rotate_left
 ·go_ret
  exact ⟨rfl,HB1.out⟩
 have HNa:=new_one w1
 have HSz:Hid (∀x∈xs,x.size<=9000):=fun x hx=>by
  have e1:=HFew.out (by first | rfl | trivial)
  have e2:=sumL_mem hx
  unfold Few at e1
  omega
 clear HFew HSl
 go_upto_region 7 with (first | (go_at_call 7;refine Calls.mono HNa ?_;rintro e w3 ⟨K,rfl,h3,hp3,hb3⟩;have HNb:=new_one w3;have HK3:=hid h3;clear h3 hb3 HNa) | (go_at_call 7;refine Calls.mono HNb ?_;rintro e w4 ⟨K',rfl,h4,hp4,hb4⟩;have HD4:=hid (d2_new HB1.out HK3.out h4);clear h4 hb4 HK3 HNb))
 obtain ⟨kk,hkk,hkl⟩:∃kk:Nat,wrap64 ((IntKind.u64.wrap n).tmod ((ll:Int)+1))=(kk:Int)∧kk<=ll:=by
  have e1:=H150.out
  have e2:=HLl.out
  refine ⟨rnd n (ll+1),?_,?_⟩
  ·have:=rnd_wrap n (ll+1) (by omega) (by omega)
   rw [<-this]
   norm_cast
  ·have:=rnd_lt n (k:=ll+1) (by omega)
   omega
 rw [hkk]
 clear hkk j1
 have HTk:Hid (∀W:World,Below w.heap.size w W->StrsAt W la (xs.take kk)):=fun W hW=>(HX.out.below hW).take kk
 have hlt:(xs.take kk).length=kk:=by rw [List.length_take,HLl.out];omega
 have hld:(xs.drop kk).length=ll - kk:=by rw [List.length_drop,HLl.out]
 have HSz1:Hid (∀x∈xs.take kk,x.size<=4294967296):=fun x hx=>Nat.le_trans (HSz.out x (List.mem_of_mem_take hx)) (by omega)
 have HSz2:Hid (∀x∈xs,x.size<=4294967296):=fun x hx=>Nat.le_trans (HSz.out x hx) (by omega)
 have HSz3:Hid (∀x∈xs.drop kk,x.size<=4294967296):=fun x hx=>Nat.le_trans (HSz.out x (List.mem_of_mem_drop hx)) (by omega)
 have HDo1:Hid (∀lc',Calls Tryz.prog 9 #[.pointer (some ⟨K.p,0,none⟩),.slice la kk lc'] w4 fun e w'=>e=.returned (.tuple #[.string (bs (deskR w50 (T00 w50) (xs.take kk)).1),.agg #[.int .i64 (deskR w50 (T00 w50) (xs.take kk)).2.1.1,.int .i64 (deskR w50 (T00 w50) (xs.take kk)).2.1.2]])∧D2 w (fun k=>k∈([]:List Nat)) w' K K' (deskR w50 (T00 w50) (xs.take kk)).2.2 (T00 w50)∧Save (fun k=>¬k∈([]:List Nat)) w4 w'):=fun lc'=>by
  have:=HD4.out.doL (xs.take kk) (lc:=lc') HT.out (HTk.out _ HD4.out.lv.below) (fun hn a ha=>HX.out.lt (fun e=>hn (by rw [e];simp)) a ha) HSz1.out (by have:=H150.out;omega)
  rw [hlt] at this
  exact this
 have HDo2:Hid (∀(W:World) (l:List Nat) (T':Twn),D2 w (fun k=>k∈l) W K K' T' (T00 w50)->Calls Tryz.prog 9 #[.pointer (some ⟨K'.p,0,none⟩),.slice la ll lc] W fun e w'=>e=.returned (.tuple #[.string (bs (deskR w50 (T00 w50) xs).1),.agg #[.int .i64 (deskR w50 (T00 w50) xs).2.1.1,.int .i64 (deskR w50 (T00 w50) xs).2.1.2]])∧D2 w (fun k=>k∈l) w' K K' T' (deskR w50 (T00 w50) xs).2.2∧Save (fun k=>¬k∈l) W w'):=fun W l T' hW=>by
  have:=hW.doR xs (lc:=lc) HT.out (HX.out.below hW.lv.below) HX.out.lt HSz2.out (by have:=H150.out;omega)
  rw [HLl.out] at this
  exact this
 have HDo3:Hid (∀(W:World) (l:List Nat) (la':Option Addr) (lc':Nat) (T':Twn),(xs.drop kk=[]∨∃b o,la=some ⟨b,o,none⟩∧la'=some ⟨b,o+kk,none⟩)->D2 w (fun k=>k∈l) W K K' (deskR w50 (T00 w50) (xs.take kk)).2.2 T'->Calls Tryz.prog 9 #[.pointer (some ⟨K.p,0,none⟩),.slice la' (ll - kk) lc'] W fun e w'=>e=.returned (.tuple #[.string (bs (deskR w50 (deskR w50 (T00 w50) (xs.take kk)).2.2 (xs.drop kk)).1),.agg #[.int .i64 (deskR w50 (deskR w50 (T00 w50) (xs.take kk)).2.2 (xs.drop kk)).2.1.1,.int .i64 (deskR w50 (deskR w50 (T00 w50) (xs.take kk)).2.2 (xs.drop kk)).2.1.2]])∧Save (fun k=>¬k∈l) W w'∧Below w.heap.size w w'):=fun W l la' lc' T' hla hW=>by
  have:=hW.doL (xs.drop kk) (la:=la') (lc:=lc') HT.out ?_ ?_ HSz3.out (by have:=H150.out;rw [List.length_drop];omega)
  ·rw [hld] at this
   exact this.mono (fun e w' q=>⟨q.1,q.2.2,q.2.1.lv.below⟩)
  ·rcases hla with e | ⟨b,o,e1,e2⟩
   ·rw [e];intro k x hk;simp at hk
   ·subst e1;subst e2
    exact (HX.out.below hW.lv.below).drop kk
  ·intro hn a ha
   rcases hla with e | ⟨b,o,e1,e2⟩
   ·exact absurd e hn
   ·subst e1;subst e2
    cases ha
    exact HX.out.lt (fun e=>hn (by rw [e];simp)) ⟨b,o,none⟩ rfl
 have HDo4:Hid (∀(W w5:World) (K9:Dc),Below w.heap.size w W->Lv (DkT K9 (T00 w50)) W (fun k=>k∈([]:List Nat)) w5->Calls Tryz.prog 9 #[.pointer (some ⟨K9.p,0,none⟩),.slice la ll lc] w5 fun e w'=>e=.returned (.tuple #[.string (bs (deskR w50 (T00 w50) xs).1),.agg #[.int .i64 (deskR w50 (T00 w50) xs).2.1.1,.int .i64 (deskR w50 (T00 w50) xs).2.1.2]])∧Below W.heap.size W w'):=fun W w5 K9 hW h9=>by
  have hT:Tied W:=HT.out.below hW
  obtain ⟨O,o1,o2⟩:=h9.inn
  have:=do_to xs (lc:=lc) hT o1 (fun k hk=>(o2 k hk).1) h9.below dfull_new (HX.out.below (hW.trans (h9.below.mono hW.size))) (fun hn a ha=>Nat.lt_of_lt_of_le (HX.out.lt hn a ha) hW.size) HSz2.out (by have:=H150.out;omega)
  rw [HLl.out] at this
  refine this.mono ?_
  rintro e w' ⟨rfl,O',r1,r2,r3⟩
  exact ⟨rfl,h9.below.trans (r2.below (fun k hk q=>by have:=(o2 k q).1;omega) h9.below.size)⟩
 have Hz1:Hid ((deskR w50 (T00 w50) (xs.take kk)).2.1.1=(chkL (xs.take kk)).1):=desk_zero _ _
 have Hz2:Hid ((deskR w50 (T00 w50) xs).2.1.1=(chkL xs).1):=desk_zero _ _
 have Hz3:Hid ((deskR w50 (deskR w50 (T00 w50) (xs.take kk)).2.2 (xs.drop kk)).2.1.1=(chkL (xs.drop kk)).1):=desk_zero _ _
 have HJ:=hid (chk_join H150.out kk)
 have HL:Hid ((chkL xs).1=0->(deskR w50 (T00 w50) xs).1=(deskR w50 (T00 w50) (xs.take kk)).1++(deskR w50 (deskR w50 (T00 w50) (xs.take kk)).2.2 (xs.drop kk)).1):=fun e=>desk_join H150.out kk e
 have HDr:Hid (kk=ll->xs.drop kk=[]):=fun e=>List.drop_eq_nil_of_le (by rw [HLl.out];omega)
 clear HTk HSz1 HSz2 HSz3 HSz hlt hld
 have HCat:Hid ((chkL xs).1=0->((bs (deskR w50 (T00 w50) (xs.take kk)).1++bs (deskR w50 (deskR w50 (T00 w50) (xs.take kk)).2.2 (xs.drop kk)).1).toList == (bs (deskR w50 (T00 w50) xs).1).toList)=true):=fun e=>by
  rw [ByteArray.toList_eq,ByteArray.toList_eq,Joins.data_append,bs_data,bs_data,bs_data,HL.out e]
  simp
 have HCs:Hid (((deskR w50 (T00 w50) xs).2.1.1 ≠ 0∧(deskR w50 (T00 w50) (xs.take kk)).2.1.1 ≠ 0)∨((deskR w50 (T00 w50) xs).2.1.1 ≠ 0∧(deskR w50 (T00 w50) (xs.take kk)).2.1.1=0∧(deskR w50 (deskR w50 (T00 w50) (xs.take kk)).2.2 (xs.drop kk)).2.1.1 ≠ 0)∨((deskR w50 (T00 w50) xs).2.1.1=0∧(deskR w50 (T00 w50) (xs.take kk)).2.1.1=0∧(deskR w50 (deskR w50 (T00 w50) (xs.take kk)).2.2 (xs.drop kk)).2.1.1=0∧((bs (deskR w50 (T00 w50) (xs.take kk)).1++bs (deskR w50 (deskR w50 (T00 w50) (xs.take kk)).2.2 (xs.drop kk)).1).toList == (bs (deskR w50 (T00 w50) xs).1).toList)=true)):=by
  rw [Hz1.out,Hz2.out,Hz3.out]
  by_cases e2:(chkL xs).1=0
  ·obtain ⟨e1,e3⟩:=HJ.out.1 e2
   exact hid (.inr (.inr ⟨e2,e1,e3,HCat.out e2⟩))
  ·by_cases e1:(chkL (xs.take kk)).1=0
   ·exact hid (.inr (.inl ⟨e2,e1,fun e3=>e2 (HJ.out.2 ⟨e1,e3⟩)⟩))
   ·exact hid (.inl ⟨e2,e1⟩)
 have HSum:Hid ((bs (deskR w50 (T00 w50) (xs.take kk)).1).size+(bs (deskR w50 (deskR w50 (T00 w50) (xs.take kk)).2.2 (xs.drop kk)).1).size<=600000):=by
  have e1:=desk_len dfull_new (xs:=xs.take kk) (by rw [List.length_take];have:=H150.out;omega)
  have e2:=desk_len (deskR_full dfull_new (xs.take kk)) (xs:=xs.drop kk) (by rw [List.length_drop];have:=H150.out;omega)
  rw [bs_size,bs_size]
  exact hid (by omega)
 have HLa:Hid (xs.drop kk ≠ []->kk ≠ ll∧∃b o,la=some ⟨b,o,none⟩):=fun hn=>by
  refine ⟨fun e=>hn (HDr.out e),?_⟩
  cases xs with
  | nil=>simp at hn
  | cons x r=>
    obtain ⟨b',o',e,_⟩:=HX.out 0 x rfl
    exact ⟨b',o',e⟩
 clear Hz1 Hz2 Hz3 HJ HL HCat HX HT
 generalize (deskR w50 (deskR w50 (T00 w50) (xs.take kk)).2.2 (xs.drop kk)).2.1.1=c3 at *
 generalize (deskR w50 (deskR w50 (T00 w50) (xs.take kk)).2.2 (xs.drop kk)).2.1.2=d3 at *
 generalize bs (deskR w50 (deskR w50 (T00 w50) (xs.take kk)).2.2 (xs.drop kk)).1=s3 at *
 generalize (deskR w50 (T00 w50) (xs.take kk)).2.1.1=c1 at *
 generalize (deskR w50 (T00 w50) (xs.take kk)).2.1.2=d1 at *
 generalize bs (deskR w50 (T00 w50) (xs.take kk)).1=s1 at *
 generalize (deskR w50 (T00 w50) (xs.take kk)).2.2=T1 at *
 generalize (deskR w50 (T00 w50) xs).2.1.1=c2 at *
 generalize (deskR w50 (T00 w50) xs).2.1.2=d2 at *
 generalize bs (deskR w50 (T00 w50) xs).1=s2 at *
 generalize (deskR w50 (T00 w50) xs).2.2=T2 at *
 have hkc:kk<=lc:=Nat.le_trans hkl HCap.out
 obtain ⟨Dr,hDr⟩:∃Dr:Prop,Dr=(xs.drop kk=[]):=⟨_,rfl⟩
 rw [<-hDr] at HDo3 HDr
 by_cases hd:Dr
 ·have hcs:∀{la':Option Addr},Dr∨∃b o,la=some ⟨b,o,none⟩∧la'=some ⟨b,o+kk,none⟩:=.inl hd
  clear hDr HLa HDr
  rcases la with _ | ⟨b0,o0,sp⟩
  ·obtain rfl:lc=0:=HNil.out rfl
   obtain rfl:kk=0:=by omega
   obtain rfl:ll=0:=by have:=HCap.out;omega
   clear HNil HCap hkc hkl hd
   rcases HCs.out with ⟨e2,e1⟩ | ⟨e2,e1,e3⟩ | ⟨e2,e1,e3,e4⟩
   ·have e2':(c2 != 0)=true:=by simpa using e2
    have e1':(c1 != 0)=true:=by simpa using e1
    clear e1 e2 HCs
    go_upto_region 8 with (go_at_call 9;refine Calls.mono (HDo1.out _) ?_;rintro e w5 ⟨rfl,hD5,_⟩;have HD5:=hid (hD5.cons (x:=w5.heap.size) (w1:=w5.alloc (.cells #[.int .i64 c1,.int .i64 d1] 31)) (by go_grown) (Nat.le_refl _) (by simp));clear hD5)
    go_upto_region 9 with (go_at_call 9;refine Calls.mono (HDo2.out _ _ _ HD5.out) ?_;rintro e w6 ⟨rfl,hD6,hS6⟩;have k6:w6.cell? ⟨w5.heap.size,0,none⟩=some (.int .i64 c1):=(hS6.cell (p:=⟨w5.heap.size,0,none⟩) (by simp) (by simp)).trans (by simp [go_sem]);have hl6:w5.heap.size<w6.heap.size:=(by have:=hS6.size;simp at this;omega);have HD6:=hid (hD6.cons (x:=w6.heap.size) (w1:=w6.alloc (.cells #[.int .i64 c2,.int .i64 d2] 31)) (by go_grown) (Nat.le_refl _) (by simp));clear hD6 hS6 HD5)
    go_upto_region 10 with (go_at_call 9;refine Calls.mono (HDo3.out _ _ _ _ _ hcs HD6.out) ?_;rintro e w7 ⟨rfl,hS7,hB7⟩;have k7:w7.cell? ⟨w5.heap.size,0,none⟩=some (.int .i64 c1):=(hS7.cell (p:=⟨w5.heap.size,0,none⟩) (by simp;omega) (by simp)).trans (by simp [go_sem,k6,hl6]);have l7:w7.cell? ⟨w6.heap.size,0,none⟩=some (.int .i64 c2):=(hS7.cell (p:=⟨w6.heap.size,0,none⟩) (by simp) (by simp)).trans (by simp [go_sem]);have hl7:w6.heap.size<w7.heap.size:=(by have:=hS7.size;simp at this;omega);have hm7:w5.heap.size<w7.heap.size:=(by omega);have HB7:=hid hB7;have HN9:=new_one (w7.alloc (.cells #[.int .i64 c3,.int .i64 d3] 31));clear hS7 hB7 HD6 k6)
    go_wp2_with fail
    go_ret
    exact ⟨rfl,HB7.out.alloc HB7.out.size _⟩
   ·have e2':(c2 != 0)=true:=by simpa using e2
    have e3':(c3 != 0)=true:=by simpa using e3
    have HE1:=hid e1
    clear e1 e2 e3 HCs
    go_upto_region 8 with (go_at_call 9;refine Calls.mono (HDo1.out _) ?_;rintro e w5 ⟨rfl,hD5,_⟩;have HD5:=hid (hD5.cons (x:=w5.heap.size) (w1:=w5.alloc (.cells #[.int .i64 c1,.int .i64 d1] 31)) (by go_grown) (Nat.le_refl _) (by simp));clear hD5)
    go_upto_region 9 with (go_at_call 9;refine Calls.mono (HDo2.out _ _ _ HD5.out) ?_;rintro e w6 ⟨rfl,hD6,hS6⟩;have k6:w6.cell? ⟨w5.heap.size,0,none⟩=some (.int .i64 c1):=(hS6.cell (p:=⟨w5.heap.size,0,none⟩) (by simp) (by simp)).trans (by simp [go_sem]);have hl6:w5.heap.size<w6.heap.size:=(by have:=hS6.size;simp at this;omega);have HD6:=hid (hD6.cons (x:=w6.heap.size) (w1:=w6.alloc (.cells #[.int .i64 c2,.int .i64 d2] 31)) (by go_grown) (Nat.le_refl _) (by simp));clear hD6 hS6 HD5)
    go_upto_region 10 with (go_at_call 9;refine Calls.mono (HDo3.out _ _ _ _ _ hcs HD6.out) ?_;rintro e w7 ⟨rfl,hS7,hB7⟩;have k7:w7.cell? ⟨w5.heap.size,0,none⟩=some (.int .i64 c1):=(hS7.cell (p:=⟨w5.heap.size,0,none⟩) (by simp;omega) (by simp)).trans (by simp [go_sem,k6,hl6]);have l7:w7.cell? ⟨w6.heap.size,0,none⟩=some (.int .i64 c2):=(hS7.cell (p:=⟨w6.heap.size,0,none⟩) (by simp) (by simp)).trans (by simp [go_sem]);have hl7:w6.heap.size<w7.heap.size:=(by have:=hS7.size;simp at this;omega);have hm7:w5.heap.size<w7.heap.size:=(by omega);have HB7:=hid hB7;have HN9:=new_one (w7.alloc (.cells #[.int .i64 c3,.int .i64 d3] 31));clear hS7 hB7 HD6 k6)
    have e1:=HE1.out
    subst e1
    go_wp2_with fail
    go_ret
    exact ⟨rfl,HB7.out.alloc HB7.out.size _⟩
   ·have HE1:=hid e1
    have HE2:=hid e2
    have HE3:=hid e3
    have HE4:=hid e4
    clear e1 e2 e3 e4 HCs
    go_upto_region 8 with (go_at_call 9;refine Calls.mono (HDo1.out _) ?_;rintro e w5 ⟨rfl,hD5,_⟩;have HD5:=hid (hD5.cons (x:=w5.heap.size) (w1:=w5.alloc (.cells #[.int .i64 c1,.int .i64 d1] 31)) (by go_grown) (Nat.le_refl _) (by simp));clear hD5)
    go_upto_region 9 with (go_at_call 9;refine Calls.mono (HDo2.out _ _ _ HD5.out) ?_;rintro e w6 ⟨rfl,hD6,hS6⟩;have k6:w6.cell? ⟨w5.heap.size,0,none⟩=some (.int .i64 c1):=(hS6.cell (p:=⟨w5.heap.size,0,none⟩) (by simp) (by simp)).trans (by simp [go_sem]);have hl6:w5.heap.size<w6.heap.size:=(by have:=hS6.size;simp at this;omega);have HD6:=hid (hD6.cons (x:=w6.heap.size) (w1:=w6.alloc (.cells #[.int .i64 c2,.int .i64 d2] 31)) (by go_grown) (Nat.le_refl _) (by simp));clear hD6 hS6 HD5)
    go_upto_region 10 with (go_at_call 9;refine Calls.mono (HDo3.out _ _ _ _ _ hcs HD6.out) ?_;rintro e w7 ⟨rfl,hS7,hB7⟩;have k7:w7.cell? ⟨w5.heap.size,0,none⟩=some (.int .i64 c1):=(hS7.cell (p:=⟨w5.heap.size,0,none⟩) (by simp;omega) (by simp)).trans (by simp [go_sem,k6,hl6]);have l7:w7.cell? ⟨w6.heap.size,0,none⟩=some (.int .i64 c2):=(hS7.cell (p:=⟨w6.heap.size,0,none⟩) (by simp) (by simp)).trans (by simp [go_sem]);have hl7:w6.heap.size<w7.heap.size:=(by have:=hS7.size;simp at this;omega);have hm7:w5.heap.size<w7.heap.size:=(by omega);have HB7:=hid hB7;have HN9:=new_one (w7.alloc (.cells #[.int .i64 c3,.int .i64 d3] 31));clear hS7 hB7 HD6 k6)
    have e2:=HE2.out
    subst e2
    go_upto_region 13 with (first | (go_at_call 7;refine Calls.mono HN9 ?_;rintro e w8 ⟨K9,rfl,h9,hp9,hb9⟩;have HC9:=HDo4.out _ w8 K9 (HB7.out.alloc HB7.out.size _) h9;clear HN9 h9 hb9) | (go_at_call 9;refine Calls.mono HC9 ?_;rintro e w9 ⟨rfl,hb9⟩;have k9:w9.cell? ⟨w5.heap.size,0,none⟩=some (.int .i64 c1):=((bcell hb9).1 _ _ (by simp;omega)).trans (by simp [go_sem,k7,hm7]);have l9:w9.cell? ⟨w7.heap.size,0,none⟩=some (.int .i64 c3):=((bcell hb9).1 _ _ (by simp)).trans (by simp [go_sem]);have hl9:w7.heap.size<w9.heap.size:=(by have:=hb9.size;simp at this;omega);have hm9:w5.heap.size<w9.heap.size:=(by omega);have HB9:Hid (Below w.heap.size w w9):=after (HB7.out.alloc HB7.out.size _) hb9 (by have:=HB7.out.size;simp;omega);clear hb9 HC9))
    have e1:=HE1.out
    have e3:=HE3.out
    have e4:=HE4.out
    subst e1
    subst e3
    go_wp2_with fail
    ·exfalso
     have:=HSum.out
     omega
    go_ret
    exact ⟨rfl,HB9.out.alloc HB9.out.size _⟩
  ·have j6:(kk:Int)<=(ll:Int):=by omega
   have j7:(kk:Int)<=(lc:Int):=by omega
   have j8:(ll:Int)<=(lc:Int):=by have:=HCap.out;omega
   clear HNil HCap hd
   by_cases hk:lc=kk
   ·subst hk
    rcases HCs.out with ⟨e2,e1⟩ | ⟨e2,e1,e3⟩ | ⟨e2,e1,e3,e4⟩
    ·have e2':(c2 != 0)=true:=by simpa using e2
     have e1':(c1 != 0)=true:=by simpa using e1
     clear e1 e2 HCs
     go_upto_region 8 with (go_at_call 9;refine Calls.mono (HDo1.out _) ?_;rintro e w5 ⟨rfl,hD5,_⟩;have HD5:=hid (hD5.cons (x:=w5.heap.size) (w1:=w5.alloc (.cells #[.int .i64 c1,.int .i64 d1] 31)) (by go_grown) (Nat.le_refl _) (by simp));clear hD5)
     go_upto_region 9 with (go_at_call 9;refine Calls.mono (HDo2.out _ _ _ HD5.out) ?_;rintro e w6 ⟨rfl,hD6,hS6⟩;have k6:w6.cell? ⟨w5.heap.size,0,none⟩=some (.int .i64 c1):=(hS6.cell (p:=⟨w5.heap.size,0,none⟩) (by simp) (by simp)).trans (by simp [go_sem]);have hl6:w5.heap.size<w6.heap.size:=(by have:=hS6.size;simp at this;omega);have HD6:=hid (hD6.cons (x:=w6.heap.size) (w1:=w6.alloc (.cells #[.int .i64 c2,.int .i64 d2] 31)) (by go_grown) (Nat.le_refl _) (by simp));clear hD6 hS6 HD5)
     go_upto_region 10 with (go_at_call 9;refine Calls.mono (HDo3.out _ _ _ _ _ hcs HD6.out) ?_;rintro e w7 ⟨rfl,hS7,hB7⟩;have k7:w7.cell? ⟨w5.heap.size,0,none⟩=some (.int .i64 c1):=(hS7.cell (p:=⟨w5.heap.size,0,none⟩) (by simp;omega) (by simp)).trans (by simp [go_sem,k6,hl6]);have l7:w7.cell? ⟨w6.heap.size,0,none⟩=some (.int .i64 c2):=(hS7.cell (p:=⟨w6.heap.size,0,none⟩) (by simp) (by simp)).trans (by simp [go_sem]);have hl7:w6.heap.size<w7.heap.size:=(by have:=hS7.size;simp at this;omega);have hm7:w5.heap.size<w7.heap.size:=(by omega);have HB7:=hid hB7;have HN9:=new_one (w7.alloc (.cells #[.int .i64 c3,.int .i64 d3] 31));clear hS7 hB7 HD6 k6)
     go_wp2_with fail
     go_ret
     exact ⟨rfl,HB7.out.alloc HB7.out.size _⟩
    ·have e2':(c2 != 0)=true:=by simpa using e2
     have e3':(c3 != 0)=true:=by simpa using e3
     have HE1:=hid e1
     clear e1 e2 e3 HCs
     go_upto_region 8 with (go_at_call 9;refine Calls.mono (HDo1.out _) ?_;rintro e w5 ⟨rfl,hD5,_⟩;have HD5:=hid (hD5.cons (x:=w5.heap.size) (w1:=w5.alloc (.cells #[.int .i64 c1,.int .i64 d1] 31)) (by go_grown) (Nat.le_refl _) (by simp));clear hD5)
     go_upto_region 9 with (go_at_call 9;refine Calls.mono (HDo2.out _ _ _ HD5.out) ?_;rintro e w6 ⟨rfl,hD6,hS6⟩;have k6:w6.cell? ⟨w5.heap.size,0,none⟩=some (.int .i64 c1):=(hS6.cell (p:=⟨w5.heap.size,0,none⟩) (by simp) (by simp)).trans (by simp [go_sem]);have hl6:w5.heap.size<w6.heap.size:=(by have:=hS6.size;simp at this;omega);have HD6:=hid (hD6.cons (x:=w6.heap.size) (w1:=w6.alloc (.cells #[.int .i64 c2,.int .i64 d2] 31)) (by go_grown) (Nat.le_refl _) (by simp));clear hD6 hS6 HD5)
     go_upto_region 10 with (go_at_call 9;refine Calls.mono (HDo3.out _ _ _ _ _ hcs HD6.out) ?_;rintro e w7 ⟨rfl,hS7,hB7⟩;have k7:w7.cell? ⟨w5.heap.size,0,none⟩=some (.int .i64 c1):=(hS7.cell (p:=⟨w5.heap.size,0,none⟩) (by simp;omega) (by simp)).trans (by simp [go_sem,k6,hl6]);have l7:w7.cell? ⟨w6.heap.size,0,none⟩=some (.int .i64 c2):=(hS7.cell (p:=⟨w6.heap.size,0,none⟩) (by simp) (by simp)).trans (by simp [go_sem]);have hl7:w6.heap.size<w7.heap.size:=(by have:=hS7.size;simp at this;omega);have hm7:w5.heap.size<w7.heap.size:=(by omega);have HB7:=hid hB7;have HN9:=new_one (w7.alloc (.cells #[.int .i64 c3,.int .i64 d3] 31));clear hS7 hB7 HD6 k6)
     have e1:=HE1.out
     subst e1
     go_wp2_with fail
     go_ret
     exact ⟨rfl,HB7.out.alloc HB7.out.size _⟩
    ·have HE1:=hid e1
     have HE2:=hid e2
     have HE3:=hid e3
     have HE4:=hid e4
     clear e1 e2 e3 e4 HCs
     go_upto_region 8 with (go_at_call 9;refine Calls.mono (HDo1.out _) ?_;rintro e w5 ⟨rfl,hD5,_⟩;have HD5:=hid (hD5.cons (x:=w5.heap.size) (w1:=w5.alloc (.cells #[.int .i64 c1,.int .i64 d1] 31)) (by go_grown) (Nat.le_refl _) (by simp));clear hD5)
     go_upto_region 9 with (go_at_call 9;refine Calls.mono (HDo2.out _ _ _ HD5.out) ?_;rintro e w6 ⟨rfl,hD6,hS6⟩;have k6:w6.cell? ⟨w5.heap.size,0,none⟩=some (.int .i64 c1):=(hS6.cell (p:=⟨w5.heap.size,0,none⟩) (by simp) (by simp)).trans (by simp [go_sem]);have hl6:w5.heap.size<w6.heap.size:=(by have:=hS6.size;simp at this;omega);have HD6:=hid (hD6.cons (x:=w6.heap.size) (w1:=w6.alloc (.cells #[.int .i64 c2,.int .i64 d2] 31)) (by go_grown) (Nat.le_refl _) (by simp));clear hD6 hS6 HD5)
     go_upto_region 10 with (go_at_call 9;refine Calls.mono (HDo3.out _ _ _ _ _ hcs HD6.out) ?_;rintro e w7 ⟨rfl,hS7,hB7⟩;have k7:w7.cell? ⟨w5.heap.size,0,none⟩=some (.int .i64 c1):=(hS7.cell (p:=⟨w5.heap.size,0,none⟩) (by simp;omega) (by simp)).trans (by simp [go_sem,k6,hl6]);have l7:w7.cell? ⟨w6.heap.size,0,none⟩=some (.int .i64 c2):=(hS7.cell (p:=⟨w6.heap.size,0,none⟩) (by simp) (by simp)).trans (by simp [go_sem]);have hl7:w6.heap.size<w7.heap.size:=(by have:=hS7.size;simp at this;omega);have hm7:w5.heap.size<w7.heap.size:=(by omega);have HB7:=hid hB7;have HN9:=new_one (w7.alloc (.cells #[.int .i64 c3,.int .i64 d3] 31));clear hS7 hB7 HD6 k6)
     have e2:=HE2.out
     subst e2
     go_upto_region 13 with (first | (go_at_call 7;refine Calls.mono HN9 ?_;rintro e w8 ⟨K9,rfl,h9,hp9,hb9⟩;have HC9:=HDo4.out _ w8 K9 (HB7.out.alloc HB7.out.size _) h9;clear HN9 h9 hb9) | (go_at_call 9;refine Calls.mono HC9 ?_;rintro e w9 ⟨rfl,hb9⟩;have k9:w9.cell? ⟨w5.heap.size,0,none⟩=some (.int .i64 c1):=((bcell hb9).1 _ _ (by simp;omega)).trans (by simp [go_sem,k7,hm7]);have l9:w9.cell? ⟨w7.heap.size,0,none⟩=some (.int .i64 c3):=((bcell hb9).1 _ _ (by simp)).trans (by simp [go_sem]);have hl9:w7.heap.size<w9.heap.size:=(by have:=hb9.size;simp at this;omega);have hm9:w5.heap.size<w9.heap.size:=(by omega);have HB9:Hid (Below w.heap.size w w9):=after (HB7.out.alloc HB7.out.size _) hb9 (by have:=HB7.out.size;simp;omega);clear hb9 HC9))
     have e1:=HE1.out
     have e3:=HE3.out
     have e4:=HE4.out
     subst e1
     subst e3
     go_wp2_with fail
     ·exfalso
      have:=HSum.out
      omega
     go_ret
     exact ⟨rfl,HB9.out.alloc HB9.out.size _⟩
   ·have j5:¬lc=kk:=hk
    rcases HCs.out with ⟨e2,e1⟩ | ⟨e2,e1,e3⟩ | ⟨e2,e1,e3,e4⟩
    ·have e2':(c2 != 0)=true:=by simpa using e2
     have e1':(c1 != 0)=true:=by simpa using e1
     clear e1 e2 HCs
     go_upto_region 8 with (go_at_call 9;refine Calls.mono (HDo1.out _) ?_;rintro e w5 ⟨rfl,hD5,_⟩;have HD5:=hid (hD5.cons (x:=w5.heap.size) (w1:=w5.alloc (.cells #[.int .i64 c1,.int .i64 d1] 31)) (by go_grown) (Nat.le_refl _) (by simp));clear hD5)
     go_upto_region 9 with (go_at_call 9;refine Calls.mono (HDo2.out _ _ _ HD5.out) ?_;rintro e w6 ⟨rfl,hD6,hS6⟩;have k6:w6.cell? ⟨w5.heap.size,0,none⟩=some (.int .i64 c1):=(hS6.cell (p:=⟨w5.heap.size,0,none⟩) (by simp) (by simp)).trans (by simp [go_sem]);have hl6:w5.heap.size<w6.heap.size:=(by have:=hS6.size;simp at this;omega);have HD6:=hid (hD6.cons (x:=w6.heap.size) (w1:=w6.alloc (.cells #[.int .i64 c2,.int .i64 d2] 31)) (by go_grown) (Nat.le_refl _) (by simp));clear hD6 hS6 HD5)
     go_upto_region 10 with (go_at_call 9;refine Calls.mono (HDo3.out _ _ _ _ _ hcs HD6.out) ?_;rintro e w7 ⟨rfl,hS7,hB7⟩;have k7:w7.cell? ⟨w5.heap.size,0,none⟩=some (.int .i64 c1):=(hS7.cell (p:=⟨w5.heap.size,0,none⟩) (by simp;omega) (by simp)).trans (by simp [go_sem,k6,hl6]);have l7:w7.cell? ⟨w6.heap.size,0,none⟩=some (.int .i64 c2):=(hS7.cell (p:=⟨w6.heap.size,0,none⟩) (by simp) (by simp)).trans (by simp [go_sem]);have hl7:w6.heap.size<w7.heap.size:=(by have:=hS7.size;simp at this;omega);have hm7:w5.heap.size<w7.heap.size:=(by omega);have HB7:=hid hB7;have HN9:=new_one (w7.alloc (.cells #[.int .i64 c3,.int .i64 d3] 31));clear hS7 hB7 HD6 k6)
     go_wp2_with fail
     go_ret
     exact ⟨rfl,HB7.out.alloc HB7.out.size _⟩
    ·have e2':(c2 != 0)=true:=by simpa using e2
     have e3':(c3 != 0)=true:=by simpa using e3
     have HE1:=hid e1
     clear e1 e2 e3 HCs
     go_upto_region 8 with (go_at_call 9;refine Calls.mono (HDo1.out _) ?_;rintro e w5 ⟨rfl,hD5,_⟩;have HD5:=hid (hD5.cons (x:=w5.heap.size) (w1:=w5.alloc (.cells #[.int .i64 c1,.int .i64 d1] 31)) (by go_grown) (Nat.le_refl _) (by simp));clear hD5)
     go_upto_region 9 with (go_at_call 9;refine Calls.mono (HDo2.out _ _ _ HD5.out) ?_;rintro e w6 ⟨rfl,hD6,hS6⟩;have k6:w6.cell? ⟨w5.heap.size,0,none⟩=some (.int .i64 c1):=(hS6.cell (p:=⟨w5.heap.size,0,none⟩) (by simp) (by simp)).trans (by simp [go_sem]);have hl6:w5.heap.size<w6.heap.size:=(by have:=hS6.size;simp at this;omega);have HD6:=hid (hD6.cons (x:=w6.heap.size) (w1:=w6.alloc (.cells #[.int .i64 c2,.int .i64 d2] 31)) (by go_grown) (Nat.le_refl _) (by simp));clear hD6 hS6 HD5)
     go_upto_region 10 with (go_at_call 9;refine Calls.mono (HDo3.out _ _ _ _ _ hcs HD6.out) ?_;rintro e w7 ⟨rfl,hS7,hB7⟩;have k7:w7.cell? ⟨w5.heap.size,0,none⟩=some (.int .i64 c1):=(hS7.cell (p:=⟨w5.heap.size,0,none⟩) (by simp;omega) (by simp)).trans (by simp [go_sem,k6,hl6]);have l7:w7.cell? ⟨w6.heap.size,0,none⟩=some (.int .i64 c2):=(hS7.cell (p:=⟨w6.heap.size,0,none⟩) (by simp) (by simp)).trans (by simp [go_sem]);have hl7:w6.heap.size<w7.heap.size:=(by have:=hS7.size;simp at this;omega);have hm7:w5.heap.size<w7.heap.size:=(by omega);have HB7:=hid hB7;have HN9:=new_one (w7.alloc (.cells #[.int .i64 c3,.int .i64 d3] 31));clear hS7 hB7 HD6 k6)
     have e1:=HE1.out
     subst e1
     go_wp2_with fail
     go_ret
     exact ⟨rfl,HB7.out.alloc HB7.out.size _⟩
    ·have HE1:=hid e1
     have HE2:=hid e2
     have HE3:=hid e3
     have HE4:=hid e4
     clear e1 e2 e3 e4 HCs
     go_upto_region 8 with (go_at_call 9;refine Calls.mono (HDo1.out _) ?_;rintro e w5 ⟨rfl,hD5,_⟩;have HD5:=hid (hD5.cons (x:=w5.heap.size) (w1:=w5.alloc (.cells #[.int .i64 c1,.int .i64 d1] 31)) (by go_grown) (Nat.le_refl _) (by simp));clear hD5)
     go_upto_region 9 with (go_at_call 9;refine Calls.mono (HDo2.out _ _ _ HD5.out) ?_;rintro e w6 ⟨rfl,hD6,hS6⟩;have k6:w6.cell? ⟨w5.heap.size,0,none⟩=some (.int .i64 c1):=(hS6.cell (p:=⟨w5.heap.size,0,none⟩) (by simp) (by simp)).trans (by simp [go_sem]);have hl6:w5.heap.size<w6.heap.size:=(by have:=hS6.size;simp at this;omega);have HD6:=hid (hD6.cons (x:=w6.heap.size) (w1:=w6.alloc (.cells #[.int .i64 c2,.int .i64 d2] 31)) (by go_grown) (Nat.le_refl _) (by simp));clear hD6 hS6 HD5)
     go_upto_region 10 with (go_at_call 9;refine Calls.mono (HDo3.out _ _ _ _ _ hcs HD6.out) ?_;rintro e w7 ⟨rfl,hS7,hB7⟩;have k7:w7.cell? ⟨w5.heap.size,0,none⟩=some (.int .i64 c1):=(hS7.cell (p:=⟨w5.heap.size,0,none⟩) (by simp;omega) (by simp)).trans (by simp [go_sem,k6,hl6]);have l7:w7.cell? ⟨w6.heap.size,0,none⟩=some (.int .i64 c2):=(hS7.cell (p:=⟨w6.heap.size,0,none⟩) (by simp) (by simp)).trans (by simp [go_sem]);have hl7:w6.heap.size<w7.heap.size:=(by have:=hS7.size;simp at this;omega);have hm7:w5.heap.size<w7.heap.size:=(by omega);have HB7:=hid hB7;have HN9:=new_one (w7.alloc (.cells #[.int .i64 c3,.int .i64 d3] 31));clear hS7 hB7 HD6 k6)
     have e2:=HE2.out
     subst e2
     go_upto_region 13 with (first | (go_at_call 7;refine Calls.mono HN9 ?_;rintro e w8 ⟨K9,rfl,h9,hp9,hb9⟩;have HC9:=HDo4.out _ w8 K9 (HB7.out.alloc HB7.out.size _) h9;clear HN9 h9 hb9) | (go_at_call 9;refine Calls.mono HC9 ?_;rintro e w9 ⟨rfl,hb9⟩;have k9:w9.cell? ⟨w5.heap.size,0,none⟩=some (.int .i64 c1):=((bcell hb9).1 _ _ (by simp;omega)).trans (by simp [go_sem,k7,hm7]);have l9:w9.cell? ⟨w7.heap.size,0,none⟩=some (.int .i64 c3):=((bcell hb9).1 _ _ (by simp)).trans (by simp [go_sem]);have hl9:w7.heap.size<w9.heap.size:=(by have:=hb9.size;simp at this;omega);have hm9:w5.heap.size<w9.heap.size:=(by omega);have HB9:Hid (Below w.heap.size w w9):=after (HB7.out.alloc HB7.out.size _) hb9 (by have:=HB7.out.size;simp;omega);clear hb9 HC9))
     have e1:=HE1.out
     have e3:=HE3.out
     have e4:=HE4.out
     subst e1
     subst e3
     go_wp2_with fail
     ·exfalso
      have:=HSum.out
      omega
     go_ret
     exact ⟨rfl,HB9.out.alloc HB9.out.size _⟩
 ·obtain ⟨hne,b0,o0,rfl⟩:=HLa.out (by rw [hDr] at hd;exact hd)
  have hcs:Dr∨∃b o,(some ⟨b0,o0,none⟩:Option Addr)=some ⟨b,o,none⟩∧(some ⟨b0,o0+kk,none⟩:Option Addr)=some ⟨b,o+kk,none⟩:=.inr ⟨b0,o0,rfl,rfl⟩
  have j5:¬lc=kk:=by have:=HCap.out;omega
  have j6:(kk:Int)<=(ll:Int):=by omega
  have j7:(kk:Int)<=(lc:Int):=by omega
  have j8:(ll:Int)<=(lc:Int):=by have:=HCap.out;omega
  clear hd hDr HDr HLa HNil HCap hne
  rcases HCs.out with ⟨e2,e1⟩ | ⟨e2,e1,e3⟩ | ⟨e2,e1,e3,e4⟩
  ·have e2':(c2 != 0)=true:=by simpa using e2
   have e1':(c1 != 0)=true:=by simpa using e1
   clear e1 e2 HCs
   go_upto_region 8 with (go_at_call 9;refine Calls.mono (HDo1.out _) ?_;rintro e w5 ⟨rfl,hD5,_⟩;have HD5:=hid (hD5.cons (x:=w5.heap.size) (w1:=w5.alloc (.cells #[.int .i64 c1,.int .i64 d1] 31)) (by go_grown) (Nat.le_refl _) (by simp));clear hD5)
   go_upto_region 9 with (go_at_call 9;refine Calls.mono (HDo2.out _ _ _ HD5.out) ?_;rintro e w6 ⟨rfl,hD6,hS6⟩;have k6:w6.cell? ⟨w5.heap.size,0,none⟩=some (.int .i64 c1):=(hS6.cell (p:=⟨w5.heap.size,0,none⟩) (by simp) (by simp)).trans (by simp [go_sem]);have hl6:w5.heap.size<w6.heap.size:=(by have:=hS6.size;simp at this;omega);have HD6:=hid (hD6.cons (x:=w6.heap.size) (w1:=w6.alloc (.cells #[.int .i64 c2,.int .i64 d2] 31)) (by go_grown) (Nat.le_refl _) (by simp));clear hD6 hS6 HD5)
   go_upto_region 10 with (go_at_call 9;refine Calls.mono (HDo3.out _ _ _ _ _ hcs HD6.out) ?_;rintro e w7 ⟨rfl,hS7,hB7⟩;have k7:w7.cell? ⟨w5.heap.size,0,none⟩=some (.int .i64 c1):=(hS7.cell (p:=⟨w5.heap.size,0,none⟩) (by simp;omega) (by simp)).trans (by simp [go_sem,k6,hl6]);have l7:w7.cell? ⟨w6.heap.size,0,none⟩=some (.int .i64 c2):=(hS7.cell (p:=⟨w6.heap.size,0,none⟩) (by simp) (by simp)).trans (by simp [go_sem]);have hl7:w6.heap.size<w7.heap.size:=(by have:=hS7.size;simp at this;omega);have hm7:w5.heap.size<w7.heap.size:=(by omega);have HB7:=hid hB7;have HN9:=new_one (w7.alloc (.cells #[.int .i64 c3,.int .i64 d3] 31));clear hS7 hB7 HD6 k6)
   go_wp2_with fail
   go_ret
   exact ⟨rfl,HB7.out.alloc HB7.out.size _⟩
  ·have e2':(c2 != 0)=true:=by simpa using e2
   have e3':(c3 != 0)=true:=by simpa using e3
   have HE1:=hid e1
   clear e1 e2 e3 HCs
   go_upto_region 8 with (go_at_call 9;refine Calls.mono (HDo1.out _) ?_;rintro e w5 ⟨rfl,hD5,_⟩;have HD5:=hid (hD5.cons (x:=w5.heap.size) (w1:=w5.alloc (.cells #[.int .i64 c1,.int .i64 d1] 31)) (by go_grown) (Nat.le_refl _) (by simp));clear hD5)
   go_upto_region 9 with (go_at_call 9;refine Calls.mono (HDo2.out _ _ _ HD5.out) ?_;rintro e w6 ⟨rfl,hD6,hS6⟩;have k6:w6.cell? ⟨w5.heap.size,0,none⟩=some (.int .i64 c1):=(hS6.cell (p:=⟨w5.heap.size,0,none⟩) (by simp) (by simp)).trans (by simp [go_sem]);have hl6:w5.heap.size<w6.heap.size:=(by have:=hS6.size;simp at this;omega);have HD6:=hid (hD6.cons (x:=w6.heap.size) (w1:=w6.alloc (.cells #[.int .i64 c2,.int .i64 d2] 31)) (by go_grown) (Nat.le_refl _) (by simp));clear hD6 hS6 HD5)
   go_upto_region 10 with (go_at_call 9;refine Calls.mono (HDo3.out _ _ _ _ _ hcs HD6.out) ?_;rintro e w7 ⟨rfl,hS7,hB7⟩;have k7:w7.cell? ⟨w5.heap.size,0,none⟩=some (.int .i64 c1):=(hS7.cell (p:=⟨w5.heap.size,0,none⟩) (by simp;omega) (by simp)).trans (by simp [go_sem,k6,hl6]);have l7:w7.cell? ⟨w6.heap.size,0,none⟩=some (.int .i64 c2):=(hS7.cell (p:=⟨w6.heap.size,0,none⟩) (by simp) (by simp)).trans (by simp [go_sem]);have hl7:w6.heap.size<w7.heap.size:=(by have:=hS7.size;simp at this;omega);have hm7:w5.heap.size<w7.heap.size:=(by omega);have HB7:=hid hB7;have HN9:=new_one (w7.alloc (.cells #[.int .i64 c3,.int .i64 d3] 31));clear hS7 hB7 HD6 k6)
   have e1:=HE1.out
   subst e1
   go_wp2_with fail
   go_ret
   exact ⟨rfl,HB7.out.alloc HB7.out.size _⟩
  ·have HE1:=hid e1
   have HE2:=hid e2
   have HE3:=hid e3
   have HE4:=hid e4
   clear e1 e2 e3 e4 HCs
   go_upto_region 8 with (go_at_call 9;refine Calls.mono (HDo1.out _) ?_;rintro e w5 ⟨rfl,hD5,_⟩;have HD5:=hid (hD5.cons (x:=w5.heap.size) (w1:=w5.alloc (.cells #[.int .i64 c1,.int .i64 d1] 31)) (by go_grown) (Nat.le_refl _) (by simp));clear hD5)
   go_upto_region 9 with (go_at_call 9;refine Calls.mono (HDo2.out _ _ _ HD5.out) ?_;rintro e w6 ⟨rfl,hD6,hS6⟩;have k6:w6.cell? ⟨w5.heap.size,0,none⟩=some (.int .i64 c1):=(hS6.cell (p:=⟨w5.heap.size,0,none⟩) (by simp) (by simp)).trans (by simp [go_sem]);have hl6:w5.heap.size<w6.heap.size:=(by have:=hS6.size;simp at this;omega);have HD6:=hid (hD6.cons (x:=w6.heap.size) (w1:=w6.alloc (.cells #[.int .i64 c2,.int .i64 d2] 31)) (by go_grown) (Nat.le_refl _) (by simp));clear hD6 hS6 HD5)
   go_upto_region 10 with (go_at_call 9;refine Calls.mono (HDo3.out _ _ _ _ _ hcs HD6.out) ?_;rintro e w7 ⟨rfl,hS7,hB7⟩;have k7:w7.cell? ⟨w5.heap.size,0,none⟩=some (.int .i64 c1):=(hS7.cell (p:=⟨w5.heap.size,0,none⟩) (by simp;omega) (by simp)).trans (by simp [go_sem,k6,hl6]);have l7:w7.cell? ⟨w6.heap.size,0,none⟩=some (.int .i64 c2):=(hS7.cell (p:=⟨w6.heap.size,0,none⟩) (by simp) (by simp)).trans (by simp [go_sem]);have hl7:w6.heap.size<w7.heap.size:=(by have:=hS7.size;simp at this;omega);have hm7:w5.heap.size<w7.heap.size:=(by omega);have HB7:=hid hB7;have HN9:=new_one (w7.alloc (.cells #[.int .i64 c3,.int .i64 d3] 31));clear hS7 hB7 HD6 k6)
   have e2:=HE2.out
   subst e2
   go_upto_region 13 with (first | (go_at_call 7;refine Calls.mono HN9 ?_;rintro e w8 ⟨K9,rfl,h9,hp9,hb9⟩;have HC9:=HDo4.out _ w8 K9 (HB7.out.alloc HB7.out.size _) h9;clear HN9 h9 hb9) | (go_at_call 9;refine Calls.mono HC9 ?_;rintro e w9 ⟨rfl,hb9⟩;have k9:w9.cell? ⟨w5.heap.size,0,none⟩=some (.int .i64 c1):=((bcell hb9).1 _ _ (by simp;omega)).trans (by simp [go_sem,k7,hm7]);have l9:w9.cell? ⟨w7.heap.size,0,none⟩=some (.int .i64 c3):=((bcell hb9).1 _ _ (by simp)).trans (by simp [go_sem]);have hl9:w7.heap.size<w9.heap.size:=(by have:=hb9.size;simp at this;omega);have hm9:w5.heap.size<w9.heap.size:=(by omega);have HB9:Hid (Below w.heap.size w w9):=after (HB7.out.alloc HB7.out.size _) hb9 (by have:=HB7.out.size;simp;omega);clear hb9 HC9))
   have e1:=HE1.out
   have e3:=HE3.out
   have e4:=HE4.out
   subst e1
   subst e3
   go_wp2_with fail
   ·exfalso
    have:=HSum.out
    omega
   go_ret
   exact ⟨rfl,HB9.out.alloc HB9.out.size _⟩
open Go.ChangeShapes Go.WideShapes Go.ChangeAt Go.RowKit Go.Deep
theorem Tryz.ownDeskJoins:ownKnob Tryz.prog.godebug=none:=by kernel_rfl
theorem Tryz.laidOutDeskJoins:laidOutB Tryz.prog=true:=by kernel_rfl
theorem door_met (os:Os) (args:Array Value):laidMetH Tryz.prog Rows.deskJoinsRow.laid ((World.doorLaid Tryz.prog 62 os).forCall (fun _ _=>0) ⟨#[],args,[]⟩).memory:=
 laidMetH_of_parts3 (fuel:=8) (laidMet_of_run' 8 (by kernel_rfl) (by kernel_rfl)) (by kernel_rfl) (by kernel_rfl)
theorem deskJoins_lifted (os:Os) (started:os.Started) (H:Type) (enc:TypeId × Value->H):
 ReturnsInHanded {} Tryz.checked os 4 .any (fun w args=>(Rows.deskJoinsSpec.pre enc Tryz.prog Tryz.f4 [] false w args∧laidMetH Tryz.prog Rows.deskJoinsRow.laid w)∧sizedMet enc Tryz.prog Tryz.f4 (OpenSpec.ofChange Rows.deskJoinsSpec) false w args)
  (Rows.deskJoinsSpec.post enc Tryz.prog Tryz.f4 false true false false):=by
 refine returnsInHanded_of_change_and (C:=Tryz.checked) (X:=fun w _=>laidMetH Tryz.prog Rows.deskJoinsRow.laid w) (fun _ _ _ hh h=>h.of_heap hh) Tryz.ownDeskJoins started (by kernel_rfl) Tryz.func4
  (ChangeSpec.witness_shaped (enc:=enc) (C:=Tryz.checked) (os:=os) (X:=fun w _=>laidMetH Tryz.prog Rows.deskJoinsRow.laid w) false (World.doorLaid Tryz.prog 62 os) #[.slice none 0 0,.int .i64 0] 8 rfl (World.shaped_of_RefB (by kernel_rfl) (by kernel_rfl)) (by kernel_rfl) (by kernel_rfl) (by kernel_rfl) (door_met os _)) ?_
 intro W base args ds gs before hval0 hW _ hwt hL _
 have hval:∀(j:Nat) t v,Tryz.f4.params[j]?=some t->args[j]?=some v->Value.okWide Tryz.prog W .any base t v:=hval0
 have hW':=hW
 obtain ⟨p,q,hA0,hV,rfl,hfz,hnd⟩:=hW
 have hA:DataW.TrodAll enc Tryz.prog W 0 (fun _=>true) true Tryz.f4.params.toList args.toList ds p:=hA0
 rw [Tryz.params4] at hA hval hwt
 obtain ⟨v0,v1,d0,d1,p0,p1,rfl,rfl,rfl,h0,h1⟩:=trodAll_two hA
 obtain ⟨rfl,rfl⟩:=trodVars_none hV
 have k0:=h0
 have lt0:∀x∈p0,x.block<W.heap.size:=by obtain ⟨m,hm⟩:=k0;exact DataW.trod_lt m _ _ _ hm
 have k1:=h1
 have lt1:∀x∈p1,x.block<W.heap.size:=by obtain ⟨m,hm⟩:=k1;exact DataW.trod_lt m _ _ _ hm
 obtain ⟨a0,l0,c0,rfl⟩:=okWide_slice Tryz.underlying22 (hval 0 22 v0 rfl rfl)
 obtain ⟨xs,hx,hxl,hxc,hxn,hxd⟩:=open_lines h0
 have hsz:=sized_lines hwt (j:=0) (xs:=xs) (d:=d0) rfl rfl hxd
 obtain ⟨n,rfl,_,_,wn⟩:=open_int Tryz.underlying3 (hval 1 3 v1 rfl rfl) h1
 have hT:=tied_of_laid hL
 clear hA0 hval0
 refine (joins_walk a0 l0 c0 n xs W hT hx hxl hxc hxn hsz).mono fun e W' ⟨hret,hb⟩=>?_
 subst hret
 exact ⟨_,rfl,_,_,_,[],_,[],hW',trodAll_mk1 (shut_bool Tryz.underlying4 true),trodAll_mk2 (Below.trod Tryz.laidOutDeskJoins (by kernel_rfl) (of_decide_eq_true (by kernel_rfl)) k0 hb lt0) (Below.trod Tryz.laidOutDeskJoins (by kernel_rfl) (of_decide_eq_true (by kernel_rfl)) k1 hb lt1),rfl,hb.frame _,fun h=>by cases h⟩
theorem deskJoins_row:Rows.DeskJoinsSaid:=
 OpenClaim.holds_of_wide 4 Tryz.f4 rfl rfl rfl rfl rfl rfl rfl ⟨rfl,rfl,rfl,rfl,rfl⟩ rfl rfl rfl rfl rfl (by kernel_rfl) Tryz.func4 (by kernel_rfl)
  (of_decide_eq_true (by kernel_rfl)) (by unfold Func.isWrapper;first | (rw [if_pos (by decide+kernel)];kernel_rfl) | (rw [if_neg (by decide+kernel)];exact ⟨rfl,rfl⟩))
  (fun os started H enc _=>deskJoins_lifted os started H enc)
theorem deskJoins_holds:Rows.DeskJoinsCardSaid:=
 Claim7.holds_tied_plain_at .later [] [.data,.data,.data,.sentinel,.sentinel] true (true, "ec50a7657c8e2f3c41fae44cabbbe056cbbcf370acbafd49ce4bd35962b8d36d") true
  deskJoins_row (fun _ h=>by cases h) (by kernel_rfl) (fun _ h=>by cases h) deskJoins_row_tie rfl ⟨rfl,rfl⟩ (by kernel_rfl) rfl
  (fun f fn hf hfn=>by
    obtain rfl:f=4:=Option.some.inj ((show Tryz.prog.funcNamed "handsel/handsellaw.DeskJoins" =some 4 by kernel_rfl).symm.trans hf) |>.symm
    obtain rfl:fn=Tryz.f4:=(Option.some.inj (Tryz.func4.symm.trans hfn)).symm
    exact ⟨by kernel_rfl,fun j t ht=>by
     rw [Tryz.params4] at ht
     rcases j with _ | _ | j
     ·have h3:t=22:=by simpa using ht.symm
      subst h3
      exact (show Tryz.prog.wantsStandIn 22=false by kernel_rfl)
     ·have h3:t=3:=by simpa using ht.symm
      subst h3
      exact (show Tryz.prog.wantsStandIn 3=false by kernel_rfl)
     ·simp at ht⟩)
  (by kernel_rfl)
#print axioms deskJoins_holds
end Go.Proofs.YtbgnajcmhmpjlacGreatDoor
