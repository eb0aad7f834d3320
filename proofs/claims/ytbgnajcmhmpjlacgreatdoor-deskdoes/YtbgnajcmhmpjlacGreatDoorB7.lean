/- The document's desk tells of mails. -/
import Derived.Test.YtbgnajcmhmpjlacGreatDoorB0
import Derived.Test.YtbgnajcmhmpjlacGreatDoorA7
import Derived.Test.YtbgnajcmhmpjlacGreatDoorA8
import Derived.Test.YtbgnajcmhmpjlacGreatDoorA2
import Derived.Test.YtbgnajcmhmpjlacGreatDoorB6
import Derived.Test.YtbgnajcmhmpjlacGreatDoorB5
import Derived.Test.YtbgnajcmhmpjlacGreatDoorA3
import Derived.Test.YtbgnajcmhmpjlacGreatDoorA5
set_option maxRecDepth 100000
set_option maxHeartbeats 100000000
namespace Go.Proofs.YtbgnajcmhmpjlacGreatDoor
open Go.RowKit
def bxO (mk:Nat) (l:List UInt8):Obj:=.cells #[.string (bs l),.pointer (some ⟨mk,0,none⟩)] 52 (0,0)
theorem bs_append (a b:List UInt8):bs a++bs b=bs (a++b):=by
 have h:∀x y:ByteArray,x.data.toList=y.data.toList->x=y:=fun x y e=>by
  rw [ba_eq (w:=x) rfl,ba_eq (w:=y) rfl,e]
 apply h
 rw [Joins.data_append,bs_data,bs_data,bs_data]
theorem bx_cell {w:World} {r mk:Nat} {l:List UInt8} (h:w.heap[r]?=some (bxO mk l)):w.cell? ⟨r,0,none⟩=some (.string (bs l))∧w.cell? ⟨r,1,none⟩=some (.pointer (some ⟨mk,0,none⟩))∧r<w.heap.size∧∀k,w.frozen? ⟨r,k,none⟩=false:=by
 refine ⟨?_,?_,(Array.getElem?_eq_some_iff.1 h).1,fun k=>?_⟩ <;> simp [World.cell?,World.frozen?,h,bxO]
theorem bx_set {w:World} {r mk:Nat} {l l':List UInt8} (h:w.heap[r]?=some (bxO mk l)):(w.setCell ⟨r,0,none⟩ (.string (bs l'))).heap[r]?=some (bxO mk l'):=by
 simp [World.setCell,Array.getElem?_modify,h,bxO]
theorem esay_any {w:World} {r mk:Nat} {l:List UInt8} (x:List UInt8) (h:w.heap[r]?=some (bxO mk l)) (hR:Room (l.length+x.length+1)):
 Calls Tryz.prog 35 #[.pointer (some ⟨r,0,none⟩),.string (bs x)] w fun e w'=>e=.returned (.tuple #[])∧w'.heap[r]?=some (bxO mk (l++x++[10]))∧Save (fun k=>k=r) w w':=by
 obtain ⟨c0,_,hlt,hf⟩:=bx_cell h
 have f0:=hf 0
 have HK:=hid h
 have HE:Hid (bs l++(bs x++⟨#[10]⟩)=bs (l++x++[10])):=by
  have:(⟨#[10]⟩:ByteArray)=bs [10]:=rfl
  rw [this,bs_append,bs_append,List.append_assoc]
  exact rfl
 have HS:Hid ((bs l).size+((bs x).size+1)<=2000000):=by
  rw [bs_size,bs_size]
  unfold Room at hR
  exact hid (by omega)
 clear h hf hR
 go_enter Tryz.func35,Tryz.ntmps35
 go_wp2_with fail
 all_goals (try (exfalso;have:=HS.out;omega))
 go_end0
 rw [HE.out]
 exact ⟨rfl,bx_set HK.out,Save.setCell (O:=fun k=>k=r) (Save.refl _ w) (p:=⟨r,0,none⟩) (fun _=>rfl) _⟩
theorem enum_any (n:Int) (h0: -9223372036854775808<=n) (h1:n<=9223372036854775807) (w:World) (ht:Tied w):Calls Tryz.prog 34 #[.int .i64 n] w fun e w'=>e=.returned (.string (bs (Lib.itoa n)))∧Below w.heap.size w w':=by
 have HC:=itoa_any n h0 h1 w ht
 clear ht
 go_enter Tryz.func34,Tryz.ntmps34
 go_wp2_with (go_at_call 49;refine Calls.mono HC ?_;rintro e w1 ⟨rfl,hb1⟩)
 go_ret
 exact ⟨rfl,hb1⟩
def numF (ns:List Int):List UInt8:=(ns.map (fun n=>32 :: Lib.itoa n)).flatten
theorem numF_snoc (ns:List Int) (n:Int):numF (ns++[n])=numF ns++(32 :: Lib.itoa n):=by simp [numF]
theorem inter_flat:∀(x:List UInt8) (l:List (List UInt8)),((x :: l).intersperse [32]).flatten=x++(l.map (fun y=>32 :: y)).flatten
 | x,[]=>by simp
 | x,y :: r=>by
   have ih:=inter_flat y r
   simp only [List.intersperse,List.flatten_cons,List.map_cons] at ih ⊢
   rw [ih]
   simp
theorem sayN_flat (w:List UInt8) (ns:List Int):sayN w ns=w++numF ns++[10]:=by
 unfold sayN say numF
 rw [inter_flat,List.map_map]
 rfl
theorem numF_len {ns:List Int} (hs:∀n∈ns,Sm n):(numF ns).length<=8 * ns.length:=by
 have:=flat_short (l:=ns) (f:=fun n=>32 :: Lib.itoa n) (n:=8) (fun n hn=>by
  have:=itoa_short (hs n hn).1 (hs n hn).2
  simp only [List.length_cons]
  omega)
 exact this
theorem elist_any {w:World} {r mk:Nat} {l:List UInt8} (x:List UInt8) (ns:List Int) {la:Option Addr} {lc:Nat} (ht:Tied w) (h:w.heap[r]?=some (bxO mk l)) (hx:NumsAt w la ns) (hs:∀n∈ns,Sm n) (hn:ns.length<100) (hxl:x.length<100) (hR:Room (l.length+2000)):
 Calls Tryz.prog 40 #[.pointer (some ⟨r,0,none⟩),.string (bs x),.slice la ns.length lc] w fun e w'=>e=.returned (.tuple #[])∧w'.heap[r]?=some (bxO mk (l++sayN x ns))∧Save (fun k=>k=r) w w':=by
 have HT:Hid (∀W:World,Below w.heap.size w W->Tied W):=fun W hW=>ht.below hW
 have HX:=hid hx
 have HS:=hid hs
 have HNl:=fun k=>numF_len (ns:=ns.take k) (fun n hn=>hs n (List.mem_of_mem_take hn))
 have HLn:Hid (∀k,(x++numF (ns.take k)).length<1000):=fun k=>by
  have e1:=HNl k
  have e2:(ns.take k).length<=ns.length:=by rw [List.length_take];omega
  rw [List.length_append]
  omega
 have HK:=hid h
 have HR:=hid hR
 obtain ⟨_,_,hlt,_⟩:=bx_cell h
 obtain ⟨ll,hll⟩:∃ll,ns.length=ll:=⟨_,rfl⟩
 rw [hll] at hn ⊢
 clear h ht hx hs HNl hR
 go_enter Tryz.func40,Tryz.ntmps40
 go_wp2_with fail
 go_loopg [1,6] ll (fun g s i wr=>∃k:Nat,k<=ll∧g=ll - k∧i=.int .i64 k∧s=.string (bs (x++numF (ns.take k)))∧Below w.heap.size w wr)
 case atStart=>exact ⟨0,by omega,rfl,rfl,by simp [numF],by go_grown⟩
 case round=>
  obtain ⟨k,hk,rfl,rfl,rfl,hB⟩:=hrel
  have HB:=hid hB
  by_cases hlk:k<ll
  ·obtain ⟨n,hkn⟩:∃n,ns[k]?=some n:=⟨_,List.getElem?_eq_getElem (by omega)⟩
   obtain ⟨bl,ol,rfl,hbl,hcl⟩:=HX.out k n hkn
   have hsn:=HS.out n (List.mem_of_getElem? hkn)
   have HI:Hid (∀W:World,Below w.heap.size w W->Calls Tryz.prog 34 #[.int .i64 n] W fun e w'=>e=.returned (.string (bs (Lib.itoa n)))∧Below W.heap.size W w'):=fun W hW=>enum_any n hsn.i64.1 hsn.i64.2 W (HT.out W hW)
   have j0:(0:Int)<=(k:Int):=by omega
   have j1:(k:Int)<(ll:Int):=by omega
   have j2:(ll:Int)<100:=by omega
   have hcl':wr.cell? ⟨bl,ol+k,none⟩=some (.int .i64 n):=(hB.cell (p:=⟨bl,ol+k,none⟩) hbl).trans hcl
   have HE:Hid (bs (x++numF (ns.take k))++(⟨#[32]⟩++bs (Lib.itoa n))=bs (x++numF (ns.take (k+1)))):=by
    have e0:(⟨#[32]⟩:ByteArray)=bs [32]:=rfl
    have e1:ns.take (k+1)=ns.take k++[n]:=by rw [List.take_add_one,hkn];rfl
    rw [e0,bs_append,bs_append,e1,numF_snoc,List.append_assoc]
    exact rfl
   have HSm:Hid ((bs (x++numF (ns.take k))).size+(1+(bs (Lib.itoa n)).size)<=2000000):=by
    have e1:=HLn.out k
    have e2:=itoa_short hsn.1 hsn.2
    rw [bs_size,bs_size]
    exact hid (by omega)
   clear hcl hsn hB
   go_wp2_with (go_at_call 34;refine Calls.mono (HI.out _ HB.out) ?_;rintro e w1 ⟨rfl,hb1⟩;have HB1:Hid (Below w.heap.size w w1):=after HB.out hb1 HB.out.size;clear hb1)
   all_goals (try (exfalso;have:=HSm.out;omega))
   go_roundg (ll - (k+1))
   case measure=>omega
   case rel=>exact ⟨k+1,by omega,rfl,by simp,by rw [HE.out],HB1.out⟩
  ·obtain rfl:k=ll:=by omega
   have j1:¬(k:Int)<(k:Int):=by omega
   have HE:Hid (x++numF (ns.take k)=x++numF ns):=by rw [List.take_of_length_le (by omega)];exact rfl
   have HC:=esay_any (x++numF (ns.take k)) (mk:=mk) (l:=l) (w:=wr) ((hB.block r hlt).trans HK.out) (HR.out.le (by have:=HLn.out k;omega))
   clear hB
   go_wp2_with (go_at_call 35;refine Calls.mono HC ?_;rintro e w7 ⟨rfl,k1,k2⟩;have HK7:=hid (And.intro k1 ((Save.of_below HB.out).trans k2 (fun _ _ hj=>hj)));clear k1 k2)
   go_returns
   refine ⟨rfl,?_,HK7.out.2⟩
   have e1:=HK7.out.1
   rw [HE.out] at e1
   rw [sayN_flat,e1]
   simp only [List.append_assoc]
theorem words_step {s:List UInt8} {k:Nat} {c:UInt8} (h:s[k]?=some c) (acc:List UInt8):wordsR (s.drop k) acc=if c=32 then (if acc=[] then wordsR (s.drop (k+1)) [] else acc :: wordsR (s.drop (k+1)) []) else wordsR (s.drop (k+1)) (acc++[c]):=by
 have e:s.drop k=c :: s.drop (k+1):=drop_cons h
 rw [e]
 rfl
theorem ewords_any (s:ByteArray) (hs:s.size<=9000) (w:World):Calls Tryz.prog 32 #[.string s] w fun e w'=>(∃(v:Value) (xs:List ByteArray),e=.returned v∧w'.ownsRow w.heap.size 9 1 v xs.length (xs.map Value.string)∧xs.map (·.data.toList)=wordsR s.data.toList [])∧Below w.heap.size w w':=by
 obtain ⟨i0,hi,hz0,hz1,hz2⟩:=info_parts infoStr
 obtain ⟨n,hn⟩:∃n,s.size=n:=⟨_,rfl⟩
 have hn':s.data.toList.length=n:=hn
 have HN:=hid hn'
 have HS:Hid (n<=9000):=by rw [<-hn];exact hid hs
 clear hs hn'
 go_enter Tryz.func32,Tryz.ntmps32
 go_wp2_with fail
 go_loopg [3,4,5] (n+1) (fun g v a i wr=>∃(k:Nat) (acc:List UInt8) (xs:List ByteArray),k<=n+1∧g=n+1 - k∧i=.int .i64 k∧a=.string (bs acc)∧Hid (acc.length<=k∧xs.length<=k∧(k<=n->xs.map (·.data.toList)++wordsR (s.data.toList.drop k) acc=wordsR s.data.toList [])∧(k=n+1->xs.map (·.data.toList)=wordsR s.data.toList []))∧wr.ownsRow w.heap.size 9 1 v xs.length (xs.map Value.string)∧Below w.heap.size w wr)
 case atStart=>exact ⟨0,[],[],by omega,rfl,rfl,rfl,hid ⟨by simp,by simp,fun _=>by simp,fun e=>by omega⟩,World.ownsRow_nil _ _ _ _,by go_grown⟩
 case round=>
  obtain ⟨k,acc,xs,hk,rfl,rfl,rfl,HI,hR,hB⟩:=hrel
  have HR:Hid (wr.ownsRow w.heap.size 9 1 u3 xs.length (xs.map Value.string)):=hR
  have HB:=hid hB
  by_cases hlt:k<n
  ·obtain ⟨c,hc⟩:∃c,s.data.toList[k]?=some c:=⟨_,List.getElem?_eq_getElem (by rw [HN.out];omega)⟩
   have hkz:k<s.size:=by omega
   have hck:s[k]'hkz=c:=by
    have e1:=hc
    rw [List.getElem?_eq_getElem (by rw [HN.out];omega)] at e1
    have e2:=Option.some.inj e1
    rw [<-e2]
    rfl
   have j1:(k:Int)<(n:Int):=by omega
   have j0:(0:Int)<=(k:Int):=by omega
   have j3:(k:Int)<=(n:Int):=by omega
   have hr1:IntKind.i64.wrap ((k:Int)+1)=((k+1:Nat):Int):=by have:=HS.out;rw [IntKind.wrap_i64];omega
   have j4:((k+1:Nat):Int)<=(n:Int):=by omega
   have j5:(k:Int)<=((k+1:Nat):Int):=by omega
   have HSt:=hid (words_step hc acc)
   clear hR hB hc
   by_cases h32:c=32
   ·have hq:(c.toNat:Int)=32:=by rw [h32];rfl
    have hq2:c.toNat=32:=by rw [h32];rfl
    rw [h32,if_pos rfl] at HSt
    by_cases ha:acc=[]
    ·subst ha
     rw [if_pos rfl] at HSt
     have hne:((bs []).toList == [])=true:=by rw [ByteArray.toList_eq,bs_data];rfl
     have hne2:(bs []).toList=[]:=by rw [ByteArray.toList_eq,bs_data]
     go_wp2_with fail
     go_roundg (n+1 - (k+1))
     case measure=>omega
     case rel=>exact ⟨k+1,[],xs,by omega,rfl,by simp,rfl,hid ⟨by simp,by have:=HI.out.2.1;omega,fun _=>by rw [<-HSt.out];exact HI.out.2.2.1 (by omega),fun e=>by omega⟩,HR.out,HB.out⟩
    ·rw [if_neg ha] at HSt
     have hne:((bs acc).toList == [])=false:=by rw [ByteArray.toList_eq,bs_data];exact beq_eq_false_iff_ne.2 ha
     have hne2:¬(bs acc).toList=[]:=by rw [ByteArray.toList_eq,bs_data];exact ha
     have hne3:(bs acc).toList.isEmpty=false:=by rw [ByteArray.toList_eq,bs_data];simpa using ha
     go_wp2_with (at_builtin;refine list_append_two rfl (.tmp 31) (.tmp 33) 22 rfl w.heap.size 9 i0 (.string ⟨#[]⟩) 1 16 Tryz.underlying22 hi hz0 hz1 hz2 rfl (by decide) u3 xs.length _ rfl (HR.out.alloc _) ⟨wr.heap.size,0,none⟩ 1 1 [.string (bs acc)] rfl rfl (str_new _ (by simp)) str_cell (by have:=HI.out.2.1;have:=HS.out;unfold maxLen;omega) (by have:=HI.out.2.1;have:=HS.out;omega) (by have:=HB.out.size;simp;omega) (by decide) ?_;intro v7 w7 hown7 hgrow7 _;have HO7:=hid hown7;have HB7:Hid (Below w.heap.size w w7):=own_below (HR.out.alloc _) hgrow7 (HB.out.alloc HB.out.size _) (by have:=HB.out.size;simp;omega) (Nat.le_refl _);clear hown7 hgrow7)
     go_roundg (n+1 - (k+1))
     case measure=>omega
     case rel=>exact ⟨k+1,[],xs++[bs acc],by omega,rfl,by simp,rfl,hid ⟨by simp,by have:=HI.out.2.1;simp;omega,fun _=>by rw [List.map_append,List.append_assoc];have e1:=HI.out.2.2.1 (by omega);rw [HSt.out] at e1;exact e1,fun e=>by omega⟩,by rw [List.map_append,List.length_append];exact HO7.out,HB7.out⟩
   ·have hq2:¬c.toNat=32:=fun e=>h32 (UInt8.toNat_inj.1 (by rw [e];rfl))
    have hq:¬(c.toNat:Int)=32:=by omega
    rw [if_neg h32] at HSt
    have HE:Hid (bs acc++s.extract k (k+1)=bs (acc++[c])):=by
     have e1:s.extract k (k+1)=bs [c]:=by
      have e2:=Lib.extract_data s k (k+1)
      rw [ba_eq e2,show k+1 - k=1 by omega,drop_cons (x:=c) (by rw [List.getElem?_eq_getElem (by rw [HN.out];omega),<-hck];rfl)]
      rfl
     rw [e1,bs_append]
     exact rfl
    have HSm:Hid ((bs acc).size+1<=2000000):=by
     have e1:=HI.out.1
     have e2:=HS.out
     rw [bs_size]
     exact hid (by omega)
    go_wp2_with fail
    all_goals (try (exfalso;have:=HSm.out;omega))
    go_roundg (n+1 - (k+1))
    case measure=>omega
    case rel=>exact ⟨k+1,acc++[c],xs,by omega,rfl,by simp,by rw [HE.out],hid ⟨by have:=HI.out.1;simp;omega,by have:=HI.out.2.1;omega,fun _=>by rw [<-HSt.out];exact HI.out.2.2.1 (by omega),fun e=>by omega⟩,HR.out,HB.out⟩
  ·by_cases hkn:k=n
   ·subst hkn
    have j1:¬(k:Int)<(k:Int):=by omega
    have j3:(k:Int)<=(k:Int):=by omega
    have hr1:IntKind.i64.wrap ((k:Int)+1)=((k+1:Nat):Int):=by have:=HS.out;rw [IntKind.wrap_i64];omega
    have HL:Hid (xs.map (·.data.toList)++(if acc=[] then [] else [acc])=wordsR s.data.toList []):=by
     have e1:=HI.out.2.2.1 (Nat.le_refl _)
     rw [List.drop_eq_nil_of_le (by rw [HN.out];omega)] at e1
     exact e1
    clear hR hB
    by_cases ha:acc=[]
    ·subst ha
     rw [if_pos rfl] at HL
     have hne:((bs []).toList == [])=true:=by rw [ByteArray.toList_eq,bs_data];rfl
     have hne2:(bs []).toList=[]:=by rw [ByteArray.toList_eq,bs_data]
     go_wp2_with fail
     go_roundg (k+1 - (k+1))
     case measure=>omega
     case rel=>exact ⟨k+1,[],xs,by omega,rfl,by simp,rfl,hid ⟨by simp,by have:=HI.out.2.1;omega,fun e=>by omega,fun _=>by have e1:=HL.out;simpa using e1⟩,HR.out,HB.out⟩
    ·rw [if_neg ha] at HL
     have hne:((bs acc).toList == [])=false:=by rw [ByteArray.toList_eq,bs_data];exact beq_eq_false_iff_ne.2 ha
     have hne2:¬(bs acc).toList=[]:=by rw [ByteArray.toList_eq,bs_data];exact ha
     have hne3:(bs acc).toList.isEmpty=false:=by rw [ByteArray.toList_eq,bs_data];simpa using ha
     go_wp2_with (at_builtin;refine list_append_two rfl (.tmp 31) (.tmp 33) 22 rfl w.heap.size 9 i0 (.string ⟨#[]⟩) 1 16 Tryz.underlying22 hi hz0 hz1 hz2 rfl (by decide) u3 xs.length _ rfl (HR.out.alloc _) ⟨wr.heap.size,0,none⟩ 1 1 [.string (bs acc)] rfl rfl (str_new _ (by simp)) str_cell (by have:=HI.out.2.1;have:=HS.out;unfold maxLen;omega) (by have:=HI.out.2.1;have:=HS.out;omega) (by have:=HB.out.size;simp;omega) (by decide) ?_;intro v7 w7 hown7 hgrow7 _;have HO7:=hid hown7;have HB7:Hid (Below w.heap.size w w7):=own_below (HR.out.alloc _) hgrow7 (HB.out.alloc HB.out.size _) (by have:=HB.out.size;simp;omega) (Nat.le_refl _);clear hown7 hgrow7)
     go_roundg (k+1 - (k+1))
     case measure=>omega
     case rel=>exact ⟨k+1,[],xs++[bs acc],by omega,rfl,by simp,rfl,hid ⟨by simp,by have:=HI.out.2.1;simp;omega,fun e=>by omega,fun _=>by rw [List.map_append];exact HL.out⟩,by rw [List.map_append,List.length_append];exact HO7.out,HB7.out⟩
   ·obtain rfl:k=n+1:=by omega
    have j3:¬((n+1:Nat):Int)<=(n:Int):=by omega
    have HL:=hid (HI.out.2.2.2 rfl)
    clear hR hB
    go_wp2_with fail
    go_ret
    exact ⟨⟨_,rfl,xs,HR.out,HL.out⟩,HB.out⟩
theorem nlB_hit {xs:List ByteArray} {k:Nat} {x:ByteArray} (hk:xs[k]?=some x) (hx:hasNl x=true) (hne:∀j y,j<k->xs[j]?=some y->hasNl y=false):nlB xs=(k:Int):=by
 have hl:=(List.getElem?_eq_some_iff.1 hk).1
 have:=Lib.idxBy_hit (fun _ y=>hasNl y) xs xs.length k default hl (Nat.le_refl _) (by
  rw [List.getElem!_eq_getElem?_getD,hk]
  exact hx) (fun j hj=>by
  rw [List.getElem!_eq_getElem?_getD,List.getElem?_eq_getElem (by omega)]
  exact hne j _ hj (List.getElem?_eq_getElem (by omega)))
 rw [List.take_length] at this
 exact this
theorem nlB_miss {xs:List ByteArray} (hne:∀(j:Nat) y,xs[j]?=some y->hasNl y=false):nlB xs= -1:=by
 have:=Lib.idxBy_miss (fun _ y=>hasNl y) xs xs.length default (fun j hj=>by
  rw [List.getElem!_eq_getElem?_getD,List.getElem?_eq_getElem hj]
  exact hne j _ (List.getElem?_eq_getElem hj))
 rw [List.take_length] at this
 exact this
theorem hasNl_at {x:ByteArray} {m:Nat} (h:x.data.toList[m]?=some 10):hasNl x=true:=by
 unfold hasNl
 exact List.contains_iff_mem.2 (List.mem_of_getElem? h)
theorem hasNl_no {x:ByteArray} (h:∀j:Nat,x.data.toList[j]? ≠ some 10):hasNl x=false:=by
 unfold hasNl
 rw [Bool.eq_false_iff]
 intro e
 obtain ⟨j,hj⟩:=List.mem_iff_getElem?.1 (List.contains_iff_mem.1 e)
 exact h j hj
structure T2 (w0:World) (w:World) (p b m:Nat) (c:Nat->Nat) (p' b' m':Nat) (c':Nat->Nat) (ws:Nat->Int) (T T':Twn):Prop where
 lv:Lv (Pr (TnIn p b m c ws T) (TnIn p' b' m' c' ws T')) w0 (fun k=>k∈([]:List Nat)) w
 full:Full ws T
 full':Full ws T'
 ok:∀s:Nat,s<3->newOk (s:Int) ws=true
theorem mnew_lv {ws:Nat->Int} (hok:OkT ws) (w:World):Calls Tryz.prog 13 #[wldV ws] w fun e w'=>∃pm,e=.returned (.pointer (some ⟨pm,0,none⟩))∧Lv (MkIn pm ws (T00 ws)) w (fun k=>k∈([]:List Nat)) w'∧Below w.heap.size w w':=by
 refine (mnew_any ws w).mono ?_
 rintro e w' ⟨h,hb⟩
 obtain ⟨pm,O,he,hI,hO⟩:=h.1 hok
 exact ⟨pm,he,Lv.new hI hO hb,hb⟩
theorem efault_any (xs:List ByteArray) (la:Option Addr) (lc:Nat) (w:World) (hx:StrsAt w la xs) (hl:xs.length<1000) (hs:∀x∈xs,x.size<=9000):Calls Tryz.prog 10 #[.slice la xs.length lc] w fun e w'=>e=.returned (.agg #[.int .i64 (chkL xs).1,.int .i64 (chkL xs).2])∧Below w.heap.size w w':=by
 have HX:=hid hx
 have HS:=hid hs
 obtain ⟨ll,hll⟩:∃ll,xs.length=ll:=⟨_,rfl⟩
 have HLl:=hid hll
 have HL:Hid (ll<1000):=by rw [<-hll];exact hid hl
 rw [hll]
 clear hx hs hl hll
 by_cases h1:150<ll
 ·have j1:(150:Int)<(ll:Int):=by omega
  have HE:Hid (chkL xs=(3,-1)):=by unfold chkL;rw [if_pos (by rw [HLl.out];exact h1)];exact rfl
  rw [HE.out]
  clear h1
  go_enter Tryz.func10,Tryz.ntmps10
  go_wp2_with (go_at_call 18;refine Calls.mono (fF_any _ _ _) ?_;rintro e w1 ⟨rfl,hb1⟩;have hB1:Hid (Below w.heap.size w w1):=after (by go_grown) hb1 (by simp);have k0:w1.cell? ⟨w.heap.size,0,none⟩=some (.int .i64 0):=((bcell hb1).1 _ _ (by simp)).trans (by simp [go_sem]);have k1:w1.cell? ⟨w.heap.size,1,none⟩=some (.int .i64 0):=((bcell hb1).1 _ _ (by simp)).trans (by simp [go_sem]);have f0:∀k,w1.frozen? ⟨w.heap.size,k,none⟩=false:=loose w.heap.size hb1 (by simp) (by simp [go_sem]);clear hb1)
  obtain ⟨z0,z1⟩:=set2 (u:=.int .i64 3) (v:=.int .i64 (-1)) k0 k1
  (try simp only [Exit.inBlock,Exit.then])
  exact bodyPost_ret (v:=.agg #[.int .i64 3,.int .i64 (-1)]) (by simp [results,Tryz.results10,go_sem,z0,z1]) rfl ⟨rfl,below2 hB1.out (Nat.le_refl _)⟩
 ·have j1:¬(150:Int)<(ll:Int):=by omega
  have H150:Hid (¬150<xs.length):=by rw [HLl.out];exact hid h1
  clear h1
  go_enter Tryz.func10,Tryz.ntmps10
  go_wp2_with fail
  go_loopg [3] ll (fun g i wr=>∃k:Nat,k<=ll∧g=ll - k∧i=.int .i64 k∧Hid (∀j y,j<k->xs[j]?=some y->hasNl y=false)∧wr=w.alloc (.cells #[.int .i64 0,.int .i64 0] 31))
  case atStart=>exact ⟨0,by omega,rfl,rfl,hid (fun j y hj=>by omega),rfl⟩
  case round=>
   obtain ⟨k,hk,rfl,rfl,HI,rfl⟩:=hrel
   by_cases hlt:k<ll
   ·obtain ⟨x,hkx⟩:∃x,xs[k]?=some x:=⟨_,List.getElem?_eq_getElem (by rw [HLl.out];omega)⟩
    obtain ⟨bl,ol,rfl,hbl,y0⟩:=HX.out k x hkx
    have y1:(w.alloc (.cells #[.int .i64 0,.int .i64 0] 31)).cell? ⟨bl,ol+k,none⟩=some (.string x):=by simp [go_sem,y0,hbl]
    have j0:(0:Int)<=(k:Int):=by omega
    have j2:(k:Int)<(ll:Int):=by omega
    have hr1:IntKind.i64.wrap ((k:Int)+1)=((k+1:Nat):Int):=by have:=HL.out;rw [IntKind.wrap_i64];omega
    obtain ⟨n,hn⟩:∃n,x.size=n:=⟨_,rfl⟩
    have HN:Hid (x.data.toList.length=n∧n<=9000):=hid ⟨hn,by rw [<-hn];exact HS.out x (List.mem_of_getElem? hkx)⟩
    have HKx:=hid hkx
    clear y0 hkx HX HS
    go_wp2_with fail
    go_loopg [4] n (fun g i wr=>∃m:Nat,m<=n∧g=n - m∧i=.int .i64 m∧Hid (∀j,j<m->x.data.toList[j]? ≠ some 10)∧wr=w.alloc (.cells #[.int .i64 0,.int .i64 0] 31))
    case atStart=>exact ⟨0,by omega,rfl,rfl,hid (fun j hj=>by omega),rfl⟩
    case round=>
     obtain ⟨m,hm,rfl,rfl,HJ,rfl⟩:=hrel
     by_cases hlm:m<n
     ·obtain ⟨c,hc⟩:∃c,x.data.toList[m]?=some c:=⟨_,List.getElem?_eq_getElem (by rw [HN.out.1];omega)⟩
      have hmz:m<x.size:=by omega
      have hck:x[m]'hmz=c:=by
       have e1:=hc
       rw [List.getElem?_eq_getElem (by rw [HN.out.1];omega)] at e1
       have e2:=Option.some.inj e1
       rw [<-e2]
       rfl
      have i0:(0:Int)<=(m:Int):=by omega
      have i1:(m:Int)<(n:Int):=by omega
      have hr2:IntKind.i64.wrap ((m:Int)+1)=((m+1:Nat):Int):=by have:=HN.out.2;rw [IntKind.wrap_i64];omega
      have HCc:=hid hc
      clear hc
      by_cases h10:c=10
      ·have q1:(c.toNat:Int)=10:=by rw [h10];rfl
       have q2:c.toNat=10:=by rw [h10];rfl
       have HE:Hid (chkL xs=(12,(k:Int))):=by
        have e1:=nlB_hit HKx.out (hasNl_at (by rw [HCc.out,h10])) (fun j y hj hy=>HI.out j y hj hy)
        unfold chkL
        rw [if_neg H150.out,e1,if_pos (by omega)]
        exact rfl
       clear h10
       go_wp2_with (go_at_call 18;refine Calls.mono (fF_any _ _ _) ?_;rintro e w1 ⟨rfl,hb1⟩;have hB1:Hid (Below w.heap.size w w1):=after (by go_grown) hb1 (by simp);have k0:w1.cell? ⟨w.heap.size,0,none⟩=some (.int .i64 0):=((bcell hb1).1 _ _ (by simp)).trans (by simp [go_sem]);have k1:w1.cell? ⟨w.heap.size,1,none⟩=some (.int .i64 0):=((bcell hb1).1 _ _ (by simp)).trans (by simp [go_sem]);have f0:∀k,w1.frozen? ⟨w.heap.size,k,none⟩=false:=loose w.heap.size hb1 (by simp) (by simp [go_sem]);clear hb1)
       obtain ⟨z0,z1⟩:=set2 (u:=.int .i64 12) (v:=.int .i64 k) k0 k1
       (try simp only [Exit.inBlock,Exit.then])
       exact bodyPost_ret (v:=.agg #[.int .i64 12,.int .i64 k]) (by simp [results,Tryz.results10,go_sem,z0,z1]) rfl ⟨by rw [HE.out],below2 hB1.out (Nat.le_refl _)⟩
      ·have q2:¬c.toNat=10:=fun e=>h10 (UInt8.toNat_inj.1 (by rw [e];rfl))
       have q1:¬(c.toNat:Int)=10:=by omega
       have HC10:=hid h10
       clear h10
       go_wp2_with fail
       go_roundg (n - (m+1))
       case measure=>omega
       case rel=>exact ⟨m+1,by omega,rfl,by simp,hid (fun j hj e=>by
        by_cases q:j=m
        ·subst q
         rw [HCc.out] at e
         exact HC10.out (Option.some.inj e)
        ·exact HJ.out j (by omega) e),rfl⟩
     ·obtain rfl:m=n:=by omega
      have i1:¬(m:Int)<(m:Int):=by omega
      go_wp2_with fail
      go_roundg (ll - (k+1))
      case measure=>omega
      case rel=>exact ⟨k+1,by omega,rfl,by simp,hid (fun j y hj hy=>by
       by_cases q:j=k
       ·subst q
        rw [HKx.out] at hy
        cases hy
        exact hasNl_no (fun i e=>by
         have:=(List.getElem?_eq_some_iff.1 e).1
         exact HJ.out i (by rw [HN.out.1] at this;omega) e)
       ·exact HI.out j y (by omega) hy),rfl⟩
   ·obtain rfl:k=ll:=by omega
    have j2:¬(k:Int)<(k:Int):=by omega
    have HE:Hid (chkL xs=(0,0)):=by
     have e1:=nlB_miss (xs:=xs) (fun j y hy=>HI.out j y (by have:=(List.getElem?_eq_some_iff.1 hy).1;rw [HLl.out] at this;exact this) hy)
     unfold chkL
     rw [if_neg H150.out,e1,if_neg (by omega)]
     exact rfl
    go_wp2_with fail
    go_returns
    rw [HE.out]
    exact ⟨rfl,by go_grown⟩
def yesB (b:Bool):List UInt8:=if b then [32,121,101,115] else []
theorem sayM_flat {x:Ml}:sayM x=kindW x.kind++([32]++Lib.itoa x.deal++[32]++Lib.itoa x.shop++[32]++Lib.itoa x.c++[32]++Lib.itoa x.d)++yesB x.yes++[10]:=by
 unfold sayM say yesB
 cases x.yes
 ·simp
 ·simp [bytes]
  decide
theorem emails_any {w:World} {r mk:Nat} {l:List UInt8} (ms:List Ml) {ga:Option Addr} {gc:Nat} (h:w.heap[r]?=some (bxO mk l)) (hm:MailsAt w ga ms) (hz:∀a,ga=some a->a.block ≠ r) (hs:∀x∈ms,MTell x) (hl:ms.length<=40) (hR:Room (l.length+5000)) (hb:∀W,Save (fun k=>k=r) w W->Tied W):
 Calls Tryz.prog 43 #[.pointer (some ⟨r,0,none⟩),.slice ga ms.length gc] w fun e w'=>e=.returned (.tuple #[])∧w'.heap[r]?=some (bxO mk (l++sayMails ms))∧Save (fun k=>k=r) w w':=by
 have HT:=hid hb
 have HM:=hid hm
 have HZ:=hid hz
 have HS:=hid hs
 have HR:Hid (∀k,Room ((l++((ms.take k).map sayM).flatten).length+2000)):=fun k=>by
  have h1:=flat_short (l:=ms.take k) (f:=sayM) (n:=49) (fun x hx=>sayM_short (hs x (List.mem_of_mem_take hx)))
  have h2:(ms.take k).length<=40:=by rw [List.length_take];omega
  refine hR.le ?_
  rw [List.length_append]
  omega
 have HK:=hid h
 obtain ⟨ll,hll⟩:∃ll,ms.length=ll:=⟨_,rfl⟩
 rw [hll] at hl ⊢
 clear h hm hz hs hR hb
 go_enter Tryz.func43,Tryz.ntmps43
 go_wp2_with fail
 go_loopg [4] ll (fun g i wr=>∃k:Nat,k<=ll∧g=ll - k∧i=.int .i64 k∧Hid (wr.heap[r]?=some (bxO mk (l++((ms.take k).map sayM).flatten))∧Save (fun k=>k=r) w wr))
 case atStart=>exact ⟨0,by omega,rfl,rfl,hid ⟨by simpa using HK.out,Save.refl _ _⟩⟩
 case round=>
  obtain ⟨k,hk,rfl,rfl,HV⟩:=hrel
  by_cases hlt:k<ll
  ·obtain ⟨x,hkx⟩:∃x,ms[k]?=some x:=⟨_,List.getElem?_eq_getElem (by omega)⟩
   obtain ⟨bl,ol,rfl,hbl,hcl⟩:=HM.out k x hkx
   have hx:=HS.out x (List.mem_of_getElem? hkx)
   have hcell:∀j v,x.cells[j]?=some v->wr.cell? ⟨bl,ol+k * 6+j,none⟩=some v:=fun j v hj=>(HV.out.2.cell (p:=⟨bl,ol+k * 6+j,none⟩) hbl (fun e=>HZ.out ⟨bl,ol,none⟩ rfl e)).trans (hcl j v hj)
   have y0:wr.cell? ⟨bl,ol+k * 6,none⟩=some (.int .i64 x.kind):=hcell 0 _ rfl
   have y1:wr.cell? ⟨bl,ol+k * 6+1,none⟩=some (.int .i64 x.deal):=hcell 1 _ rfl
   have y2:wr.cell? ⟨bl,ol+k * 6+2,none⟩=some (.int .i64 x.shop):=hcell 2 _ rfl
   have y3:wr.cell? ⟨bl,ol+k * 6+3,none⟩=some (.int .i64 x.c):=hcell 3 _ rfl
   have y4:wr.cell? ⟨bl,ol+k * 6+4,none⟩=some (.int .i64 x.d):=hcell 4 _ rfl
   have y5:wr.cell? ⟨bl,ol+k * 6+5,none⟩=some (.bool x.yes):=hcell 5 _ rfl
   have j0:(0:Int)<=(k:Int):=by omega
   have j1:(k:Int)<(ll:Int):=by omega
   have j2:(ll:Int)<100:=by omega
   have hblr:bl<wr.heap.size:=Nat.lt_of_lt_of_le hbl HV.out.2.size
   have HN:Hid (∀(n:Int),Sm n->∀W:World,Below wr.heap.size wr W->Calls Tryz.prog 34 #[.int .i64 n] W fun e w'=>e=.returned (.string (bs (Lib.itoa n)))∧Below wr.heap.size wr w'):=fun n hn W hW=>by
    have hT:Tied W:=(HT.out wr HV.out.2).below hW
    refine (enum_any n hn.i64.1 hn.i64.2 W hT).mono ?_
    rintro e w' ⟨rfl,hb⟩
    exact ⟨rfl,after hW hb hW.size⟩
   have HN1:Hid (∀W:World,Below wr.heap.size wr W->Calls Tryz.prog 34 #[.int .i64 x.deal] W fun e w'=>e=.returned (.string (bs (Lib.itoa x.deal)))∧Below wr.heap.size wr w'):=HN.out _ hx.deal
   have HN2:Hid (∀W:World,Below wr.heap.size wr W->Calls Tryz.prog 34 #[.int .i64 x.shop] W fun e w'=>e=.returned (.string (bs (Lib.itoa x.shop)))∧Below wr.heap.size wr w'):=HN.out _ hx.shop
   have HN3:Hid (∀W:World,Below wr.heap.size wr W->Calls Tryz.prog 34 #[.int .i64 x.c] W fun e w'=>e=.returned (.string (bs (Lib.itoa x.c)))∧Below wr.heap.size wr w'):=HN.out _ hx.c
   have HN4:Hid (∀W:World,Below wr.heap.size wr W->Calls Tryz.prog 34 #[.int .i64 x.d] W fun e w'=>e=.returned (.string (bs (Lib.itoa x.d)))∧Below wr.heap.size wr w'):=HN.out _ hx.d
   have z1:(bs (Lib.itoa x.deal)).size<=7:=itoa_short hx.deal.1 hx.deal.2
   have z2:(bs (Lib.itoa x.shop)).size<=7:=itoa_short hx.shop.1 hx.shop.2
   have z3:(bs (Lib.itoa x.c)).size<=7:=itoa_short hx.c.1 hx.c.2
   have z4:(bs (Lib.itoa x.d)).size<=7:=itoa_short hx.d.1 hx.d.2
   have HKd:=hid hx.kind
   have HEt:Hid (((ms.take (k+1)).map sayM).flatten=((ms.take k).map sayM).flatten++sayM x):=by
    have e1:ms.take (k+1)=ms.take k++[x]:=by rw [List.take_add_one,hkx];rfl
    have e2:((ms.take (k+1)).map sayM).flatten=((ms.take k).map sayM).flatten++sayM x:=by rw [e1];simp
    exact e2
   have HSh:=hid (sayM_short hx)
   have HFl:=hid (sayM_flat (x:=x))
   clear hkx
   obtain ⟨kx,dx,sx,cx,dd,yx⟩:=x
   dsimp only at *
   clear hcell hcl HN
   have HKp:Hid (∀w',Below wr.heap.size wr w'->w'.cell? ⟨bl,ol+k * 6+1,none⟩=some (.int .i64 dx)∧w'.cell? ⟨bl,ol+k * 6+2,none⟩=some (.int .i64 sx)∧w'.cell? ⟨bl,ol+k * 6+3,none⟩=some (.int .i64 cx)∧w'.cell? ⟨bl,ol+k * 6+4,none⟩=some (.int .i64 dd)∧Below wr.heap.size wr w'):=fun w' hb'=>⟨((bcell hb').1 _ _ hblr).trans y1,((bcell hb').1 _ _ hblr).trans y2,((bcell hb').1 _ _ hblr).trans y3,((bcell hb').1 _ _ hblr).trans y4,hb'⟩
   obtain ⟨A1,hA1⟩:∃A,bs (Lib.itoa dx)=A:=⟨_,rfl⟩
   rw [hA1] at HN1 z1
   have HA1:=hid hA1
   clear hA1
   obtain ⟨A2,hA2⟩:∃A,bs (Lib.itoa sx)=A:=⟨_,rfl⟩
   rw [hA2] at HN2 z2
   have HA2:=hid hA2
   clear hA2
   obtain ⟨A3,hA3⟩:∃A,bs (Lib.itoa cx)=A:=⟨_,rfl⟩
   rw [hA3] at HN3 z3
   have HA3:=hid hA3
   clear hA3
   obtain ⟨A4,hA4⟩:∃A,bs (Lib.itoa dd)=A:=⟨_,rfl⟩
   rw [hA4] at HN4 z4
   have HA4:=hid hA4
   clear hA4
   have q1:¬9223372036854775807<1+A1.size:=by omega
   have q2:¬9223372036854775807<1+A1.size+1:=by omega
   have q3:¬9223372036854775807<1+A1.size+1+A2.size:=by omega
   have q4:¬9223372036854775807<1+A1.size+1+A2.size+1:=by omega
   have q5:¬9223372036854775807<1+A1.size+1+A2.size+1+A3.size:=by omega
   have q6:¬9223372036854775807<1+A1.size+1+A2.size+1+A3.size+1:=by omega
   have q7:¬9223372036854775807<1+A1.size+1+A2.size+1+A3.size+1+A4.size:=by omega
   have q8:¬9223372036854775807<3+(1+A1.size+1+A2.size+1+A3.size+1+A4.size):=by omega
   have q9:¬9223372036854775807<4+(1+A1.size+1+A2.size+1+A3.size+1+A4.size):=by omega
   have HSy:Hid (∀(W:World) (X:ByteArray),Below wr.heap.size wr W->X=bs (kindW kx++([32]++Lib.itoa dx++[32]++Lib.itoa sx++[32]++Lib.itoa cx++[32]++Lib.itoa dd)++yesB yx)->Calls Tryz.prog 35 #[.pointer (some ⟨r,0,none⟩),.string X] W fun e w'=>e=.returned (.tuple #[])∧w'.heap[r]?=some (bxO mk (l++((ms.take (k+1)).map sayM).flatten))∧Save (fun k=>k=r) w w'):=fun W X hW hX=>by
    subst hX
    have e1:=HR.out k
    have e2:=HSh.out
    have e3:=HFl.out
    have hlr:r<wr.heap.size:=(Array.getElem?_eq_some_iff.1 HV.out.1).1
    refine (esay_any _ ((hW.block r hlr).trans HV.out.1) (e1.le ?_)).mono ?_
    ·rw [e3,List.length_append] at e2
     simp only [List.length_cons,List.length_nil] at e2
     omega
    ·rintro e w' ⟨rfl,k1,k2⟩
     refine ⟨rfl,?_,HV.out.2.trans ((Save.of_below hW).trans k2 (fun _ _ hj=>hj)) (fun _ _ hj=>hj)⟩
     rw [k1,HEt.out,HFl.out]
     simp only [List.append_assoc]
   have HTx:Hid (({ data:=#[32] }:ByteArray)++A1++{ data:=#[32] }++A2++{ data:=#[32] }++A3++{ data:=#[32] }++A4=bs ([32]++Lib.itoa dx++[32]++Lib.itoa sx++[32]++Lib.itoa cx++[32]++Lib.itoa dd)):=hid (by
    rw [<-HA1.out,<-HA2.out,<-HA3.out,<-HA4.out,show ({ data:=#[32] }:ByteArray)=bs [32] from rfl]
    simp only [bs_append])
   have HY5:Hid (∀w',Below wr.heap.size wr w'->w'.cell? ⟨bl,ol+k * 6+5,none⟩=some (.bool yx)):=fun w' hb'=>((bcell hb').1 _ _ hblr).trans y5
   clear HSh HFl HEt HA1 HA2 HA3 HA4 hx HM HS
   rcases HKd.out with rfl | rfl | rfl | rfl
   all_goals
    go_upto_region 13 with fail
    refine region_class (C:=fun w'=>w'.cell? ⟨bl,ol+k * 6+1,none⟩=some (.int .i64 dx)∧w'.cell? ⟨bl,ol+k * 6+2,none⟩=some (.int .i64 sx)∧w'.cell? ⟨bl,ol+k * 6+3,none⟩=some (.int .i64 cx)∧w'.cell? ⟨bl,ol+k * 6+4,none⟩=some (.int .i64 dd)∧Below wr.heap.size wr w') (by kernel_rfl) (by kernel_rfl) (HKp.out _ (Below.refl _ _).drew) ?_
    repeat (first
     | go_big_quiet_skip
     | (go_big_quiet_want
        refine q_val (v:=?_) (fun w' hS=>?_) ?_
        rotate_left
        focus
         go_simp
         all_goals (with_reducible rfl)
        go_big_quiet_on
        (try simp only [Act.put,List.setIfInBounds_toArray,List.set_cons_zero,List.set_cons_succ]))
     | (go_big_quiet_want
        refine q_call (v:=?_) (f:=?_) (args:=?_) (fun w' hS=>?_) (fun w' hS=>?_) ?_
        rotate_left 3
        focus
         go_simp
         constructor <;> with_reducible rfl
        focus
         (go_at_call 34
          first
           | (refine (HN1.out _ hS.2.2.2.2).mono ?_
              rintro e w7 ⟨rfl,hb7⟩
              refine ⟨?_,HKp.out _ hb7⟩
              with_reducible rfl)
           | (refine (HN2.out _ hS.2.2.2.2).mono ?_
              rintro e w7 ⟨rfl,hb7⟩
              refine ⟨?_,HKp.out _ hb7⟩
              with_reducible rfl)
           | (refine (HN3.out _ hS.2.2.2.2).mono ?_
              rintro e w7 ⟨rfl,hb7⟩
              refine ⟨?_,HKp.out _ hb7⟩
              with_reducible rfl)
           | (refine (HN4.out _ hS.2.2.2.2).mono ?_
              rintro e w7 ⟨rfl,hb7⟩
              refine ⟨?_,HKp.out _ hb7⟩
              with_reducible rfl))
        go_big_quiet_on
        (try simp only [Act.put,List.setIfInBounds_toArray,List.set_cons_zero,List.set_cons_succ])))
    refine wpQuiet_nil ?_
    intro w9 hS9
    have HB9:=hid hS9.2.2.2.2
    have y9:=HY5.out w9 HB9.out
    clear hS9
    cases yx with
    | false=>
      go_wp2_with (go_at_call 35;refine Calls.mono (HSy.out w9 _ HB9.out (by rw [HTx.out];exact (bs_append _ _).trans (by rw [show yesB false=[] from rfl,List.append_nil];rfl))) ?_;rintro e w7 ⟨rfl,k1,k2⟩;have HK7:=hid (And.intro k1 k2);clear k1 k2)
      go_roundg (ll - (k+1))
      case measure=>omega
      case rel=>exact ⟨k+1,by omega,rfl,by simp,HK7⟩
    | true=>
      go_wp2_with (go_at_call 35;refine Calls.mono (HSy.out w9 _ HB9.out (by rw [HTx.out];exact (congrArg (·++_) (bs_append _ _)).trans ((bs_append _ _).trans rfl))) ?_;rintro e w7 ⟨rfl,k1,k2⟩;have HK7:=hid (And.intro k1 k2);clear k1 k2)
      all_goals (try (exfalso;omega))
      go_roundg (ll - (k+1))
      case measure=>omega
      case rel=>exact ⟨k+1,by omega,rfl,by simp,HK7⟩
  ·obtain rfl:k=ll:=by omega
   have j1:¬(k:Int)<(k:Int):=by omega
   have HE:Hid (l++((ms.take k).map sayM).flatten++[101,110,100]++[10]=l++sayMails ms):=by
    rw [List.take_of_length_le (by omega)]
    unfold sayMails
    simp only [List.append_assoc]
    exact rfl
   have HC:=esay_any (r:=r) (w:=wr) [101,110,100] HV.out.1 ((HR.out k).le (by simp))
   go_wp2_with (go_at_call 35;refine Calls.mono HC ?_;rintro e w7 ⟨rfl,k1,k2⟩;have HK7:=hid (And.intro k1 (HV.out.2.trans k2 (fun _ _ hj=>hj)));clear k1 k2)
   go_returns
   refine ⟨rfl,?_,HK7.out.2⟩
   rw [<-HE.out]
   exact HK7.out.1
end Go.Proofs.YtbgnajcmhmpjlacGreatDoor
