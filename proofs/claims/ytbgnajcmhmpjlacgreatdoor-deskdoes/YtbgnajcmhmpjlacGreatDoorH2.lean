/- The document's desk hears a line: its words and numbers. -/
import Derived.Outline
import Derived.Deep.RegionLaw
import Derived.Deep.CutBlock
import Derived.Deep.DeepCutAuto
import Derived.Deep.CutRange
import Derived.Test.YtbgnajcmhmpjlacGreatDoorB8
set_option maxRecDepth 100000
set_option maxHeartbeats 100000000
namespace Go.Proofs.YtbgnajcmhmpjlacGreatDoor
open Go.RowKit
structure LX (w0 w:World) (Z:Nat->Prop) (r mk:Nat) (ws:Nat->Int) (l:List UInt8) (T:Twn) (LR:List UInt8 × Twn) (wd:ByteArray) (ns:List Int) (k Bl Bn bl ol cap:Nat) (na:Option Addr) (nc:Nat) (W:World) (Bx:Nat):Prop where
 ht:Tied w0
 hd:ELv w0 Z w r mk ws l T
 hr:Room (l.length+5000)
 ob:LR=(obeyR ws T wd.data.toList ns).getD (say [bytes "what"],T)
 yl:k<=9000
 nl:ns.length=k
 bw:Below w.heap.size w W
 c0:W.cell? ⟨Bl,0,none⟩=some (.slice (some ⟨bl,ol,none⟩) (k+1) cap)
 c1:W.cell? ⟨Bn,0,none⟩=some (.slice na k nc)
 y0:W.cell? ⟨bl,ol,none⟩=some (.string wd)
 nx:NumsAt W na ns
 xo:w.heap.size<=Bx∧Bl<Bx∧Bn<Bx∧bl<Bx∧(∀a,na=some a->w.heap.size<=a.block∧a.block<Bx)∧w.heap.size<=Bn
 x0:W.cell? ⟨Bx,0,none⟩=some (.int .i64 0)
 x1:W.cell? ⟨Bx,1,none⟩=some (.int .i64 0)
 x2:W.cell? ⟨Bx,2,none⟩=some (.slice none 0 0)
 xf:∀k,W.frozen? ⟨Bx,k,none⟩=false
 bx:Bx<W.heap.size
def line1:{ G:World->World->(Nat->Prop)->Nat->Nat->(Nat->Int)->List UInt8->Twn->ByteArray->List UInt8 × Twn->ByteArray->List Int->Nat->Nat->Nat->Nat->Nat->Nat->Option Addr->Nat->World->Nat->Value->Value->Value->Value->Value->Value->Value->Value->Value->Value->Value->Value->Value->Value->Value->Value->Value->Value->Value->Value->Value->Value->Value->Value->Value->Value->Value->Value->Value->Prop // ∀{w0 w:World} {Z:Nat->Prop} {r mk:Nat} {ws:Nat->Int} {l:List UInt8} {T:Twn} (s:ByteArray),s.size<=9000->Tied w0->ELv w0 Z w r mk ws l T->Room (l.length+5000)->Hid (∀LR wd ns k Bl Bn bl ol cap na nc W Bx u7 u8 u29 u30 u31 u32 u33 u34 u35 u36 u37 u38 u39 u40 u41 u42 u43 u44 u45 u46 u47 u48 u49 u50 u51 u52 u53 u54 u55,LX w0 w Z r mk ws l T LR wd ns k Bl Bn bl ol cap na nc W Bx->G w0 w Z r mk ws l T s LR wd ns k Bl Bn bl ol cap na nc W Bx u7 u8 u29 u30 u31 u32 u33 u34 u35 u36 u37 u38 u39 u40 u41 u42 u43 u44 u45 u46 u47 u48 u49 u50 u51 u52 u53 u54 u55)->
    Calls Tryz.prog 19 #[.pointer (some ⟨r,0,none⟩),.string s] w fun e w'=>e=.returned (.tuple #[])∧ELv w0 Z w' r mk ws (l++(lineR ws T s.data.toList).1) (lineR ws T s.data.toList).2∧Save (fun k=>¬Z k) w w' }:=by
 apply Subtype.mk
 intro w0 w Z r mk ws l T s hs ht h hR hG
 obtain ⟨i0,hi,hz0,hz1,hz2⟩:=info_parts infoInt
 obtain ⟨i9,hi9,hz9,hz91,hz92⟩:=info_parts infoWant2
 have HW:Hid (∀W:World,Calls Tryz.prog 32 #[.string s] W fun e w'=>(∃(v:Value) (xs:List ByteArray),e=.returned v∧w'.ownsRow W.heap.size 9 1 v xs.length (xs.map Value.string)∧xs.map (·.data.toList)=wordsR s.data.toList [])∧Below W.heap.size W w'):=fun W=>ewords_any s hs W
 have HLen:=hid (words_len s.data.toList [])
 have HEach:=hid (words_each s.data.toList [])
 have HSz:Hid (s.size<=9000):=hs
 have HD:=hid h
 have HT:=hid ht
 have HR:=hid hR
 have HR2:Hid (Room (l.length+2000)):=hR.le (by omega)
 have hLR:Hid (lineR ws T s.data.toList=match wordsR s.data.toList [] with
  | []=>([],T)
  | w :: r=>match numsW r with
    | none=>(say [bytes "what"],T)
    | some n=>(obeyR ws T w n).getD (say [bytes "what"],T)):=hid rfl
 clear h ht hR hs
 generalize lineR ws T s.data.toList=LR at *
 generalize wordsR s.data.toList []=WR at *
 go_enter Tryz.func19,Tryz.ntmps19
 go_upto_region 1 with (go_at_call 32;refine Calls.mono (HW.out _) ?_;rintro e w1 ⟨⟨v,xs,rfl,hx,hxw⟩,hb1⟩;obtain ⟨ga,cap,rfl,hst,_,hcap,hblk⟩:=strs_of_own hx;have HB1:=hid hb1;have HX:=hid hst;have HXw:=hid hxw;have HBk:=hid hblk;clear hx hb1 hxw hst hblk)
 clear HW
 cases xs with
 | nil=>
   have HE:Hid (LR=([],T)):=by
    have e1:=hLR.out
    rw [<-HXw.out] at e1
    exact e1
   go_wp2_with fail
   go_returns
   have hb:=after HB1.out (show Below w1.heap.size w1 (w1.alloc (.cells #[.slice ga 0 cap] 22)) by go_grown) HB1.out.size
   rw [HE.out]
   exact ⟨rfl,by simpa using HD.out.next hb,Save.of_below hb⟩
 | cons wd ys=>
   have HWd:Hid (LR=match numsW (ys.map (·.data.toList)) with
    | none=>(say [bytes "what"],T)
    | some n=>(obeyR ws T wd.data.toList n).getD (say [bytes "what"],T)):=by
    have e1:=hLR.out
    rw [<-HXw.out] at e1
    exact e1
   have HYs:Hid (∀x∈ys,x.size<=281474976710656):=fun x hx=>by
    have h1:x.data.toList∈WR:=by rw [<-HXw.out];exact List.mem_cons_of_mem _ (List.mem_map.2 ⟨x,hx,rfl⟩)
    have h2:=HEach.out _ h1
    have h3:=HSz.out
    have e1:x.size=x.data.toList.length:=rfl
    have e2:s.size=s.data.toList.length:=rfl
    simp at h2 e1 e2
    omega
   have HYl:Hid (ys.length<=9000):=by
    have h1:=HLen.out
    rw [<-HXw.out] at h1
    have h3:=HSz.out
    have e2:s.size=s.data.toList.length:=rfl
    simp at h1 e2
    show _<=_
    omega
   obtain ⟨ll,hll⟩:∃ll,ys.length=ll:=⟨_,rfl⟩
   rw [List.length_cons,hll]
   rw [hll] at HYl
   clear hcap hLR HXw HEach HLen
   go_upto_region 3 with fail
   have hz:w1.heap.size+1<(((w1.alloc (.cells #[.slice ga (ll+1) cap] 22)).alloc (.cells #[.slice none 0 0] 66))).heap.size:=by simp
   have HL0:Hid (LSt w w1.heap.size (w1.heap.size+1) ga (ll+1) cap (wd :: ys) 0 [] (.slice none 0 0) ((w1.alloc (.cells #[.slice ga (ll+1) cap] 22)).alloc (.cells #[.slice none 0 0] 66))):=by
    have hg:Below w1.heap.size w1 ((w1.alloc (.cells #[.slice ga (ll+1) cap] 22)).alloc (.cells #[.slice none 0 0] 66)):=by go_grown
    exact ⟨after HB1.out hg HB1.out.size,HB1.out.size,by omega,hz,by simp [go_sem],by simp [go_sem],by simp [go_sem],HX.out.below hg,fun a ha=>(HBk.out a ha).2,World.ownsRow_nil _ _ _ _⟩
   clear HB1 HX HBk hz
   have HBz:Hid (w1.heap.size+1=w1.heap.size+1):=hid rfl
   generalize hWs:((w1.alloc (.cells #[.slice ga (ll+1) cap] 22)).alloc (.cells #[.slice none 0 0] 66))=ww at HL0 ⊢
   generalize hBn:w1.heap.size+1=Bn at HL0 ⊢
   generalize w1.heap.size=Bl at HL0 ⊢
   clear hWs hBn HBz
   go_wp2_with fail
   go_loopg [6] ll (fun g i wr=>∃(k:Nat) (ns:List Int) (v:Value),k<=ll∧g=ll - k∧i=.int .i64 ((k+1:Nat):Int)∧Hid (numsW ((ys.take k).map (·.data.toList))=some ns)∧Hid (LSt w Bl Bn ga (ll+1) cap (wd :: ys) k ns v wr))
   case atStart=>exact ⟨0,[],_,by omega,rfl,rfl,hid rfl,HL0⟩
   case round=>
    obtain ⟨k,ns,v,hk,rfl,rfl,HNs,HL⟩:=hrel
    have c0:=HL.out.cl
    by_cases hlt:k<ll
    ·obtain ⟨x,hkx⟩:∃x,ys[k]?=some x:=⟨_,List.getElem?_eq_getElem (by omega)⟩
     obtain ⟨bl,ol,rfl,hbl,y0⟩:=HL.out.st (k+1) x (by simpa using hkx)
     have hmem:=List.mem_of_getElem? hkx
     have HTw:Hid (∀W:World,Below w.heap.size w W->Tied W):=fun W hW=>HT.out.below (after HD.out.below hW HD.out.below.size)
     have hat:=fun (W:World) (hW:Below w.heap.size w W)=>atoi_any x (HYs.out x hmem) W (HTw.out W hW)
     have j0:(0:Int)<=((k+1:Nat):Int):=by omega
     have j1:((k+1:Nat):Int)<((ll+1:Nat):Int):=by omega
     have hr:IntKind.i64.wrap (((k+1:Nat):Int)+1)=((k+1+1:Nat):Int):=by have:=HYl.out;rw [show (((k+1:Nat):Int)+1)=((k+1+1:Nat):Int) by omega];go_unwrap
     have HNo:Hid (numW x.data.toList=none->LR=(say [bytes "what"],T)):=fun e=>by
      have h1:=HWd.out
      rw [numsW_none (List.mem_map.2 ⟨x,hmem,rfl⟩) e] at h1
      exact h1
     have HYes:Hid (∀n,numW x.data.toList=some n->numsW ((ys.take (k+1)).map (·.data.toList))=some (ns++[n])):=fun n e=>by
      have e1:ys.take (k+1)=ys.take k++[x]:=by rw [List.take_add_one,hkx];rfl
      rw [e1,List.map_append]
      exact numsW_snoc HNs.out e
     clear hkx hmem
     generalize hi1:k+1=k1 at j0 j1 hr y0 HYes ⊢
     have HI1:=hid hi1
     clear hi1
     rcases ato_ways x.data.toList with ⟨va,ha⟩ | ⟨hnn,ha⟩
     rotate_left
     ·have HNone:Hid (LR=(say [bytes "what"],T)):=HNo.out hnn
      rw [ha] at hat
      have HA:Hid (∀W:World,Below w.heap.size w W->Calls Tryz.prog 33 #[.string x] W fun e w'=>(∃v t u,e=.returned (.tuple #[.int .i64 v,.iface t u]))∧Below W.heap.size W w'):=hat
      clear hat ha hnn HNo HYes
      go_upto_region 7 with (go_at_call 33;refine Calls.mono (HA.out _ HL.out.bw) ?_;rintro e w2 ⟨⟨va,t,u,rfl⟩,hb1⟩;have HL2:=hid (HL.out.next hb1);have y2:=((bcell hb1).1 _ _ hbl).trans y0;have hbl2:bl<w2.heap.size:=Nat.lt_of_lt_of_le hbl hb1.size;clear hb1)
      have HKp:Hid (∀w',Below w2.heap.size w2 w'->w'.cell? ⟨Bl,0,none⟩=some (.slice (some ⟨bl,ol,none⟩) (ll+1) cap)∧w'.cell? ⟨bl,ol+k1,none⟩=some (.string x)∧Below w2.heap.size w2 w'):=fun w' hb'=>⟨(HL2.out.next hb').cl,((bcell hb').1 _ _ hbl2).trans y2,hb'⟩
      refine region_class (C:=fun w'=>w'.cell? ⟨Bl,0,none⟩=some (.slice (some ⟨bl,ol,none⟩) (ll+1) cap)∧w'.cell? ⟨bl,ol+k1,none⟩=some (.string x)∧Below w2.heap.size w2 w') (by kernel_rfl) (by kernel_rfl) (HKp.out _ (Below.refl _ _).drew) ?_
      repeat (first
       | go_big_quiet_skip
       | (go_big_quiet_want
          refine q_val (v:=?_) (fun w' hS=>?_) ?_
          rotate_left
          focus
           go_simp
           all_goals (with_reducible rfl)
          go_big_quiet_on
          (try simp only [Act.put,List.setIfInBounds_toArray,List.set_cons_zero,List.set_cons_succ]))
       | (go_big_quiet_want
          refine q_call (v:=?_) (f:=?_) (args:=?_) (fun w' hS=>?_) (fun w' hS=>?_) ?_
          rotate_left 3
          focus
           go_simp
           constructor <;> with_reducible rfl
          focus
           (go_at_call 34
            refine (HN1.out _ hS.2.2).mono ?_
            rintro e w7 ⟨rfl,hb7⟩
            refine ⟨?_,HKp.out _ hb7⟩
            with_reducible rfl)
          go_big_quiet_on
          (try simp only [Act.put,List.setIfInBounds_toArray,List.set_cons_zero,List.set_cons_succ])))
      refine wpQuiet_nil ?_
      intro w9 hS9
      have HB9:=hid hS9.2.2
      clear hS9
      have HC:=esay_elv [119,104,97,116] (HD.out.next (HL2.out.next HB9.out).bw) (by decide) HR2.out
      go_wp2_with (go_at_call 35;refine Calls.mono HC ?_;rintro e w7 ⟨rfl,k1,k2⟩;have HK7:=hid (And.intro k1 k2);clear k1 k2)
      go_returns
      rw [HNone.out]
      exact ⟨rfl,HK7.out.1,(Save.of_below (HL2.out.next HB9.out).bw).trans HK7.out.2 (fun _ _ hj=>hj)⟩
     ·unfold AtoIs at hat
      rw [ha] at hat
      have HA:Hid (∀W:World,Below w.heap.size w W->Calls Tryz.prog 33 #[.string x] W fun e w'=>e=.returned (.tuple #[.int .i64 va,.nilIface])∧Below W.heap.size W w'):=hat
      have hvb:=Lib.atoiAll_bounds ha
      have HI:Hid (∀W:World,Below w.heap.size w W->Calls Tryz.prog 34 #[.int .i64 va] W fun e w'=>e=.returned (.string (bs (Lib.itoa va)))∧Below W.heap.size W w'):=fun W hW=>enum_any va hvb.1 hvb.2 W (HTw.out W hW)
      have hvc:((bs (Lib.itoa va)).toList == x.toList)=decide (Lib.itoa va=x.data.toList):=by
       rw [ByteArray.toList_eq,ByteArray.toList_eq,bs_data]
       by_cases h:Lib.itoa va=x.data.toList <;> simp [h]
      clear hat hvb
      go_upto_region 7 with (go_at_call 33;refine Calls.mono (HA.out _ HL.out.bw) ?_;rintro e w2 ⟨rfl,hb1⟩;have HL2:=hid (HL.out.next hb1);have y2:=((bcell hb1).1 _ _ hbl).trans y0;have hbl2:bl<w2.heap.size:=Nat.lt_of_lt_of_le hbl hb1.size;clear hb1)
      have HN1:Hid (∀W:World,Below w2.heap.size w2 W->Calls Tryz.prog 34 #[.int .i64 va] W fun e w'=>e=.returned (.string (bs (Lib.itoa va)))∧Below w2.heap.size w2 w'):=fun W hW=>(HI.out W (after HL2.out.bw hW HL2.out.bw.size)).mono (fun e w' q=>⟨q.1,after hW q.2 hW.size⟩)
      have HKp:Hid (∀w',Below w2.heap.size w2 w'->w'.cell? ⟨Bl,0,none⟩=some (.slice (some ⟨bl,ol,none⟩) (ll+1) cap)∧w'.cell? ⟨bl,ol+k1,none⟩=some (.string x)∧Below w2.heap.size w2 w'):=fun w' hb'=>⟨(HL2.out.next hb').cl,((bcell hb').1 _ _ hbl2).trans y2,hb'⟩
      have HVc:=hid hvc
      have HHa:=hid ha
      clear hvc ha
      generalize bs (Lib.itoa va)=sv at HN1 HVc
      by_cases hv:Lib.itoa va=x.data.toList
      ·have hv':(sv.toList == x.toList)=true:=by rw [HVc.out];simp [hv]
       have HE:Hid (numsW ((ys.take k1).map (·.data.toList))=some (ns++[va])):=HYes.out va (by unfold numW;rw [HHa.out];simp only;rw [if_pos hv])
       clear hv HNo HYes HVc HHa
       refine region_class (C:=fun w'=>w'.cell? ⟨Bl,0,none⟩=some (.slice (some ⟨bl,ol,none⟩) (ll+1) cap)∧w'.cell? ⟨bl,ol+k1,none⟩=some (.string x)∧Below w2.heap.size w2 w') (by kernel_rfl) (by kernel_rfl) (HKp.out _ (Below.refl _ _).drew) ?_
       repeat (first
        | go_big_quiet_skip
        | (go_big_quiet_want
           refine q_val (v:=?_) (fun w' hS=>?_) ?_
           rotate_left
           focus
            go_simp
            all_goals (with_reducible rfl)
           go_big_quiet_on
           (try simp only [Act.put,List.setIfInBounds_toArray,List.set_cons_zero,List.set_cons_succ]))
        | (go_big_quiet_want
           refine q_call (v:=?_) (f:=?_) (args:=?_) (fun w' hS=>?_) (fun w' hS=>?_) ?_
           rotate_left 3
           focus
            go_simp
            constructor <;> with_reducible rfl
           focus
            (go_at_call 34
             refine (HN1.out _ hS.2.2).mono ?_
             rintro e w7 ⟨rfl,hb7⟩
             refine ⟨?_,HKp.out _ hb7⟩
             with_reducible rfl)
           go_big_quiet_on
           (try simp only [Act.put,List.setIfInBounds_toArray,List.set_cons_zero,List.set_cons_succ])))
       refine wpQuiet_nil ?_
       intro w9 hS9
       have HB9:=hid hS9.2.2
       clear hS9
       have HL9:=hid (HL2.out.next HB9.out)
       have c2:=HL9.out.cn
       have f2:=HL9.out.fz
       have hB9:Bn+1<=w9.heap.size:=HL9.out.lt
       clear HL HL2 HKp y0 y2 c0 hbl hbl2 HN1
       go_wp2_with (at_builtin;refine list_append_two rfl (.tmp 52) (.tmp 54) 66 rfl (Bn+1) 3 i0 (.int .i64 0) 1 8 Tryz.underlying66 hi hz0 hz1 hz2 rfl (by decide) v k _ rfl (HL9.out.row.alloc _) ⟨w9.heap.size,0,none⟩ 1 1 [.int .i64 va] rfl rfl (num_new _ (by simp)) num_cell (by have:=HYl.out;unfold maxLen;omega) (by have:=HYl.out;omega) (by simp;omega) (by decide) ?_;intro v7 w7 hown7 hgrow7 _;have hown8:w7.ownsRow (Bn+1) 3 1 v7 (k+1) ((ns++[va]).map (Value.int .i64)):=(by rw [List.map_append];exact hown7);obtain ⟨g7,cap7,rfl,_,_⟩:=nums_of_own hown8;have HO7:Hid (w7.ownsRow (Bn+1) 3 1 (.slice g7 (k+1) cap7) (k+1) ((ns++[va]).map (Value.int .i64))):=hown8;have HB7:Hid (Below (Bn+1) w9 w7):=own_below (HL9.out.row.alloc _) hgrow7 ((Below.refl _ _).alloc hB9 _) (by simp;omega) (Nat.le_refl _);have c7:=(HB7.out.cell (p:=⟨Bn,0,none⟩) (Nat.lt_succ_self Bn)).trans c2;have f7:=(HB7.out.frozen (p:=⟨Bn,0,none⟩) (Nat.lt_succ_self Bn)).trans f2;clear hown7 hown8 hgrow7)
       go_roundg (ll - k1)
       case measure=>have:=HI1.out;omega
       case rel=>
        have hi1:=HI1.out
        subst hi1
        exact ⟨k+1,ns++[va],_,by omega,rfl,by simp,HE,hid (HL9.out.put HB7.out HO7.out)⟩
      ·have hv':(sv.toList == x.toList)=false:=by rw [HVc.out];simp [hv]
       have HNone:Hid (LR=(say [bytes "what"],T)):=HNo.out (by unfold numW;rw [HHa.out];simp only;rw [if_neg hv])
       clear hv HNo HYes HVc HHa
       refine region_class (C:=fun w'=>w'.cell? ⟨Bl,0,none⟩=some (.slice (some ⟨bl,ol,none⟩) (ll+1) cap)∧w'.cell? ⟨bl,ol+k1,none⟩=some (.string x)∧Below w2.heap.size w2 w') (by kernel_rfl) (by kernel_rfl) (HKp.out _ (Below.refl _ _).drew) ?_
       repeat (first
        | go_big_quiet_skip
        | (go_big_quiet_want
           refine q_val (v:=?_) (fun w' hS=>?_) ?_
           rotate_left
           focus
            go_simp
            all_goals (with_reducible rfl)
           go_big_quiet_on
           (try simp only [Act.put,List.setIfInBounds_toArray,List.set_cons_zero,List.set_cons_succ]))
        | (go_big_quiet_want
           refine q_call (v:=?_) (f:=?_) (args:=?_) (fun w' hS=>?_) (fun w' hS=>?_) ?_
           rotate_left 3
           focus
            go_simp
            constructor <;> with_reducible rfl
           focus
            (go_at_call 34
             refine (HN1.out _ hS.2.2).mono ?_
             rintro e w7 ⟨rfl,hb7⟩
             refine ⟨?_,HKp.out _ hb7⟩
             with_reducible rfl)
           go_big_quiet_on
           (try simp only [Act.put,List.setIfInBounds_toArray,List.set_cons_zero,List.set_cons_succ])))
       refine wpQuiet_nil ?_
       intro w9 hS9
       have HB9:=hid hS9.2.2
       clear hS9
       have HC:=esay_elv [119,104,97,116] (HD.out.next (HL2.out.next HB9.out).bw) (by decide) HR2.out
       go_wp2_with (go_at_call 35;refine Calls.mono HC ?_;rintro e w7 ⟨rfl,k1,k2⟩;have HK7:=hid (And.intro k1 k2);clear k1 k2)
       go_returns
       rw [HNone.out]
       exact ⟨rfl,HK7.out.1,(Save.of_below (HL2.out.next HB9.out).bw).trans HK7.out.2 (fun _ _ hj=>hj)⟩
    ·obtain rfl:k=ll:=by omega
     have j1:¬((k+1:Nat):Int)<((k+1:Nat):Int):=by omega
     have HN:Hid (numsW (ys.map (·.data.toList))=some ns):=by
      have e1:=HNs.out
      rw [List.take_of_length_le (by omega)] at e1
      exact e1
     have HObe:Hid (LR=(obeyR ws T wd.data.toList ns).getD (say [bytes "what"],T)):=by
      have e1:=HWd.out
      rw [HN.out] at e1
      exact e1
     have hX0:=HL.out.st
     obtain ⟨bl,ol,rfl,hbl,y0⟩:=HL.out.st 0 wd rfl
     have HX0:StrsAt wr (some ⟨bl,ol,none⟩) (wd :: ys):=hX0
     obtain ⟨na,nc,rfl,hn,hnl⟩:=nums_of_own HL.out.row
     have HNa:Hid (∀a,na=some a->w.heap.size<=a.block∧a.block<wr.heap.size):=fun a ha=>by
      have h1:=HL.out.row.lt a.block (by rw [ha];rfl)
      have h2:=HL.out.lo
      have h3:=HL.out.ln
      exact ⟨by omega,h1.2⟩
     clear hX0
     have HNu:=hid hn
     have c1:=HL.out.cn
     clear HWd HN HNs HYs hn
     go_upto_block 2 with fail
     have hgx:Below wr.heap.size wr (wr.alloc (.cells #[.int .i64 0,.int .i64 0,.slice none 0 0] 95)):=by go_grown
     have HLx:=hid (HL.out.next hgx)
     have hYx:=HX0.below hgx 0 wd rfl
     have HNx:=hid (HNu.out.below hgx (Nat.le_refl _))
     have hxb:BoxAt (wr.alloc (.cells #[.int .i64 0,.int .i64 0,.slice none 0 0] 95)) wr.heap.size [.int .i64 0,.int .i64 0,.slice none 0 0]:=BoxAt.new wr [.int .i64 0,.int .i64 0,.slice none 0 0] 95
     have xf:∀k,(wr.alloc (.cells #[.int .i64 0,.int .i64 0,.slice none 0 0] 95)).frozen? ⟨wr.heap.size,k,none⟩=false:=by simp [go_sem]
     have HXo:Hid (w.heap.size<=wr.heap.size∧Bl<wr.heap.size∧Bn<wr.heap.size∧bl<wr.heap.size∧(∀a,na=some a->w.heap.size<=a.block∧a.block<wr.heap.size)∧w.heap.size<=Bn):=⟨HL.out.bw.size,Nat.lt_trans HL.out.ln HL.out.lt,HL.out.lt,hbl,HNa.out,Nat.le_trans HL.out.lo (Nat.le_of_lt HL.out.ln)⟩
     clear HL HNu hbl hgx c1 y0 c0 HNa HX0
     generalize (wr.alloc (.cells #[.int .i64 0,.int .i64 0,.slice none 0 0] 95))=W at *
     generalize wr.heap.size=Bx at *
     have c0:=HLx.out.cl
     have c1:=HLx.out.cn
     obtain ⟨_,_,e',hblW,y0'⟩:=hYx
     cases e'
     have y0:W.cell? ⟨bl,ol,none⟩=some (.string wd):=y0'
     clear y0'
     have x0:=hxb.2 0 _ rfl
     have x1:=hxb.2 1 _ rfl
     have x2:=hxb.2 2 _ rfl
     have hBx:=hxb.1
     clear hxb
     rename_i Q1 lf K5 J1 K4 h1 a5 a4 K3 a3 K1 a1
     clear a3 a4 a5
     revert Q1 K1
     exact hG.out LR wd ns k Bl Bn bl ol cap na nc W Bx u7 u8 u29 u30 u31 u32 u33 u34 u35 u36 u37 u38 u39 u40 u41 u42 u43 u44 u45 u46 u47 u48 u49 u50 u51 u52 u53 u54 u55 ⟨HT.out,HD.out,HR.out,HObe.out,HYl.out,hnl,HLx.out.bw,c0,c1,y0,HNx.out,HXo.out,x0,x1,x2,xf,hBx⟩
end Go.Proofs.YtbgnajcmhmpjlacGreatDoor
