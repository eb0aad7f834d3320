/- The contract of the document's Book: Hear. -/
import Derived.OwnWalk
import Derived.Deep.RegionHeld3
import Derived.Test.YtbgnajcmhmpjlacGreatDoorA6
import Derived.Test.YtbgnajcmhmpjlacGreatDoorB2
import Derived.Test.YtbgnajcmhmpjlacGreatDoorA2
import Derived.Test.YtbgnajcmhmpjlacGreatDoorA4
set_option maxRecDepth 100000
set_option maxHeartbeats 100000000
namespace Go.Proofs.YtbgnajcmhmpjlacGreatDoor
open Go.RowKit
theorem qstate_any (O:Nat->Prop) (B:Bok) (q:Nat) (n:Int) (w:World) (h:BokIn 151 97 3 O w q 0 B) (hl:B.L.length<=8):Calls Tryz.prog 42 #[.pointer (some ⟨q,0,none⟩),.int .i64 n] w fun e w'=>e=.returned (.int .i64 (stR B n))∧w'=w:=by
 obtain ⟨rv,ov,V,hR,_⟩:=h.raw
 have c0:=hR.c0
 unfold stR
 cases hd:dealAt B n with
 | none=>
   obtain ⟨ga,cap,rfl⟩:=own_sl hR.row
   rcases dealAt_out hd with h0 | h0
   ·clear hd hR
    go_enter Tryz.func42,Tryz.ntmps42
    go_wp2_with fail
    go_ret
    exact ⟨rfl,rfl⟩
   ·have h1:0<=n:=by omega
    have h2:(B.L.length:Int)<=n:=h0
    clear hd h0 hR
    go_enter Tryz.func42,Tryz.ntmps42
    go_wp2_with fail
    go_ret
    exact ⟨rfl,rfl⟩
 | some D=>
   obtain ⟨k,rfl,hk,hkD⟩:=dealAt_some hd
   obtain ⟨g,cap,v,rfl,_,h4,_,_⟩:=hR.deal4 hkD
   have d1:=h4.c1
   have h1:(0:Int)<=(k:Int):=by omega
   have h2:(k:Int)<(B.L.length:Int):=by omega
   have h3:(B.L.length:Int)<=8:=by omega
   clear hd hkD hR h4 h
   go_enter Tryz.func42,Tryz.ntmps42
   go_wp2_with fail
   go_ret
   exact ⟨rfl,rfl⟩
theorem stR_there {B:Bok} (hI:BInv B) {n:Int} {D:Dl} (h:dealAt B n=some D):(stR B n == -1)=false:=by
 rw [stR_some h]
 have:=hI.st D (dealAt_mem h)
 rw [beq_eq_false_iff_ne]
 omega
theorem qquit_any (O:Nat->Prop) (B:Bok) (q:Nat) (n:Int) (w:World) (h:BokIn 151 97 3 O w q 0 B) (hI:BInv B):
 Calls Tryz.prog 63 #[.pointer (some ⟨q,0,none⟩),.int .i64 n] w fun e w'=>e=.returned (.int .i64 (quitR B n).1)∧BokTo 151 97 3 O w w' q 0 (quitR B n).2:=by
 have hl:=hI.len
 have HH:=qstate_any O B q n w h hl
 obtain ⟨rv,ov,V,hR,hsub⟩:=h.raw
 have HI:Hid (BokIn 151 97 3 O w q 0 B):=h
 unfold quitR
 cases hd:dealAt B n with
 | none=>
   have hs:stR B n= -1:=by unfold stR;rw [hd]
   rw [hs] at HH
   clear hd hR
   go_enter Tryz.func63,Tryz.ntmps63
   go_wp2_with fail
   refine HH.mono ?_
   rintro e w' ⟨rfl,rfl⟩
   go_wp2_with fail
   go_ret
   exact ⟨rfl,BokTo.stay HI.out (Below.refl _ _)⟩
 | some D=>
   have hs:=stR_there hI hd
   obtain ⟨k,rfl,hk,hkD⟩:=dealAt_some hd
   obtain ⟨g,cap,v,rfl,hV,h4,_,_⟩:=hR.deal4 hkD
   have c0:=hR.c0
   have d1:=h4.c1
   have d2:=h4.fr
   have h1:(0:Int)<=(k:Int):=by omega
   have h2:(k:Int)<(B.L.length:Int):=by omega
   have h3:(B.L.length:Int)<=8:=by omega
   by_cases h0:D.st=0
   ·have HE:Hid (BokTo 151 97 3 O w (w.setCell ⟨g,k * 4+1,none⟩ (.int .i64 2)) q 0 (putD B (k:Int) { D with st:=2 })):=by
     have hgO:O g:=hsub _ List.mem_cons_self g rfl
     have hS:Save O w (w.setCell ⟨g,k * 4+1,none⟩ (.int .i64 2)):=Save.setCell (Save.refl _ _) (p:=⟨g,k * 4+1,none⟩) (fun _=>hgO) _
     have hqg:q ≠ g:=by have:=(hR.row.lt g rfl).1;omega
     refine bok_to h.own h.mine hS (hR.st h.lt hkD 2) (by simpa [go_sem] using h.loose) (fun u hu j hj=>⟨.inl (hsub u hu j hj),by simpa using h.own j (hsub u hu j hj)⟩) (fun j _ _=>cell_set_block hqg)
    simp only [if_pos h0]
    have h0':(D.st != 0)=false:=by simp [h0]
    clear hd hkD hR h4 h hsub h0 hV
    go_enter Tryz.func63,Tryz.ntmps63
    go_wp2_with fail
    refine HH.mono ?_
    rintro e w' ⟨rfl,rfl⟩
    go_wp2_with fail
    go_ret
    exact ⟨rfl,HE.out⟩
   ·simp only [if_neg h0]
    have h0':(D.st != 0)=true:=by simpa using h0
    clear hd hkD hR h4 h hsub h0 hV
    go_enter Tryz.func63,Tryz.ntmps63
    go_wp2_with fail
    refine HH.mono ?_
    rintro e w' ⟨rfl,rfl⟩
    go_wp2_with fail
    go_ret
    exact ⟨rfl,BokTo.stay HI.out (Below.refl _ _)⟩
theorem infoDealR:(Tryz.prog.info? 151).map (fun i=>(i.zero,i.size,i.bytes))=some (some (.agg #[.slice none 0 0,.int .i64 0,.slice none 0 0,.slice none 0 0]),4,80):=by kernel_rfl
theorem four_lies {W:World} {H:Nat} {a b c d:Value} (h0:W.cell? ⟨H,0,none⟩=some a) (h1:W.cell? ⟨H,1,none⟩=some b) (h2:W.cell? ⟨H,2,none⟩=some c) (h3:W.cell? ⟨H,3,none⟩=some d):∀j u,[a,b,c,d][j]?=some u->W.cell? ((⟨H,0,none⟩:Addr).add j)=some u:=by
 intro j u hj
 match j,hj with
 | 0,hj=>simp at hj;subst hj;simpa [Addr.add] using h0
 | 1,hj=>simp at hj;subst hj;simpa [Addr.add] using h1
 | 2,hj=>simp at hj;subst hj;simpa [Addr.add] using h2
 | 3,hj=>simp at hj;subst hj;simpa [Addr.add] using h3
 | j+4,hj=>simp at hj
theorem four_cell {ga:Option Addr} {n c:Nat}:∀u∈[Value.slice ga n c,.int .i64 0,.slice none 0 0,.slice none 0 0],u.oneCell'=true:=by
 intro u hu
 simp only [List.mem_cons,List.not_mem_nil,or_false] at hu
 rcases hu with rfl | rfl | rfl | rfl <;> rfl
theorem qbegin_any (O:Nat->Prop) (B:Bok) (q:Nat) (la:Option Addr) (ll lc:Nat) (l:List (Int × Int)) (w:World) (h:BokIn 151 97 3 O w q 0 B) (hI:BInv B) (hl:WantsAt w la l) (hll:l.length=ll):
 Calls Tryz.prog 58 #[.pointer (some ⟨q,0,none⟩),.slice la ll lc] w fun e w'=>e=.returned (.tuple #[.int .i64 (beginR B l).1,.int .i64 (beginR B l).2.1])∧BokTo 151 97 3 O w w' q 0 (beginR B l).2.2:=by
 have HC:=wantsFault_any la ll lc l w hl hll
 have HI:Hid (BokIn 151 97 3 O w q 0 B):=h
 by_cases hc:(chkW l).1=0
 ·have hc':((chkW l).1 != 0)=false:=by simp [hc]
  have hF:=fit_iff.1 hc
  obtain ⟨rv,ov,V,hR,hsub⟩:=h.raw
  have c0:=hR.c0
  obtain ⟨ga,cap,rfl⟩:=own_sl hR.row
  have hql:=h.lt
  by_cases h8:8<=B.L.length
  ·rw [beginR_full hc h8]
   have h8':(8:Int)<=(B.L.length:Int):=by omega
   clear hR hsub h hc h8 hI hF
   go_enter Tryz.func58,Tryz.ntmps58
   go_wp2_with fail
   refine HC.mono ?_
   rintro e w1 ⟨rfl,hb1⟩
   have c0':w1.cell? ⟨q,0,none⟩=some (.slice ga B.L.length cap):=((bcell hb1).1 _ _ hql).trans c0
   have hql1:q<w1.heap.size:=Nat.lt_of_lt_of_le hql hb1.size
   clear c0
   go_wp2_with fail
   go_ret2
   exact ⟨rfl,BokTo.stay HI.out (after hb1 (by go_grown) hb1.size)⟩
  ·rw [beginR_ok hc h8]
   have h8':¬(8:Int)<=(B.L.length:Int):=by omega
   obtain ⟨i0,hi,hz0,hz1,hz2⟩:=info_parts infoWant
   obtain ⟨j0,hj,hy0,hy1,hy2⟩:=info_parts infoDealR
   have hpos:=hF.pos
   have HLen:Hid (l.length<=4):=hF.few
   obtain ⟨⟨c,d⟩,hk0⟩:∃x,l[0]?=some x:=⟨_,List.getElem?_eq_getElem hpos⟩
   obtain ⟨b,off,rfl,hbl,_,_⟩:=hl 0 c d hk0
   have HR:Hid (BokRaw 151 97 3 w q 0 B (.slice ga B.L.length cap) ov V):=hR
   have HSub:Hid (∀u∈(.slice ga B.L.length cap:Value) :: ov :: V.flatMap DV.all,∀k,u.ownBlock=some k->O k):=hsub
   have HLn8:Hid (B.L.length<=8):=hI.len
   have HW:Hid (WantsAt w (some ⟨b,off,none⟩) l):=hl
   have HFl:Hid ((flat l).length=l.length * 2):=flat_length l
   subst hll
   clear hR hsub h hc h8 hI hF hl hk0
   go_enter Tryz.func58,Tryz.ntmps58
   go_wp2_with fail
   refine HC.mono ?_
   rintro e w1 ⟨rfl,hb1⟩
   go_upto_region 2 with fail
   have hb2:Below w.heap.size w (w1.alloc (.cells #[.int .i64 (chkW l).1,.int .i64 (chkW l).2] 31)):=after hb1 (by go_grown) hb1.size
   have hX:=BoxAt.new w1 [.int .i64 (chkW l).1,.int .i64 (chkW l).2] 31
   have x0:=hX.2 0 _ rfl
   change (w1.alloc (.cells #[.int .i64 (chkW l).1,.int .i64 (chkW l).2] 31)).cell? _=_ at x0
   generalize (w1.alloc (.cells #[.int .i64 (chkW l).1,.int .i64 (chkW l).2] 31))=w2 at hb2 x0 ⊢
   generalize w1.heap.size=B1 at x0 ⊢
   have c0':w2.cell? ⟨q,0,none⟩=some (.slice ga B.L.length cap):=((bcell hb2).1 _ _ hql).trans c0
   have hql2:q<w2.heap.size:=Nat.lt_of_lt_of_le hql hb2.size
   have hf2:∀k,w2.frozen? ⟨q,k,none⟩=false:=(HI.out.next hb2).loose
   have HR2:Hid (BokRaw 151 97 3 w2 q 0 B (.slice ga B.L.length cap) ov V):=HR.out.save hql (.of_below (O:=fun _=>False) hb2) (fun q=>q) (fun _ _ _ _ q=>q)
   have HWc:Hid (∀j u,(flat l)[j]?=some u->w2.cell? ((⟨b,off,none⟩:Addr).add j)=some u):=wants_cells (HW.out.below hb2 (Nat.le_refl _))
   have HB2:Hid _:=hb2
   clear c0 hb1 hX HC hb2 hbl
   go_upto_region 7 with fail
   have HRow:Hid (w2.ownsRow (q+1) 151 4 (.slice ga B.L.length cap) B.L.length (flatD B.L V)):=HR2.out.row
   have HN1:Hid (some q ≠ (.slice ga B.L.length cap:Value).ownBlock):=fun e=>by have:=(HRow.out.lt q e.symm).1;omega
   go_region_law
    (first | (refine step_append_two (by rfl) (.tmp 26) (.tmp 27) 93 (by rfl) w2.heap.size 97 i0 (.agg #[.int .i64 0,.int .i64 0]) 2 16 Tryz.underlying93 hi hz0 hz1 hz2 rfl (by decide) (.slice none 0 0) 0 [] (by rfl) (World.ownsRow_nil _ _ _ _) ⟨b,off,none⟩ l.length lc (flat l) (by rfl) HFl.out (fun j u hj=>HWc.out j u hj) (flat_one _) (by have:=HLen.out;unfold maxLen;omega) (by have:=HLen.out;omega) (by simp) hpos ?_;intro v7 w7 hown7 hgrow7 hwh7;have hown7':w7.ownsRow w2.heap.size 97 2 v7 l.length (flat l):=(by simpa using hown7);clear hown7;obtain ⟨ga7,cap7,rfl⟩:=own_sl hown7';have HO7:Hid (w7.ownsRow w2.heap.size 97 2 (.slice ga7 l.length cap7) l.length (flat l)):=hown7';clear hown7' hwh7;have HB7:Hid (Below w2.heap.size w2 w7):=(((Below.refl _ _).drew).grown hgrow7 (by simp) (fun k e=>by simp [Value.ownBlock] at e));have hz7:w2.heap.size<=w7.heap.size:=HB7.out.size;have hq7:q<w7.heap.size:=Nat.lt_of_lt_of_le hql2 hz7;have k7:w7.cell? ⟨q,0,none⟩=some (.slice ga B.L.length cap):=((bcell HB7.out).1 _ _ hql2).trans c0';have f7:∀k,w7.frozen? ⟨q,k,none⟩=false:=loose q HB7.out hql2 hf2;clear hgrow7) | (refine step_append_two (by rfl) (.tmp 25) (.tmp 30) 65 (by rfl) (q+1) 151 j0 (.agg #[.slice none 0 0,.int .i64 0,.slice none 0 0,.slice none 0 0]) 4 80 Tryz.underlying65 hj hy0 hy1 hy2 rfl (by decide) (.slice ga B.L.length cap) _ _ (by rfl) (own_next (own_next HRow.out HB7.out) ((Below.refl _ _).alloc (Nat.le_refl _) _)) ⟨w7.heap.size,0,none⟩ 1 1 [.slice ga7 l.length cap7,.int .i64 0,.slice none 0 0,.slice none 0 0] (by rfl) rfl (four_lies (by simp [go_sem]) (by simp [go_sem]) (by simp [go_sem]) (by simp [go_sem])) four_cell (by have:=HLn8.out;unfold maxLen;omega) (by have:=HLn8.out;omega) (by simp;omega) (by decide) ?_;intro v8 w8 hown8 hgrow8 hwh8;obtain ⟨ga8,cap8,rfl⟩:=own_sl hown8;have HO8:Hid (w8.ownsRow (q+1) 151 4 (.slice ga8 (B.L.length+1) cap8) (B.L.length+1) (flatD B.L V++[.slice ga7 l.length cap7,.int .i64 0,.slice none 0 0,.slice none 0 0])):=hown8;clear hown8;have HW8:Hid _:=hwh8;clear hwh8;have k8:w8.cell? ⟨q,0,none⟩=some (.slice ga B.L.length cap):=hgrow8.cell (by simp [go_sem,k7,hq7]) HN1.out;have f8:∀k,w8.frozen? ⟨q,k,none⟩=false:=fun k=>(World.frozen?_of_block (hgrow8.block q (by simp;omega) HN1.out)).trans (by simp [go_sem,f7,hq7]);have hq8:q<w8.heap.size:=Nat.lt_of_lt_of_le hq7 (Nat.le_trans (by simp) hgrow8.size)))
   all_goals
    have hr7:w7.ownsRow (q+1) 97 2 (.slice ga7 l.length cap7) l.length (flat l):=by
     refine ⟨HO7.out.1,HO7.out.2.imp id ?_⟩
     rintro ⟨g,cap,cur,h1,h2,h3⟩
     exact ⟨g,cap,cur,h1,by omega,h3⟩
    have hB0:Below w.heap.size w w7:=after HB2.out HB7.out HB2.out.size
    have h8:Save (fun k=>(Value.slice ga B.L.length cap).ownBlock=some k) w7 w8:=(Save.of_below (by go_grown)).grown hgrow8 (fun k e _=>e)
    have hR9:=HR.out.begin (l:=l) (v7:=.slice ga7 l.length cap7) (v8:=.slice ga8 (B.L.length+1) cap8) hql (HI.out.rows HSub.out) hB0 hr7 (fun j hj=>⟨Nat.le_trans HB2.out.size (HO7.out.lt j hj).1,(HO7.out.lt j hj).2⟩) h8 HO8.out (fun j hj=>(HW8.out j hj).imp id (fun e=>by rw [e];simp))
    have HT:Hid (BokTo 151 97 3 O w (w8.setCell ⟨q,0,none⟩ (.slice ga8 (B.L.length+1) cap8)) q 0 { B with L:=B.L++[⟨l,0,[],[]⟩] }):=by
     have hqr:¬(Value.slice ga B.L.length cap).ownBlock=some q:=fun e=>HN1.out e.symm
     refine bok_to HI.out.own HI.out.mine ?_ hR9 (by simpa [go_sem] using f8) ?_ (fun j hj _=>(cell_set_off hj).trans ((h8.cell (p:=⟨q,j,none⟩) hq7 hqr).trans (hB0.cell (p:=⟨q,j,none⟩) hql)))
     ·exact (((Save.of_below hB0).trans h8 (fun j _ e=>HSub.out _ List.mem_cons_self j e))).setCell (p:=⟨q,0,none⟩) (fun _=>HI.out.mine) _
     ·intro u hu k hk
      have hsz:(w8.setCell (⟨q,0,none⟩:Addr) (.slice ga8 (B.L.length+1) cap8)).heap.size=w8.heap.size:=by simp
      rw [hsz]
      have z1:=hB0.size
      have z8:=h8.size
      have old:∀x∈(.slice ga B.L.length cap:Value) :: ov :: V.flatMap DV.all,x.ownBlock=some k->(O k∨w.heap.size<=k)∧k<w8.heap.size:=fun x hx hk=>⟨.inl (HSub.out x hx k hk),by have:=HI.out.own k (HSub.out x hx k hk);omega⟩
      have hfl:(V++[(⟨.slice ga7 l.length cap7,.slice none 0 0,.slice none 0 0⟩:DV)]).flatMap DV.all=V.flatMap DV.all++[.slice ga7 l.length cap7,.slice none 0 0,.slice none 0 0]:=by simp [DV.all]
      rw [hfl] at hu
      rcases List.mem_cons.1 hu with rfl | hu
      ·refine ⟨?_,(HO8.out.lt k hk).2⟩
       rcases HW8.out k hk with e | e
       ·exact (old _ List.mem_cons_self e).1
       ·right
        simp at e
        omega
      ·rcases List.mem_cons.1 hu with rfl | hu
       ·exact old _ (by simp) hk
       ·rcases List.mem_append.1 hu with hu | hu
        ·exact old _ (by simp [hu]) hk
        ·simp only [List.mem_cons,List.not_mem_nil,or_false] at hu
         rcases hu with rfl | rfl | rfl
         ·have:=HO7.out.lt k hk
          have:=HB2.out.size
          exact ⟨.inr (by omega),by omega⟩
         ·simp [Value.ownBlock] at hk
         ·simp [Value.ownBlock] at hk
    have hr4:IntKind.i64.wrap (((B.L.length+1:Nat):Int) - 1)=(B.L.length:Int):=by
     have:=HLn8.out
     rw [show (((B.L.length+1:Nat):Int) - 1)=(B.L.length:Int) by omega]
     go_unwrap
    clear hgrow8 c0' k7 f7
    go_wp2_with fail
    go_ret2
    exact ⟨by first | rfl | (congr;omega),HT.out⟩
 ·rw [beginR_bad hc]
  have hc':((chkW l).1 != 0)=true:=by simpa using hc
  clear h hc hI
  go_enter Tryz.func58,Tryz.ntmps58
  go_wp2_with fail
  refine HC.mono ?_
  rintro e w1 ⟨rfl,hb1⟩
  go_wp2_with fail
  go_quiet (fail)
  go_wp2_with fail
  go_ret2
  exact ⟨rfl,BokTo.stay HI.out (bdrewN (after hb1 (by go_grown) hb1.size) _)⟩
theorem shopsOf_own (la:Option Addr) (ll lc:Nat) (l:List (Int × Int)) (w:World) (hl:WantsAt w la l) (hll:l.length=ll) (hs:ll<2 ^ 62):
 Calls Tryz.prog 69 #[.slice la ll lc] w fun e w'=>(∃v,e=.returned v∧w'.ownsRow w.heap.size 3 1 v (shopsL l).length ((shopsL l).map (Value.int .i64)))∧Below w.heap.size w w':=by
 obtain ⟨i0,hi,hz0,hz1,hz2'⟩:=info_parts infoInt
 go_enter Tryz.func69,Tryz.ntmps69
 go_wp2_with fail
 go_loopg [3,4] 3 (fun g hv i wx=>∃k:Nat,k<=3∧g=3 - k∧i=.int .i64 k∧wx.ownsRow w.heap.size 3 1 hv (shopsTo l k).length ((shopsTo l k).map (Value.int .i64))∧Below w.heap.size w wx)
 case atStart=>exact ⟨0,Nat.zero_le _,rfl,rfl,World.ownsRow_nil _ _ _ _,Below.refl _ _⟩
 case round=>
  obtain ⟨k,hk,rfl,rfl,hR,hB⟩:=hrel
  have HR:Hid (wr.ownsRow w.heap.size 3 1 u3 (shopsTo l k).length ((shopsTo l k).map (Value.int .i64))):=hR
  have HB:Hid _:=hB
  have hz:=hB.size
  have hsl:=shopsTo_length l k
  have HSL:Hid _:=hsl
  clear hsl hR hB
  by_cases hlt:k<3
  ·have j0:(k:Int)<3:=by omega
   have j1:(0:Int)<=(k:Int):=by omega
   go_wp2_with fail
   go_loopg [5,6] ll (fun g h i wx=>∃(m:Nat) (b:Bool),m<=ll∧g=ll - m∧i=.int .i64 m∧h=.bool b∧Hid (b=stands (l.take m) (k:Int))∧(wx.ownsRow w.heap.size 3 1 u3 (shopsTo l k).length ((shopsTo l k).map (Value.int .i64))∧Hid (Below w.heap.size w wx)∧w.heap.size<=wx.heap.size))
   case atStart=>exact ⟨0,false,Nat.zero_le _,rfl,rfl,rfl,by simp [Hid,stands],HR.out,HB.out,hz⟩
   case round=>
    obtain ⟨m,b,hm,rfl,rfl,rfl,HM,hR2,HB2,hz2⟩:=hrel
    have HR2:Hid (wr.ownsRow w.heap.size 3 1 u3 (shopsTo l k).length ((shopsTo l k).map (Value.int .i64))):=hR2
    clear hR2 HR HB hz
    by_cases hlt2:m<ll
    ·obtain ⟨⟨c,d⟩,hml⟩:∃x,l[m]?=some x:=⟨_,List.getElem?_eq_getElem (by omega)⟩
     obtain ⟨bl,ol,rfl,hbl,hcl,-⟩:=hl m c d hml
     have hcl':wr.cell? ⟨bl,ol+m * 2,none⟩=some (.int .i64 c):=(HB2.out.cell (p:=⟨bl,ol+m * 2,none⟩) hbl).trans hcl
     have i1:(0:Int)<=(m:Int):=by omega
     have i2:(m:Int)<(ll:Int):=by omega
     have i3:(ll:Int)<2 ^ 62:=by omega
     clear hcl hl
     cases b
     ·have HM2:Hid ((shp c == (k:Int))=stands (l.take (m+1)) (k:Int)):=by
       show _=_
       rw [stands_next hml,<-HM.out,Bool.false_or]
      go_wp2_with fail
      refine (shopOf_any _ _).mono ?_
      rintro e w' ⟨rfl,rfl⟩
      go_wp2_with fail
      go_roundg (ll - (m+1))
      case measure=>omega
      case rel=>exact ⟨m+1,_,by omega,rfl,by simp,rfl,HM2,HR2.out,HB2,hz2⟩
     ·have HM2:Hid (true=stands (l.take (m+1)) (k:Int)):=by
       show _=_
       rw [stands_next hml,<-HM.out,Bool.true_or]
      go_wp2_with fail
      go_roundg (ll - (m+1))
      case measure=>omega
      case rel=>exact ⟨m+1,true,by omega,rfl,by simp,rfl,HM2,HR2.out,HB2,hz2⟩
    ·have hmm:m=ll:=by omega
     subst hmm
     have HM2:Hid (b=stands l (k:Int)):=by
      have q:=HM.out
      rw [List.take_of_length_le (l:=l) (by omega)] at q
      exact q
     clear HM
     cases b
     ·have HT:Hid _:=shopsTo_miss HM2.out.symm
      go_wp2_with fail
      go_roundg (3 - (k+1))
      case measure=>omega
      case rel=>exact ⟨k+1,by omega,rfl,by simp,by rw [HT.out];exact HR2.out,HB2.out⟩
     ·have HT:Hid _:=shopsTo_hit HM2.out.symm
      go_wp2_with (at_builtin;refine wpList_append_own _ rfl (.tmp 29) (.tmp 31) 66 rfl w.heap.size 3 i0 (.int .i64 0) 1 8 Tryz.underlying66 hi hz0 hz1 hz2' rfl (by decide) _ _ _ rfl (HR2.out.alloc _) ⟨wr.heap.size,0,none⟩ 1 1 [.int .i64 k] rfl rfl (num_new _ (by simp)) num_cell (by have:=HSL.out;unfold maxLen;omega) (by have:=HSL.out;omega) (by simp;omega) ?_;intro v7 w7 hown7 hgrow7 _)
      go_roundg (3 - (k+1))
      case measure=>omega
      case rel=>exact ⟨k+1,by omega,rfl,by simp,by rw [HT.out];simpa using hown7,own_below (HR2.out.alloc _) hgrow7 (HB2.out.alloc hz2 _) (by simp;omega) (Nat.le_refl _)⟩
  ·have j0:¬(k:Int)<3:=by omega
   have hk3:k=3:=by omega
   subst hk3
   have HRo:Hid (wr.ownsRow w.heap.size 3 1 u3 (shopsL l).length ((shopsL l).map (Value.int .i64))):=HR.out
   go_wp2_with fail
   go_ret
   exact ⟨⟨_,rfl,HRo.out⟩,HB.out⟩
theorem shopsOf_any (la:Option Addr) (ll lc:Nat) (l:List (Int × Int)) (w:World) (hl:WantsAt w la l) (hll:l.length=ll) (hs:ll<2 ^ 62):
 Calls Tryz.prog 69 #[.slice la ll lc] w fun e w'=>(∃ga cap,e=.returned (.slice ga (shopsL l).length cap)∧NumsAt w' ga (shopsL l))∧Below w.heap.size w w':=by
 refine (shopsOf_own la ll lc l w hl hll hs).mono ?_
 rintro e w' ⟨⟨v,rfl,hR⟩,hb⟩
 obtain ⟨ga,cap,rfl,hA,_⟩:=nums_of_own hR
 exact ⟨⟨ga,cap,rfl,hA⟩,hb⟩
structure DueSt (w:World) (bd:Nat) (vs:List Value) (l:List Ml) (v:Value) (wr:World):Prop where
 row:wr.ownsRow w.heap.size 142 6 v l.length (flat6 l)
 below:Below w.heap.size w wr
 box:BoxAt wr bd vs
 off:v.ownBlock ≠ some bd
theorem DueSt.next {w wr w1:World} {bd:Nat} {vs:List Value} {l:List Ml} {v:Value} (h:DueSt w bd vs l v wr) (hb:Below wr.heap.size wr w1):DueSt w bd vs l v w1:=⟨own_next h.row hb,after h.below hb h.below.size,h.box.next hb,h.off⟩
theorem DueSt.push {w wr w8:World} {bd:Nat} {vs:List Value} {l:List Ml} {v v8:Value} {X:Obj} {m:Ml} (h:DueSt w bd vs l v wr) (hg:(wr.alloc X).grownBy w8 v.ownBlock) (h8:w8.ownsRow w.heap.size 142 6 v8 (l.length+1) (flat6 l++m.cells)) (hw:∀k,v8.ownBlock=some k->v.ownBlock=some k∨k=(wr.alloc X).heap.size):DueSt w bd vs (l++[m]) v8 w8:=by
 have h1:=h.next ((Below.refl _ _).alloc (Nat.le_refl _) X)
 refine ⟨?_,own_below h1.row hg h1.below h1.below.size (Nat.le_refl _),h1.box.save ((Save.refl _ _).grown hg (fun k e _=>e)) h.off,fun e=>?_⟩
 ·rw [List.length_append,flat6_snoc]
  exact h8
 ·rcases hw bd e with q | q
  ·exact h.off q
  ·have:=h1.box.1
   omega
theorem NumsAt.save {O:Nat->Prop} {w w1:World} {la:Option Addr} {l:List Int} (h:NumsAt w la l) (hb:Save O w w1) (hn:∀a,la=some a->¬O a.block):NumsAt w1 la l:=by
 intro k c hk
 obtain ⟨b,off,e,hlt,h0⟩:=h k c hk
 have hn':¬O b:=hn _ e
 exact ⟨b,off,e,Nat.lt_of_lt_of_le hlt hb.size,(hb.cell (p:=⟨b,off+k,none⟩) hlt hn').trans h0⟩
theorem qdue_any (O:Nat->Prop) (B:Bok) (q:Nat) (w:World) (h:BokIn 151 97 3 O w q 0 B) (hI:BInv B):
 Calls Tryz.prog 44 #[.pointer (some ⟨q,0,none⟩)] w fun e w'=>(∃v,e=.returned v∧w'.ownsRow w.heap.size 142 6 v (dueR B).length (flat6 (dueR B)))∧Below w.heap.size w w':=by
 obtain ⟨i0,hi,hz0,hz1,hz2⟩:=info_parts infoMail
 obtain ⟨rv,ov,V,hR,_⟩:=h.raw
 have c0:=hR.c0
 have hql:=h.lt
 obtain ⟨ga,cap,rfl⟩:=own_sl hR.row
 have HR:Hid (BokRaw 151 97 3 w q 0 B (.slice ga B.L.length cap) ov V):=hR
 have HInv:Hid (BInv B):=hI
 have h8:(B.L.length:Int)<=8:=by have:=hI.len;omega
 clear hR h hI
 go_enter Tryz.func44,Tryz.ntmps44
 go_wp2_with fail
 go_loopg [3,4,5,6,7,8] B.L.length (fun g s3 s4 _ _ _ _ wr=>∃(k:Nat) (v3:Value),k<=B.L.length∧g=B.L.length - k∧v3=s3∧s4=.int .i64 k∧wr.ownsRow w.heap.size 142 6 v3 (duesTo B.L k).length (flat6 (duesTo B.L k))∧Below w.heap.size w wr)
 case atStart=>exact ⟨0,_,Nat.zero_le _,rfl,rfl,rfl,by rw [duesTo_zero];exact World.ownsRow_nil _ _ _ _,Below.refl _ _⟩
 case round=>
  obtain ⟨k,v3,hk,rfl,rfl,rfl,hown,hS⟩:=hrel
  have c0':wr.cell? ⟨q,0,none⟩=some (.slice ga B.L.length cap):=((bcell hS).1 _ _ hql).trans c0
  have HC0:Hid _:=c0
  clear c0
  by_cases hlt:k<B.L.length
  ·obtain ⟨D,hkD⟩:∃x,B.L[k]?=some x:=⟨_,List.getElem?_eq_getElem hlt⟩
   obtain ⟨g,cap',v,erv,hV,h4,_,_⟩:=HR.out.deal4 hkD
   obtain ⟨rfl,rfl⟩:ga=some ⟨g,0,none⟩∧cap=cap':=by simpa using erv
   have hF:=HInv.out.fit D (List.mem_of_getElem? hkD)
   have hYl:=HInv.out.yesLen (List.mem_of_getElem? hkD)
   obtain ⟨vw,vy,vo⟩:=v
   obtain ⟨rw_,ry,ro⟩:=HR.out.deal k D ⟨vw,vy,vo⟩ hkD hV
   obtain ⟨gw,capw,e1,hWa,_⟩:=wants_of_own rw_
   obtain ⟨gy,capy,e2,hYa,_⟩:=nums_of_own ry
   obtain ⟨go,capo,e3,hOa,_⟩:=nums_of_own ro
   simp only at e1 e2 e3
   subst e1
   subst e2
   subst e3
   have qc:∀o,wr.cell? ⟨g,o,none⟩=w.cell? ⟨g,o,none⟩:=fun o=>(bcell hS).1 _ _ h4.lt
   have d0:wr.cell? ⟨g,k * 4,none⟩=some (.slice gw D.w.length capw):=(qc _).trans h4.c0
   have d1:wr.cell? ⟨g,k * 4+1,none⟩=some (.int .i64 D.st):=(qc _).trans h4.c1
   have d2:wr.cell? ⟨g,k * 4+2,none⟩=some (.slice gy D.yes.length capy):=(qc _).trans h4.c2
   have d3:wr.cell? ⟨g,k * 4+3,none⟩=some (.slice go D.ov.length capo):=(qc _).trans h4.c3
   have j0:(0:Int)<=(k:Int):=by omega
   have j1:(k:Int)<(B.L.length:Int):=by omega
   have HWa:Hid (WantsAt w gw D.w):=hWa
   have HYa:Hid (NumsAt w gy D.yes):=hYa
   have HOa:Hid (NumsAt w go D.ov):=hOa
   have HYl:Hid (D.yes.length<=4∧D.ov.length<=3∧D.w.length<=4):=hYl
   have HOw:Hid (wr.ownsRow w.heap.size 142 6 v3 (duesTo B.L k).length (flat6 (duesTo B.L k))):=hown
   have HKL:Hid (k<B.L.length):=hlt
   have HN:Hid _:=duesTo_next hkD
   have HLn:Hid ((duesTo B.L k).length<=32):=by have:=duesTo_len (k:=k) HInv.out.fit;have:=HInv.out.len;show _<=_;omega
   clear hown hk hlt hkD h4 rw_ ry ro hF hWa hYa hOa erv hYl qc hV
   go_upto_region 6 with fail
   have hb2:Below wr.heap.size wr (wr.alloc (.cells #[.slice gw D.w.length capw,.int .i64 D.st,.slice gy D.yes.length capy,.slice go D.ov.length capo] 151)):=(Below.refl _ _).alloc (Nat.le_refl _) _
   have hY:=BoxAt.new wr [.slice gw D.w.length capw,.int .i64 D.st,.slice gy D.yes.length capy,.slice go D.ov.length capo] 151
   change BoxAt (wr.alloc (.cells #[.slice gw D.w.length capw,.int .i64 D.st,.slice gy D.yes.length capy,.slice go D.ov.length capo] 151)) _ _ at hY
   have HSt:Hid (DueSt w wr.heap.size [.slice gw D.w.length capw,.int .i64 D.st,.slice gy D.yes.length capy,.slice go D.ov.length capo] (duesTo B.L k) v3 (wr.alloc (.cells #[.slice gw D.w.length capw,.int .i64 D.st,.slice gy D.yes.length capy,.slice go D.ov.length capo] 151))):=⟨own_next HOw.out hb2,after hS hb2 hS.size,hY,fun e=>by have:=(HOw.out.lt _ e).2;omega⟩
   generalize (wr.alloc (.cells #[.slice gw D.w.length capw,.int .i64 D.st,.slice gy D.yes.length capy,.slice go D.ov.length capo] 151))=w2 at hY HSt ⊢
   generalize wr.heap.size=bd at hY HSt ⊢
   have y1:=hY.2 1 _ rfl
   clear hb2 d0 d1 d2 d3 HOw hS c0'
   by_cases hst:D.st=0
   ·have hst':(D.st == 0)=true:=by simp [hst]
    have HD:Hid (dueD (k:Int) D=asksR (k:Int) D.yes 0 D.w):=by show _=_;unfold dueD;rw [if_pos hst]
    clear hst hY
    go_wp2_with fail
    clear y1
    go_loopg [3,6] D.w.length (fun g s3 s6 wx=>∃(i:Nat) (v:Value),i<=D.w.length∧g=D.w.length - i∧v=s3∧s6=.int .i64 i∧DueSt w bd [.slice gw D.w.length capw,.int .i64 D.st,.slice gy D.yes.length capy,.slice go D.ov.length capo] (duesTo B.L k++asksTo (k:Int) D.yes D.w i) v wx)
    case atStart=>exact ⟨0,_,Nat.zero_le _,rfl,rfl,rfl,by rw [asksTo_zero,List.append_nil];exact HSt.out⟩
    case round=>
     obtain ⟨i,v,hi2,rfl,rfl,rfl,hS2⟩:=hrel
     clear HSt
     have x0:=hS2.box.2 0 _ rfl
     have x2:=hS2.box.2 2 _ rfl
     by_cases hil:i<D.w.length
     ·obtain ⟨⟨c,d⟩,hwi⟩:∃x,D.w[i]?=some x:=⟨_,List.getElem?_eq_getElem hil⟩
      obtain ⟨bl,ol,rfl,hbl,e0,e1⟩:=HWa.out i c d hwi
      have p0:wr.cell? ⟨bl,ol+i * 2,none⟩=some (.int .i64 c):=((bcell hS2.below).1 _ _ hbl).trans e0
      have p1:wr.cell? ⟨bl,ol+i * 2+1,none⟩=some (.int .i64 d):=((bcell hS2.below).1 _ _ hbl).trans e1
      have i0':(0:Int)<=(i:Int):=by omega
      have i1':(i:Int)<(D.w.length:Int):=by omega
      have i2':(D.w.length:Int)<=4:=by have:=HYl.out;omega
      have HIL:Hid (i<D.w.length):=hil
      have HWi:Hid (D.w[i]?=some (c,d)):=hwi
      have HS2:Hid (DueSt w bd [.slice (some ⟨bl,ol,none⟩) D.w.length capw,.int .i64 D.st,.slice gy D.yes.length capy,.slice go D.ov.length capo] (duesTo B.L k++asksTo (k:Int) D.yes D.w i) v wr):=hS2
      have HIn:Hid _:=in_any gy D.yes.length capy D.yes (i:Int) wr (HYa.out.below hS2.below (Nat.le_refl _)) rfl (by have:=HYl.out;omega)
      have hr4:IntKind.i64.wrap ((i:Int)+1)=(i:Int)+1:=by go_unwrap
      clear hS2 e0 e1 hil hwi hi2
      go_wp2_with fail
      refine Calls.mono HIn.out ?_
      rintro e w3 ⟨rfl,rfl⟩
      clear HIn
      by_cases hm:(i:Int)∈D.yes
      ·rw [decide_eq_true hm]
       have HE:Hid _:=asksTo_hit (n:=(k:Int)) HWi.out hm
       clear hm
       go_wp2_with fail
       go_roundg (D.w.length - (i+1))
       case measure=>have:=HIL.out;omega
       case rel=>exact ⟨i+1,v,HIL.out,rfl,rfl,by simp,by rw [HE.out];exact HS2.out⟩
      ·rw [decide_eq_false hm]
       have HE:Hid _:=asksTo_miss (n:=(k:Int)) HWi.out hm
       have HLa:Hid ((duesTo B.L k++asksTo (k:Int) D.yes D.w i).length<=36):=by have:=asksTo_len (k:Int) D.yes D.w i;have:=HLn.out;have:=HIL.out;have:=HYl.out;show _<=_;rw [List.length_append];omega
       have HSz:Hid (w.heap.size<=w3.heap.size):=HS2.out.below.size
       have hbx:=HS2.out.box.1
       have hblw:bl<w3.heap.size:=Nat.lt_of_lt_of_le hbl HS2.out.below.size
       have HNb:Hid (v.ownBlock ≠ some bl):=fun e=>by have:=(HS2.out.row.lt _ e).1;omega
       have HNd:Hid (v.ownBlock ≠ some bd):=HS2.out.off
       clear hm
       go_upto_region 11 with fail
       have HK:Hid (∀w',Below w3.heap.size w3 w'->w'.cell? ⟨bd,0,none⟩=some (.slice (some ⟨bl,ol,none⟩) D.w.length capw)∧w'.cell? ⟨bl,ol+i * 2,none⟩=some (.int .i64 c)∧w'.cell? ⟨bl,ol+i * 2+1,none⟩=some (.int .i64 d)):=fun w' hb=>⟨((bcell hb).1 _ _ hbx).trans x0,((bcell hb).1 _ _ hblw).trans p0,((bcell hb).1 _ _ hblw).trans p1⟩
       obtain ⟨ll,hll⟩:∃ll,ll=duesTo B.L k++asksTo (k:Int) D.yes D.w i:=⟨_,rfl⟩
       have HLL:Hid (ll=duesTo B.L k++asksTo (k:Int) D.yes D.w i):=hll
       rw [<-hll] at HS2 HLa
       clear hll
       go_region_held3 (fun w'=>w'.cell? ⟨bd,0,none⟩=some (.slice (some ⟨bl,ol,none⟩) D.w.length capw)∧w'.cell? ⟨bl,ol+i * 2,none⟩=some (.int .i64 c)∧w'.cell? ⟨bl,ol+i * 2+1,none⟩=some (.int .i64 d))
        (first | exact HK9 | exact HK.out _ (by go_grown))
        (first | (refine step_append_two (by rfl) (.tmp 40) (.tmp 55) 71 (by rfl) w.heap.size 142 i0 (.agg #[.int .i64 0,.int .i64 0,.int .i64 0,.int .i64 0,.int .i64 0,.bool false]) 6 48 Tryz.underlying71 hi hz0 hz1 hz2 rfl (by decide) v _ _ (by rfl) (own_next HS2.out.row (by go_grown)) ⟨w3.heap.size,0,none⟩ 1 1 [.int .i64 1,.int .i64 (k:Int),.int .i64 (shp c),.int .i64 c,.int .i64 d,.bool false] (by rfl) rfl (mail_lies (by simp [go_sem]) (by simp [go_sem]) (by simp [go_sem]) (by simp [go_sem]) (by simp [go_sem]) (by simp [go_sem])) mail_cell (by have:=HLa.out;unfold maxLen;omega) (by have:=HLa.out;omega) (by have:=HSz.out;simp;omega) (by decide) ?_;intro v8 w8 hown8 hgrow8 hwh8;have HO8:Hid (w8.ownsRow w.heap.size 142 6 v8 (ll.length+1) (flat6 ll++[.int .i64 1,.int .i64 (k:Int),.int .i64 (shp c),.int .i64 c,.int .i64 d,.bool false])):=hown8;clear hown8;have HK9:w8.cell? ⟨bd,0,none⟩=some (.slice (some ⟨bl,ol,none⟩) D.w.length capw)∧w8.cell? ⟨bl,ol+i * 2,none⟩=some (.int .i64 c)∧w8.cell? ⟨bl,ol+i * 2+1,none⟩=some (.int .i64 d):=⟨hgrow8.cell (by simp [go_sem,x0,hbx]) (fun e=>HNd.out e.symm),hgrow8.cell (by simp [go_sem,p0,hblw]) (fun e=>HNb.out e.symm),hgrow8.cell (by simp [go_sem,p1,hblw]) (fun e=>HNb.out e.symm)⟩;have HG8:Hid _:=hgrow8;have HW8:Hid _:=hwh8;clear hgrow8 hwh8) | (go_at_call 68;refine (shopOf_any _ _).mono ?_;rintro e w9 ⟨rfl,rfl⟩))
       all_goals
        have HS8:Hid (DueSt w bd [.slice (some ⟨bl,ol,none⟩) D.w.length capw,.int .i64 D.st,.slice gy D.yes.length capy,.slice go D.ov.length capo] (ll++[⟨1,(k:Int),shp c,c,d,false⟩]) v8 w8):=(HS2.out.next ((Below.refl _ _).drew)).push HG8.out HO8.out HW8.out
        clear HG8 HO8 HW8 HK9 x0 x2 p0 p1
        go_wp2_with fail
        go_roundg (D.w.length - (i+1))
        case measure=>have:=HIL.out;omega
        case rel=>exact ⟨i+1,v8,HIL.out,rfl,rfl,by simp,by rw [HE.out,<-List.append_assoc,<-HLL.out];exact HS8.out⟩
     ·have hii:i=D.w.length:=by omega
      subst hii
      rw [asksTo_all,<-HD.out,<-HN.out] at hS2
      have HS2:Hid _:=hS2
      have hr4:IntKind.i64.wrap ((k:Int)+1)=(k:Int)+1:=by go_unwrap
      clear hS2 hi2 hil
      go_wp2_with fail
      go_roundg (B.L.length - (k+1))
      case measure=>have:=HKL.out;omega
      case rel=>exact ⟨k+1,v,HKL.out,rfl,rfl,by simp,HS2.out.row,HS2.out.below⟩
   ·have hst':(D.st == 0)=false:=by simpa using hst
    have HD:Hid (dueD (k:Int) D=endsR (k:Int) D):=by show _=_;unfold dueD;rw [if_neg hst]
    have HSh:Hid _:=shopsOf_own gw D.w.length capw D.w w2 (HWa.out.below HSt.out.below (Nat.le_refl _)) rfl (by have:=HYl.out;omega)
    have y0:=hY.2 0 _ rfl
    clear hst hY
    go_wp2_with fail
    refine Calls.mono HSh.out ?_
    rintro e w3 ⟨⟨vs,rfl,hrs⟩,hb3⟩
    have HSt3:Hid _:=HSt.out.next hb3
    obtain ⟨gs,caps,rfl,hNs,_⟩:=nums_of_own hrs
    have HNs:Hid (NumsAt w3 gs (shopsL D.w)):=hNs
    have HVs:Hid (∀a,gs=some a->v3.ownBlock ≠ some a.block):=fun a e e2=>by
     subst e
     have h1:=(hrs.lt a.block rfl).1
     have h2:=(HSt.out.row.lt _ e2).2
     omega
    have HL3:Hid ((shopsL D.w).length<=3):=shopsTo_length D.w 3
    clear hrs hb3 hNs HSh HSt y0 y1
    go_wp2_with fail
    go_loopg [3,8] (shopsL D.w).length (fun g s3 s8 wx=>∃(i:Nat) (v:Value),i<=(shopsL D.w).length∧g=(shopsL D.w).length - i∧v=s3∧s8=.int .i64 i∧DueSt w bd [.slice gw D.w.length capw,.int .i64 D.st,.slice gy D.yes.length capy,.slice go D.ov.length capo] (duesTo B.L k++endsTo (k:Int) D i) v wx∧Hid (NumsAt wx gs (shopsL D.w))∧Hid (∀a,gs=some a->v.ownBlock ≠ some a.block))
    case atStart=>exact ⟨0,_,Nat.zero_le _,rfl,rfl,rfl,by rw [endsTo_zero,List.append_nil];exact HSt3.out,HNs,HVs⟩
    case round=>
     obtain ⟨i,v,hi2,rfl,rfl,rfl,hS2,HNr,HVr⟩:=hrel
     clear HSt3 HNs HVs
     have x1:=hS2.box.2 1 _ rfl
     have x3:=hS2.box.2 3 _ rfl
     by_cases hil:i<(shopsL D.w).length
     ·obtain ⟨s,hsi⟩:∃x,(shopsL D.w)[i]?=some x:=⟨_,List.getElem?_eq_getElem hil⟩
      obtain ⟨bl,ol,egs,hbl,p0⟩:=HNr.out i s hsi
      subst egs
      have i0':(0:Int)<=(i:Int):=by omega
      have i1':(i:Int)<((shopsL D.w).length:Int):=by omega
      have i2':((shopsL D.w).length:Int)<=3:=by have:=HL3.out;omega
      have HIL:Hid (i<(shopsL D.w).length):=hil
      have HSi:Hid ((shopsL D.w)[i]?=some s):=hsi
      have HS2:Hid (DueSt w bd [.slice gw D.w.length capw,.int .i64 D.st,.slice gy D.yes.length capy,.slice go D.ov.length capo] (duesTo B.L k++endsTo (k:Int) D i) v wr):=hS2
      have HIn:Hid (∀W,Below wr.heap.size wr W->Calls Tryz.prog 67 #[.slice go D.ov.length capo,.int .i64 s] W fun e w'=>e=.returned (.bool (decide (s∈D.ov)))∧w'=W):=fun W hW=>in_any go D.ov.length capo D.ov s W ((HOa.out.below HS2.out.below (Nat.le_refl _)).below hW (Nat.le_refl _)) rfl (by have:=HYl.out;omega)
      have hr4:IntKind.i64.wrap ((i:Int)+1)=(i:Int)+1:=by go_unwrap
      have hbx:=hS2.box.1
      have HK:Hid (∀w',Below wr.heap.size wr w'->w'.cell? ⟨bd,3,none⟩=some (.slice go D.ov.length capo)∧w'.cell? ⟨bl,ol+i,none⟩=some (.int .i64 s)∧Below wr.heap.size wr w'):=fun w' hb=>⟨((bcell hb).1 _ _ hbx).trans x3,((bcell hb).1 _ _ hbl).trans p0,hb⟩
      clear hS2 hil hsi hi2
      go_upto_region 16 with fail
      go_region_held3 (fun w'=>w'.cell? ⟨bd,3,none⟩=some (.slice go D.ov.length capo)∧w'.cell? ⟨bl,ol+i,none⟩=some (.int .i64 s)∧Below wr.heap.size wr w')
       (first | exact HK.out _ (by go_grown))
       (first | (go_at_call 67;refine Calls.mono (HIn.out _ (by go_grown)) ?_;rintro e w9 ⟨rfl,rfl⟩))
      have hbd:Below wr.heap.size wr wr.drew:=(Below.refl _ _).drew
      have HS3:Hid (DueSt w bd [.slice gw D.w.length capw,.int .i64 D.st,.slice gy D.yes.length capy,.slice go D.ov.length capo] (duesTo B.L k++endsTo (k:Int) D i) v wr.drew):=HS2.out.next hbd
      have HN3:Hid (NumsAt wr.drew (some ⟨bl,ol,none⟩) (shopsL D.w)):=HNr.out.below hbd (Nat.le_refl _)
      have z1:wr.drew.cell? ⟨bd,1,none⟩=some (.int .i64 D.st):=((bcell hbd).1 _ _ hbx).trans x1
      have z2:wr.drew.cell? ⟨bl,ol+i,none⟩=some (.int .i64 s):=((bcell hbd).1 _ _ hbl).trans p0
      have zl:bl<wr.drew.heap.size:=hbl
      have zx:bd<wr.drew.heap.size:=hbx
      generalize wr.drew=w5 at HS3 HN3 z1 z2 zl zx ⊢
      clear x1 x3 p0 hbl hbx hbd HK HIn HS2 HNr
      by_cases hm:s∈D.ov
      ·rw [decide_eq_true hm]
       have HE:Hid _:=endsTo_hit (n:=(k:Int)) HSi.out hm
       clear hm
       go_wp2_with fail
       go_roundg ((shopsL D.w).length - (i+1))
       case measure=>have:=HIL.out;omega
       case rel=>exact ⟨i+1,v,HIL.out,rfl,rfl,by simp,by rw [HE.out];exact HS3.out,HN3,HVr⟩
      ·rw [decide_eq_false hm]
       have HE:Hid _:=endsTo_miss (n:=(k:Int)) HSi.out hm
       have HLa:Hid ((duesTo B.L k++endsTo (k:Int) D i).length<=36):=by have:=endsTo_len (k:Int) D i;have:=HLn.out;have:=HIL.out;have:=HL3.out;show _<=_;rw [List.length_append];omega
       have HSz:Hid (w.heap.size<=w5.heap.size):=HS3.out.below.size
       have HNb:Hid (v.ownBlock ≠ some bl):=HVr.out _ rfl
       have HNd:Hid (v.ownBlock ≠ some bd):=HS3.out.off
       clear hm
       go_upto_region 17 with fail
       have HK:Hid (∀w',Below w5.heap.size w5 w'->w'.cell? ⟨bd,1,none⟩=some (.int .i64 D.st)∧w'.cell? ⟨bl,ol+i,none⟩=some (.int .i64 s)):=fun w' hb=>⟨((bcell hb).1 _ _ zx).trans z1,((bcell hb).1 _ _ zl).trans z2⟩
       obtain ⟨ll,hll⟩:∃ll,ll=duesTo B.L k++endsTo (k:Int) D i:=⟨_,rfl⟩
       have HLL:Hid (ll=duesTo B.L k++endsTo (k:Int) D i):=hll
       rw [<-hll] at HS3 HLa
       clear hll
       go_region_held3 (fun w'=>w'.cell? ⟨bd,1,none⟩=some (.int .i64 D.st)∧w'.cell? ⟨bl,ol+i,none⟩=some (.int .i64 s))
        (first | exact HK9 | exact HK.out _ (by go_grown))
        (first | (refine step_append_two (by rfl) (.tmp 74) (.tmp 84) 71 (by rfl) w.heap.size 142 i0 (.agg #[.int .i64 0,.int .i64 0,.int .i64 0,.int .i64 0,.int .i64 0,.bool false]) 6 48 Tryz.underlying71 hi hz0 hz1 hz2 rfl (by decide) v _ _ (by rfl) (own_next HS3.out.row (by go_grown)) ⟨w5.heap.size,0,none⟩ 1 1 [.int .i64 3,.int .i64 (k:Int),.int .i64 s,.int .i64 0,.int .i64 0,.bool (D.st == 1)] (by rfl) rfl (mail_lies (by simp [go_sem]) (by simp [go_sem]) (by simp [go_sem]) (by simp [go_sem]) (by simp [go_sem]) (by simp [go_sem])) mail_cell (by have:=HLa.out;unfold maxLen;omega) (by have:=HLa.out;omega) (by have:=HSz.out;simp;omega) (by decide) ?_;intro v8 w8 hown8 hgrow8 hwh8;have HO8:Hid (w8.ownsRow w.heap.size 142 6 v8 (ll.length+1) (flat6 ll++[.int .i64 3,.int .i64 (k:Int),.int .i64 s,.int .i64 0,.int .i64 0,.bool (D.st == 1)])):=hown8;clear hown8;have HK9:w8.cell? ⟨bd,1,none⟩=some (.int .i64 D.st)∧w8.cell? ⟨bl,ol+i,none⟩=some (.int .i64 s):=⟨hgrow8.cell (by simp [go_sem,z1,zx]) (fun e=>HNd.out e.symm),hgrow8.cell (by simp [go_sem,z2,zl]) (fun e=>HNb.out e.symm)⟩;have HG8:Hid _:=hgrow8;have HW8:Hid _:=hwh8;clear hgrow8 hwh8))
       all_goals
        have HS8:Hid (DueSt w bd [.slice gw D.w.length capw,.int .i64 D.st,.slice gy D.yes.length capy,.slice go D.ov.length capo] (ll++[⟨3,(k:Int),s,0,0,D.st == 1⟩]) v8 w8):=(HS3.out.next ((Below.refl _ _).drew)).push HG8.out HO8.out HW8.out
        have HN8:Hid (NumsAt w8 (some ⟨bl,ol,none⟩) (shopsL D.w)):=NumsAt.save (O:=fun k=>v.ownBlock=some k) (HN3.out.below (by go_grown) (Nat.le_refl _)) ((Save.refl _ _).grown HG8.out (fun k e _=>e)) (fun a e q=>HVr.out a e q)
        have HV8:Hid (∀a,(some ⟨bl,ol,none⟩:Option Addr)=some a->v8.ownBlock ≠ some a.block):=fun a e e2=>by
         rcases HW8.out _ e2 with q | q
         ·exact HVr.out a e q
         ·obtain rfl:=Option.some.inj e
          simp at q
          omega
        clear HG8 HO8 HW8 HK9 z1 z2
        go_wp2_with fail
        go_roundg ((shopsL D.w).length - (i+1))
        case measure=>have:=HIL.out;omega
        case rel=>exact ⟨i+1,v8,HIL.out,rfl,rfl,by simp,by rw [HE.out,<-List.append_assoc,<-HLL.out];exact HS8.out,HN8,HV8⟩
     ·have hii:i=(shopsL D.w).length:=by omega
      subst hii
      rw [endsTo_all,<-HD.out,<-HN.out] at hS2
      have HS2:Hid _:=hS2
      have hr4:IntKind.i64.wrap ((k:Int)+1)=(k:Int)+1:=by go_unwrap
      clear hS2 hi2 hil
      go_wp2_with fail
      go_roundg (B.L.length - (k+1))
      case measure=>have:=HKL.out;omega
      case rel=>exact ⟨k+1,v,HKL.out,rfl,rfl,by simp,HS2.out.row,HS2.out.below⟩
  ·have hkk:k=B.L.length:=by omega
   subst hkk
   rw [duesTo_all] at hown
   have HOw:Hid (wr.ownsRow w.heap.size 142 6 v3 (duesR 0 B.L).length (flat6 (duesR 0 B.L))):=hown
   clear hown
   go_wp2_with fail
   go_ret
   exact ⟨⟨v3,rfl,HOw.out⟩,hS⟩
theorem qhear_none (O:Nat->Prop) (B:Bok) (q:Nat) (m:Ml) (w:World) (h:BokIn 151 97 3 O w q 0 B) (hI:BInv B) (hd:dealAt B m.deal=none):
 Calls Tryz.prog 94 #[.pointer (some ⟨q,0,none⟩),.agg #[.int .i64 m.kind,.int .i64 m.deal,.int .i64 m.shop,.int .i64 m.c,.int .i64 m.d,.bool m.yes]] w fun e w'=>e=.returned (.tuple #[])∧BokTo 151 97 3 O w w' q 0 (hearR B m):=by
 have HI:Hid (BokIn 151 97 3 O w q 0 B):=h
 have HE:Hid _:=hear_none hd
 have hs:stR B m.deal= -1:=by unfold stR;rw [hd]
 go_enter Tryz.func94,Tryz.ntmps94
 go_upto_region 1 with fail
 have hb1:Below w.heap.size w (w.alloc (.cells #[.int .i64 m.kind,.int .i64 m.deal,.int .i64 m.shop,.int .i64 m.c,.int .i64 m.d,.bool m.yes] 142)):=(Below.refl _ _).alloc (Nat.le_refl _) _
 have hX:=MBx.new w m
 generalize (w.alloc (.cells #[.int .i64 m.kind,.int .i64 m.deal,.int .i64 m.shop,.int .i64 m.c,.int .i64 m.d,.bool m.yes] 142))=w1 at hb1 hX ⊢
 have HSt:Hid _:=qstate_any O B q m.deal w1 (h.next hb1) hI.len
 rw [hs] at HSt
 generalize w.heap.size=B0 at hX ⊢
 have x1:=hX.c1
 clear h hI hd hX hs
 go_wp2_with fail
 refine Calls.mono HSt.out ?_
 rintro e w1' ⟨rfl,rfl⟩
 go_wp2_with fail
 exact bodyPost_ret (v:=.tuple #[]) (by simp [results,Tryz.results94,go_sem]) rfl ⟨rfl,by rw [HE.out];exact BokTo.stay HI.out hb1⟩
theorem qhear_other (O:Nat->Prop) (B:Bok) (q:Nat) (m:Ml) (D:Dl) (w:World) (h:BokIn 151 97 3 O w q 0 B) (hI:BInv B) (hd:dealAt B m.deal=some D) (h24:m.kind ≠ 2∧m.kind ≠ 4):
 Calls Tryz.prog 94 #[.pointer (some ⟨q,0,none⟩),.agg #[.int .i64 m.kind,.int .i64 m.deal,.int .i64 m.shop,.int .i64 m.c,.int .i64 m.d,.bool m.yes]] w fun e w'=>e=.returned (.tuple #[])∧BokTo 151 97 3 O w w' q 0 (hearR B m):=by
 have HI:Hid (BokIn 151 97 3 O w q 0 B):=h
 have HInv:Hid (BInv B):=hI
 have hYl:=hI.yesLen (dealAt_mem hd)
 obtain ⟨rv,ov,V,hR,hsub⟩:=h.raw
 obtain ⟨k,hmk0,hk,hkD⟩:=dealAt_some hd
 have hmk:Hid (m.deal=(k:Int)):=hmk0
 clear hmk0
 obtain ⟨g,cap,v,rfl,hV,h4,hqg,_⟩:=hR.deal4 hkD
 obtain ⟨vw,vy,vo⟩:=v
 obtain ⟨rw_,ry,ro⟩:=hR.deal k D ⟨vw,vy,vo⟩ hkD hV
 obtain ⟨gw,capw,e1,hWa,_⟩:=wants_of_own rw_
 obtain ⟨gy,capy,e2,hYa,_⟩:=nums_of_own ry
 obtain ⟨go,capo,e3,hOa,_⟩:=nums_of_own ro
 simp only at e1 e2 e3
 subst e1
 subst e2
 subst e3
 have c0:=hR.c0
 have hql:=h.lt
 have j0:(0:Int)<=(k:Int):=by omega
 have j1:(k:Int)<(B.L.length:Int):=by omega
 have j2:(B.L.length:Int)<=8:=by have:=hI.len;omega
 have HK24:Hid (m.kind ≠ 2∧m.kind ≠ 4):=h24
 clear h24
 go_enter Tryz.func94,Tryz.ntmps94
 go_upto_region 1 with fail
 have hb1:Below w.heap.size w (w.alloc (.cells #[.int .i64 m.kind,.int .i64 m.deal,.int .i64 m.shop,.int .i64 m.c,.int .i64 m.d,.bool m.yes] 142)):=(Below.refl _ _).alloc (Nat.le_refl _) _
 have hX:=MBx.new w m
 generalize (w.alloc (.cells #[.int .i64 m.kind,.int .i64 m.deal,.int .i64 m.shop,.int .i64 m.c,.int .i64 m.d,.bool m.yes] 142))=w1 at hb1 hX ⊢
 have HSt:Hid _:=qstate_any O B q m.deal w1 (h.next hb1) hI.len
 have hst1:=stR_there hI hd
 have h41:=h4.next hb1
 have c01:w1.cell? ⟨q,0,none⟩=some (.slice (some ⟨g,0,none⟩) B.L.length cap):=((bcell hb1).1 _ _ hql).trans c0
 have HWa:Hid (WantsAt w1 gw D.w):=hWa.below hb1 (Nat.le_refl _)
 have HYa:Hid (NumsAt w1 gy D.yes):=hYa.below hb1 (Nat.le_refl _)
 have HOa:Hid (NumsAt w1 go D.ov):=hOa.below hb1 (Nat.le_refl _)
 have hgw:g<w.heap.size:=h4.lt
 have HBg:Hid (g ≠ w.heap.size):=by show _ ≠ _;omega
 generalize hB0:w.heap.size=B0 at hX ⊢
 have HB0:Hid (w.heap.size=B0):=hB0
 clear hB0
 have x1:=hX.c1
 have x1':=hX.c1
 rw [hmk.out] at x1'
 have hz1:=hX.lt
 have HR:Hid (BokRaw 151 97 3 w q 0 B (.slice (some ⟨g,0,none⟩) B.L.length cap) ov V):=hR
 have HV:Hid (V[k]?=some ⟨.slice gw D.w.length capw,.slice gy D.yes.length capy,.slice go D.ov.length capo⟩):=hV
 have HSub:Hid (∀u∈(.slice (some ⟨g,0,none⟩) B.L.length cap:Value) :: ov :: V.flatMap DV.all,∀k,u.ownBlock=some k->O k):=hsub
 have HB1:Hid (Below w.heap.size w w1):=hb1
 have HD:Hid _:=hd
 have HkD:Hid _:=hkD
 have HYl:Hid (D.yes.length<=4∧D.ov.length<=3∧D.w.length<=4):=hYl
 clear h hR hV hsub hb1 hd h4 c0 hkD hI hWa hYa hOa rw_ ry ro hYl
 clear x1'
 go_wp2_with fail
 refine Calls.mono HSt.out ?_
 rintro e w1' ⟨rfl,rfl⟩
 rw [hmk.out] at x1
 go_wp2_with fail
 go_quiet (fail)
 go_wp2_with fail
 have hbq:=bdrewN HB1.out nq
 have hXq:=hX.next (w1:=w1'.drewN nq) (bdrewN (Below.refl _ _) _)
 have h4q:=h41.next (w1:=w1'.drewN nq) (bdrewN (Below.refl _ _) _)
 have HWq:Hid (WantsAt (w1'.drewN nq) gw D.w):=HWa.out.below (bdrewN (Below.refl _ _) _) (Nat.le_refl _)
 have HYq:Hid (NumsAt (w1'.drewN nq) gy D.yes):=HYa.out.below (bdrewN (Below.refl _ _) _) (Nat.le_refl _)
 have HOq:Hid (NumsAt (w1'.drewN nq) go D.ov):=HOa.out.below (bdrewN (Below.refl _ _) _) (Nat.le_refl _)
 generalize (w1'.drewN nq)=w2 at hbq hXq h4q HWq HYq HOq ⊢
 clear hX h41 HWa HYa HOa c01 x1 hz1 HB1 HSt hst1
 have HE:Hid (hearR B m=B):=hear_other HK24.out.1 HK24.out.2
 have k4:(m.kind == 4)=false:=by simpa using HK24.out.2
 have k2:(m.kind != 2)=true:=by simpa using HK24.out.1
 have x0:=hXq.c0
 have hxl:=hXq.lt
 clear HK24
 go_quiet (fail)
 go_wp2_with fail
 go_quiet (fail)
 go_wp2_with fail
 exact bodyPost_ret (v:=.tuple #[]) (by simp [results,Tryz.results94,go_sem]) rfl ⟨rfl,by rw [HE.out];exact BokTo.stay HI.out (bdrewN (bdrewN hbq _) _)⟩
theorem BokTo.next {tD tW tI:TypeId} {O:Nat->Prop} {w w1 w':World} {q o:Nat} {B':Bok} (hs:BokTo tD tW tI O w w1 q o B') (hb:Below w1.heap.size w1 w'):BokTo tD tW tI O w w' q o B':=by
 obtain ⟨O',h1,h2,h3,h4⟩:=hs
 exact ⟨O',h1.next hb,h2.next hb,h3,fun j a b=>(hb.cell (p:=⟨q,j,none⟩) h1.lt).trans (h4 j a b)⟩
theorem bok_ov {O:Nat->Prop} {w w3 w8:World} {q g n cap k:Nat} {B:Bok} {ov v8:Value} {V:List DV} {D:Dl} {v:DV} {l:List Int} (h:BokIn 151 97 3 O w q 0 B) (hsub:∀u∈(.slice (some ⟨g,0,none⟩) n cap:Value) :: ov :: V.flatMap DV.all,∀k,u.ownBlock=some k->O k) (hR:BokRaw 151 97 3 w q 0 B (.slice (some ⟨g,0,none⟩) n cap) ov V) (hk:B.L[k]?=some D) (hv:V[k]?=some v) (hb:Below w.heap.size w w3)
 (h8:Save (fun b=>v.o.ownBlock=some b) w3 w8) (hr8:w8.ownsRow (q+1) 3 1 v8 l.length (l.map (Value.int .i64))) (hw8:∀j,v8.ownBlock=some j->v.o.ownBlock=some j∨w3.heap.size<=j):BokTo 151 97 3 O w (w8.setCell ⟨g,k * 4+3,none⟩ v8) q 0 (putD B (k:Int) { D with ov:=l }):=by
 have hR3:BokRaw 151 97 3 w3 q 0 B (.slice (some ⟨g,0,none⟩) n cap) ov V:=hR.save h.lt (.of_below (O:=fun _=>False) hb) (fun q=>q) (fun _ _ _ _ q=>q)
 have hl3:q<w3.heap.size:=Nat.lt_of_lt_of_le h.lt hb.size
 have hgO:O g:=hsub _ List.mem_cons_self g rfl
 have hoO:∀j,v.o.ownBlock=some j->O j:=fun j hj=>hsub v.o (by simp [(mem_all hv).2.2]) j hj
 have hqg:q ≠ g:=by have:=(hR.row.lt g rfl).1;omega
 have hqo:¬v.o.ownBlock=some q:=fun e=>by have:=(((hR.deal k D v hk hv).2.2).lt q e).1;omega
 have hS:Save O w (w8.setCell ⟨g,k * 4+3,none⟩ v8):=(((Save.of_below hb).trans h8 (fun j _ e=>hoO j e))).setCell (p:=⟨g,k * 4+3,none⟩) (fun _=>hgO) _
 have hsz:(w8.setCell ⟨g,k * 4+3,none⟩ v8).heap.size=w8.heap.size:=by simp
 refine bok_to h.own h.mine hS (hR3.ov' hl3 (fun u hu j hj=>Nat.lt_of_lt_of_le (h.own j (hsub u hu j hj)) hb.size) hk hv h8 hr8 hw8) ?_ ?_ (fun j _ _=>(cell_set_block hqg).trans ((h8.cell (p:=⟨q,j,none⟩) hl3 hqo).trans (hb.cell (p:=⟨q,j,none⟩) h.lt)))
 ·intro j
  have:=(h8.frozen (p:=⟨q,j,none⟩) hl3 hqo).trans ((h.next hb).loose j)
  simpa [go_sem] using this
 ·intro u hu j hj
  rw [hsz]
  have old:∀x∈(.slice (some ⟨g,0,none⟩) n cap:Value) :: ov :: V.flatMap DV.all,x.ownBlock=some j->(O j∨w.heap.size<=j)∧j<w8.heap.size:=fun x hx hj=>by
   have h1:=hsub x hx j hj
   have h2:=h.own j h1
   have h3:=hb.size
   have h4:=h8.size
   exact ⟨.inl h1,by omega⟩
  rcases List.mem_cons.1 hu with rfl | hu
  ·exact old _ (by simp) hj
  ·rcases List.mem_cons.1 hu with rfl | hu
   ·exact old _ (by simp) hj
   ·rw [(all_o v8 hv).1] at hu
    rcases mem_set hu with rfl | hu
    ·refine ⟨?_,(hr8.lt j hj).2⟩
     rcases hw8 j hj with e | e
     ·exact .inl (hoO j e)
     ·exact .inr (by have:=hb.size;omega)
    ·exact old _ (by simp [hu]) hj
theorem bok_yes {O:Nat->Prop} {w w3 w8:World} {q g n cap k:Nat} {B:Bok} {ov v8:Value} {V:List DV} {D:Dl} {v:DV} {l:List Int} (h:BokIn 151 97 3 O w q 0 B) (hsub:∀u∈(.slice (some ⟨g,0,none⟩) n cap:Value) :: ov :: V.flatMap DV.all,∀k,u.ownBlock=some k->O k) (hR:BokRaw 151 97 3 w q 0 B (.slice (some ⟨g,0,none⟩) n cap) ov V) (hk:B.L[k]?=some D) (hv:V[k]?=some v) (hb:Below w.heap.size w w3)
 (h8:Save (fun b=>v.y.ownBlock=some b) w3 w8) (hr8:w8.ownsRow (q+1) 3 1 v8 l.length (l.map (Value.int .i64))) (hw8:∀j,v8.ownBlock=some j->v.y.ownBlock=some j∨w3.heap.size<=j):BokTo 151 97 3 O w (w8.setCell ⟨g,k * 4+2,none⟩ v8) q 0 (putD B (k:Int) { D with yes:=l })∧BokRaw 151 97 3 (w8.setCell ⟨g,k * 4+2,none⟩ v8) q 0 (putD B (k:Int) { D with yes:=l }) (.slice (some ⟨g,0,none⟩) n cap) ov (V.set k { v with y:=v8 })∧Save O w (w8.setCell ⟨g,k * 4+2,none⟩ v8)∧(∀u∈(.slice (some ⟨g,0,none⟩) n cap:Value) :: ov :: (V.set k { v with y:=v8 }).flatMap DV.all,∀j,u.ownBlock=some j->(O j∨w.heap.size<=j)∧j<(w8.setCell ⟨g,k * 4+2,none⟩ v8).heap.size)∧(∀j,(w8.setCell ⟨g,k * 4+2,none⟩ v8).cell? ⟨q,j,none⟩=w.cell? ⟨q,j,none⟩)∧(∀j,(w8.setCell ⟨g,k * 4+2,none⟩ v8).frozen? ⟨q,j,none⟩=false):=by
 have hR3:BokRaw 151 97 3 w3 q 0 B (.slice (some ⟨g,0,none⟩) n cap) ov V:=hR.save h.lt (.of_below (O:=fun _=>False) hb) (fun q=>q) (fun _ _ _ _ q=>q)
 have hl3:q<w3.heap.size:=Nat.lt_of_lt_of_le h.lt hb.size
 have hgO:O g:=hsub _ List.mem_cons_self g rfl
 have hoO:∀j,v.y.ownBlock=some j->O j:=fun j hj=>hsub v.y (by simp [(mem_all hv).2.1]) j hj
 have hqg:q ≠ g:=by have:=(hR.row.lt g rfl).1;omega
 have hqo:¬v.y.ownBlock=some q:=fun e=>by have:=(((hR.deal k D v hk hv).2.1).lt q e).1;omega
 have hS:Save O w (w8.setCell ⟨g,k * 4+2,none⟩ v8):=(((Save.of_below hb).trans h8 (fun j _ e=>hoO j e))).setCell (p:=⟨g,k * 4+2,none⟩) (fun _=>hgO) _
 have hsz:(w8.setCell ⟨g,k * 4+2,none⟩ v8).heap.size=w8.heap.size:=by simp
 have hR9:=hR3.yes hl3 (fun u hu j hj=>Nat.lt_of_lt_of_le (h.own j (hsub u hu j hj)) hb.size) hk hv h8 hr8 hw8
 have hcl:∀j,(w8.setCell ⟨g,k * 4+2,none⟩ v8).cell? ⟨q,j,none⟩=w.cell? ⟨q,j,none⟩:=fun j=>(cell_set_block hqg).trans ((h8.cell (p:=⟨q,j,none⟩) hl3 hqo).trans (hb.cell (p:=⟨q,j,none⟩) h.lt))
 have hfz:∀j,(w8.setCell ⟨g,k * 4+2,none⟩ v8).frozen? ⟨q,j,none⟩=false:=by
  intro j
  have:=(h8.frozen (p:=⟨q,j,none⟩) hl3 hqo).trans ((h.next hb).loose j)
  simpa [go_sem] using this
 have hrw:∀u∈(.slice (some ⟨g,0,none⟩) n cap:Value) :: ov :: (V.set k { v with y:=v8 }).flatMap DV.all,∀j,u.ownBlock=some j->(O j∨w.heap.size<=j)∧j<(w8.setCell ⟨g,k * 4+2,none⟩ v8).heap.size:=by
  intro u hu j hj
  rw [hsz]
  have old:∀x∈(.slice (some ⟨g,0,none⟩) n cap:Value) :: ov :: V.flatMap DV.all,x.ownBlock=some j->(O j∨w.heap.size<=j)∧j<w8.heap.size:=fun x hx hj=>by
   have h1:=hsub x hx j hj
   have h2:=h.own j h1
   have h3:=hb.size
   have h4:=h8.size
   exact ⟨.inl h1,by omega⟩
  rcases List.mem_cons.1 hu with rfl | hu
  ·exact old _ (by simp) hj
  ·rcases List.mem_cons.1 hu with rfl | hu
   ·exact old _ (by simp) hj
   ·rw [(all_y v8 hv).1] at hu
    rcases mem_set hu with rfl | hu
    ·refine ⟨?_,(hr8.lt j hj).2⟩
     rcases hw8 j hj with e | e
     ·exact .inl (hoO j e)
     ·exact .inr (by have:=hb.size;omega)
    ·exact old _ (by simp [hu]) hj
 exact ⟨bok_to h.own h.mine hS hR9 hfz hrw (fun j _ _=>hcl j),hR9,hS,hrw,hcl,hfz⟩
theorem qhear_over (O:Nat->Prop) (B:Bok) (q:Nat) (m:Ml) (D:Dl) (w:World) (h:BokIn 151 97 3 O w q 0 B) (hI:BInv B) (hd:dealAt B m.deal=some D) (hk4:m.kind=4):
 Calls Tryz.prog 94 #[.pointer (some ⟨q,0,none⟩),.agg #[.int .i64 m.kind,.int .i64 m.deal,.int .i64 m.shop,.int .i64 m.c,.int .i64 m.d,.bool m.yes]] w fun e w'=>e=.returned (.tuple #[])∧BokTo 151 97 3 O w w' q 0 (hearR B m):=by
 have HI:Hid (BokIn 151 97 3 O w q 0 B):=h
 have HInv:Hid (BInv B):=hI
 have hYl:=hI.yesLen (dealAt_mem hd)
 obtain ⟨rv,ov,V,hR,hsub⟩:=h.raw
 obtain ⟨k,hmk0,hk,hkD⟩:=dealAt_some hd
 have hmk:Hid (m.deal=(k:Int)):=hmk0
 clear hmk0
 obtain ⟨g,cap,v,rfl,hV,h4,hqg,_⟩:=hR.deal4 hkD
 obtain ⟨vw,vy,vo⟩:=v
 obtain ⟨rw_,ry,ro⟩:=hR.deal k D ⟨vw,vy,vo⟩ hkD hV
 obtain ⟨gw,capw,e1,hWa,_⟩:=wants_of_own rw_
 obtain ⟨gy,capy,e2,hYa,_⟩:=nums_of_own ry
 obtain ⟨go,capo,e3,hOa,_⟩:=nums_of_own ro
 simp only at e1 e2 e3
 subst e1
 subst e2
 subst e3
 have c0:=hR.c0
 have hql:=h.lt
 have j0:(0:Int)<=(k:Int):=by omega
 have j1:(k:Int)<(B.L.length:Int):=by omega
 have j2:(B.L.length:Int)<=8:=by have:=hI.len;omega
 have HK4:Hid (m.kind=4):=hk4
 clear hk4
 go_enter Tryz.func94,Tryz.ntmps94
 go_upto_region 1 with fail
 have hb1:Below w.heap.size w (w.alloc (.cells #[.int .i64 m.kind,.int .i64 m.deal,.int .i64 m.shop,.int .i64 m.c,.int .i64 m.d,.bool m.yes] 142)):=(Below.refl _ _).alloc (Nat.le_refl _) _
 have hX:=MBx.new w m
 generalize (w.alloc (.cells #[.int .i64 m.kind,.int .i64 m.deal,.int .i64 m.shop,.int .i64 m.c,.int .i64 m.d,.bool m.yes] 142))=w1 at hb1 hX ⊢
 have HSt:Hid _:=qstate_any O B q m.deal w1 (h.next hb1) hI.len
 have hst1:=stR_there hI hd
 have h41:=h4.next hb1
 have c01:w1.cell? ⟨q,0,none⟩=some (.slice (some ⟨g,0,none⟩) B.L.length cap):=((bcell hb1).1 _ _ hql).trans c0
 have HWa:Hid (WantsAt w1 gw D.w):=hWa.below hb1 (Nat.le_refl _)
 have HYa:Hid (NumsAt w1 gy D.yes):=hYa.below hb1 (Nat.le_refl _)
 have HOa:Hid (NumsAt w1 go D.ov):=hOa.below hb1 (Nat.le_refl _)
 have hgw:g<w.heap.size:=h4.lt
 have HBg:Hid (g ≠ w.heap.size):=by show _ ≠ _;omega
 generalize hB0:w.heap.size=B0 at hX ⊢
 have HB0:Hid (w.heap.size=B0):=hB0
 clear hB0
 have x1:=hX.c1
 have x1':=hX.c1
 rw [hmk.out] at x1'
 have hz1:=hX.lt
 have HR:Hid (BokRaw 151 97 3 w q 0 B (.slice (some ⟨g,0,none⟩) B.L.length cap) ov V):=hR
 have HV:Hid (V[k]?=some ⟨.slice gw D.w.length capw,.slice gy D.yes.length capy,.slice go D.ov.length capo⟩):=hV
 have HSub:Hid (∀u∈(.slice (some ⟨g,0,none⟩) B.L.length cap:Value) :: ov :: V.flatMap DV.all,∀k,u.ownBlock=some k->O k):=hsub
 have HB1:Hid (Below w.heap.size w w1):=hb1
 have HD:Hid _:=hd
 have HkD:Hid _:=hkD
 have HYl:Hid (D.yes.length<=4∧D.ov.length<=3∧D.w.length<=4):=hYl
 clear h hR hV hsub hb1 hd h4 c0 hkD hI hWa hYa hOa rw_ ry ro hYl
 clear x1'
 go_wp2_with fail
 refine Calls.mono HSt.out ?_
 rintro e w1' ⟨rfl,rfl⟩
 rw [hmk.out] at x1
 go_wp2_with fail
 go_quiet (fail)
 go_wp2_with fail
 have hbq:=bdrewN HB1.out nq
 have hXq:=hX.next (w1:=w1'.drewN nq) (bdrewN (Below.refl _ _) _)
 have h4q:=h41.next (w1:=w1'.drewN nq) (bdrewN (Below.refl _ _) _)
 have HWq:Hid (WantsAt (w1'.drewN nq) gw D.w):=HWa.out.below (bdrewN (Below.refl _ _) _) (Nat.le_refl _)
 have HYq:Hid (NumsAt (w1'.drewN nq) gy D.yes):=HYa.out.below (bdrewN (Below.refl _ _) _) (Nat.le_refl _)
 have HOq:Hid (NumsAt (w1'.drewN nq) go D.ov):=HOa.out.below (bdrewN (Below.refl _ _) _) (Nat.le_refl _)
 generalize (w1'.drewN nq)=w2 at hbq hXq h4q HWq HYq HOq ⊢
 clear hX h41 HWa HYa HOa c01 x1 hz1 HB1 HSt hst1
 have k4:(m.kind == 4)=true:=by simp [HK4.out]
 have k2:(m.kind != 2)=true:=by simp [HK4.out]
 have x0:=hXq.c0
 have x2:=hXq.c2
 have hxl:=hXq.lt
 have y0:=h4q.c0
 have y1:=h4q.c1
 have y3:=h4q.c3
 have hgl:=h4q.lt
 by_cases h0:D.st=0
 ·have HE:Hid _:=hear_over_no HD.out HK4.out (.inl h0)
  have h0':(D.st != 0)=false:=by simp [h0]
  clear h0
  go_quiet (fail)
  go_wp2_with fail
  go_quiet (fail)
  go_wp2_with fail
  exact bodyPost_ret (v:=.tuple #[]) (by simp [results,Tryz.results94,go_sem]) rfl ⟨rfl,by rw [HE.out];exact BokTo.stay HI.out (bdrewN (bdrewN hbq _) _)⟩
 ·have h0':(D.st != 0)=true:=by simpa using h0
  have H0:Hid (D.st ≠ 0):=h0
  have HSh:Hid (∀W,Below w2.heap.size w2 W->Calls Tryz.prog 69 #[.slice gw D.w.length capw] W fun e w'=>(∃ga cap,e=.returned (.slice ga (shopsL D.w).length cap)∧NumsAt w' ga (shopsL D.w))∧Below W.heap.size W w'):=fun W hW=>shopsOf_any gw D.w.length capw D.w W (HWq.out.below hW (Nat.le_refl _)) rfl (by have:=HYl.out;omega)
  have HLs:Hid ((shopsL D.w).length<=3):=shopsTo_length D.w 3
  have HK:Hid (∀w',Below w2.heap.size w2 w'->w'.cell? ⟨B0,0,none⟩=some (.int .i64 m.kind)∧w'.cell? ⟨B0,2,none⟩=some (.int .i64 m.shop)∧w'.cell? ⟨g,k * 4,none⟩=some (.slice gw D.w.length capw)∧w'.cell? ⟨g,k * 4+1,none⟩=some (.int .i64 D.st)∧w'.cell? ⟨g,k * 4+3,none⟩=some (.slice go D.ov.length capo)∧Below w2.heap.size w2 w'):=fun w' hb=>⟨((bcell hb).1 _ _ hxl).trans x0,((bcell hb).1 _ _ hxl).trans x2,((bcell hb).1 _ _ hgl).trans y0,((bcell hb).1 _ _ hgl).trans y1,((bcell hb).1 _ _ hgl).trans y3,hb⟩
  clear h0
  by_cases hs:m.shop∈shopsL D.w
  ·have HE:Hid _:=hear_over HD.out HK4.out H0.out hs
   have HIn:Hid (∀(ga:Option Addr) (cap:Nat) (W:World),NumsAt W ga (shopsL D.w)->Calls Tryz.prog 67 #[.slice ga (shopsL D.w).length cap,.int .i64 m.shop] W fun e w'=>e=.returned (.bool true)∧w'=W):=fun ga cap W hA=>by
    have:=in_any ga (shopsL D.w).length cap (shopsL D.w) m.shop W hA rfl (by have:=HLs.out;omega)
    rw [decide_eq_true hs] at this
    exact this
   have HIn2:Hid (∀W,Below w2.heap.size w2 W->Calls Tryz.prog 67 #[.slice go D.ov.length capo,.int .i64 m.shop] W fun e w'=>e=.returned (.bool (decide (m.shop∈D.ov)))∧w'=W):=fun W hW=>in_any go D.ov.length capo D.ov m.shop W (HOq.out.below hW (Nat.le_refl _)) rfl (by have:=HYl.out;omega)
   clear hs
   go_region_held3 (fun w'=>w'.cell? ⟨B0,0,none⟩=some (.int .i64 m.kind)∧w'.cell? ⟨B0,2,none⟩=some (.int .i64 m.shop)∧w'.cell? ⟨g,k * 4,none⟩=some (.slice gw D.w.length capw)∧w'.cell? ⟨g,k * 4+1,none⟩=some (.int .i64 D.st)∧w'.cell? ⟨g,k * 4+3,none⟩=some (.slice go D.ov.length capo)∧Below w2.heap.size w2 w')
    (first | exact HK.out _ (by go_grown))
    (first | (go_at_call 69;refine Calls.mono (HSh.out _ (by go_grown)) ?_;rintro e w9 ⟨⟨ga,cap9,rfl,hA⟩,hb9⟩;have HA:Hid (NumsAt w9 ga (shopsL D.w)):=hA;clear hA;have hw9:Below w2.heap.size w2 w9:=after (by go_grown) hb9 (by simp);have hz9:w2.heap.size<=w9.heap.size:=hw9.size) | (go_at_call 67;have hMk:=HMark;refine Calls.mono (HIn2.out _ (by go_grown)) ?_;rintro e w11 ⟨rfl,rfl⟩) | (go_at_call 67;refine Calls.mono (HIn.out ga cap9 _ HA.out) ?_;rintro e w10 ⟨rfl,rfl⟩;have HMark:True:=trivial))
   obtain ⟨x0',x2',_,_,y3',_⟩:=HK.out _ hw9
   have h43:=h4q.next hw9
   have hbw:Below w.heap.size w w11:=after hbq hw9 hbq.size
   clear x0 x2 y0 y1 y3 hXq h4q HA HMark
   by_cases ho:m.shop∈D.ov
   ·rw [decide_eq_true ho]
    have HE2:Hid (hearR B m=B):=by
     show _=_
     rw [HE.out,show addI D.ov m.shop=D.ov by unfold addI;rw [if_pos ho]]
     exact put_self HD.out
    clear ho
    go_wp2_with fail
    go_quiet (fail)
    go_wp2_with fail
    exact bodyPost_ret (v:=.tuple #[]) (by simp [results,Tryz.results94,go_sem]) rfl ⟨rfl,by rw [HE2.out];exact BokTo.stay HI.out (bdrewN hbw _)⟩
   ·rw [decide_eq_false ho]
    have HE2:Hid (hearR B m=putD B (k:Int) { D with ov:=D.ov++[m.shop] }):=by
     show _=_
     rw [HE.out,hmk.out,show addI D.ov m.shop=D.ov++[m.shop] by unfold addI;rw [if_neg ho]]
    obtain ⟨ii,hi,hz0,hz1,hz2⟩:=info_parts infoInt
    have HRo:Hid (w11.ownsRow (q+1) 3 1 (.slice go D.ov.length capo) D.ov.length (D.ov.map (Value.int .i64))):=own_next ((HR.out.deal k D _ HkD.out HV.out).2.2) hbw
    have HNg:Hid (some g ≠ (.slice go D.ov.length capo:Value).ownBlock):=fun e=>HR.out.other _ (by simp [(mem_all HV.out).2.2]) g e.symm rfl
    have HNb:Hid (some B0 ≠ (.slice go D.ov.length capo:Value).ownBlock):=fun e=>by
     have h1:=HSub.out _ (by simp [(mem_all HV.out).2.2]) B0 e.symm
     have h2:=HI.out.own _ h1
     have h3:=HB0.out
     omega
    have hg3:=h43.lt
    have hf3:=h43.fr
    have hx3:B0<w11.heap.size:=Nat.lt_of_lt_of_le hxl hw9.size
    have hqq:q+1<=w11.heap.size:=by have:=HI.out.lt;have:=hbw.size;omega
    clear ho h43
    go_upto_region 4 with fail
    go_region_law
     (first | (refine step_append_two (by rfl) (.tmp 52) (.tmp 55) 66 (by rfl) (q+1) 3 ii (.int .i64 0) 1 8 Tryz.underlying66 hi hz0 hz1 hz2 rfl (by decide) (.slice go D.ov.length capo) _ _ (by rfl) (own_next HRo.out (by go_grown)) ⟨w11.heap.size,0,none⟩ 1 1 [.int .i64 m.shop] (by rfl) rfl (num_lies (by simp [go_sem])) num_cell (by have:=HYl.out;unfold maxLen;omega) (by have:=HYl.out;omega) (by simp;omega) (by decide) ?_;intro v8 w8 hown8 hgrow8 hwh8;obtain ⟨ga8,cap8,rfl⟩:=own_sl hown8;have HO8:Hid (w8.ownsRow (q+1) 3 1 (.slice ga8 (D.ov.length+1) cap8) (D.ov.length+1) (D.ov.map (Value.int .i64)++[.int .i64 m.shop])):=hown8;clear hown8;have HW8:Hid _:=hwh8;clear hwh8;have k8:w8.cell? ⟨g,k * 4+3,none⟩=some (.slice go D.ov.length capo):=hgrow8.cell (by simp [go_sem,y3',hg3]) HNg.out;have f8:∀j,w8.frozen? ⟨g,j,none⟩=false:=fun j=>(World.frozen?_of_block (hgrow8.block g (by simp;omega) HNg.out)).trans (by simp [go_sem,hf3,hg3]);have b8:w8.cell? ⟨B0,0,none⟩=some (.int .i64 m.kind):=hgrow8.cell (by simp [go_sem,x0',hx3]) HNb.out;have hbg:B0 ≠ g:=(fun e=>HBg.out (by rw [HB0.out,e]))))
    all_goals
     have h8:Save (fun j=>(Value.slice go D.ov.length capo).ownBlock=some j) w11 w8:=(Save.of_below (by go_grown)).grown hgrow8 (fun k e _=>e)
     have e8:(D.ov++[m.shop]).length=D.ov.length+1:=by simp
     have e9:(D.ov++[m.shop]).map (Value.int .i64)=D.ov.map (Value.int .i64)++[.int .i64 m.shop]:=by simp
     have HT:Hid (BokTo 151 97 3 O w (w8.setCell ⟨g,k * 4+3,none⟩ (.slice ga8 (D.ov.length+1) cap8)) q 0 (putD B (k:Int) { D with ov:=D.ov++[m.shop] })):=bok_ov HI.out HSub.out HR.out HkD.out HV.out hbw h8 (by rw [e8,e9];exact HO8.out) (fun j hj=>(HW8.out j hj).imp id (fun e=>by rw [e];simp))
     have b9:(w8.setCell ⟨g,k * 4+3,none⟩ (.slice ga8 (D.ov.length+1) cap8)).cell? ⟨B0,0,none⟩=some (.int .i64 m.kind):=(cell_set_block hbg).trans b8
     clear h8 e8 e9 hgrow8 k8 f8 b8
     go_upto_region 5 with fail
     generalize (w8.setCell ⟨g,k * 4+3,none⟩ (.slice ga8 (D.ov.length+1) cap8))=w12 at HT b9 ⊢
     go_quiet (fail)
     go_wp2_with fail
     refine bodyPost_ret (v:=.tuple #[]) (by simp [results,Tryz.results94,go_sem]) rfl ⟨rfl,?_⟩
     rw [HE2.out]
     exact HT.out.next (bdrewN (Below.refl _ _) _)
  ·have HE:Hid _:=hear_over_no HD.out HK4.out (.inr hs)
   have HIn:Hid (∀(ga:Option Addr) (cap:Nat) (W:World),NumsAt W ga (shopsL D.w)->Calls Tryz.prog 67 #[.slice ga (shopsL D.w).length cap,.int .i64 m.shop] W fun e w'=>e=.returned (.bool false)∧w'=W):=fun ga cap W hA=>by
    have:=in_any ga (shopsL D.w).length cap (shopsL D.w) m.shop W hA rfl (by have:=HLs.out;omega)
    rw [decide_eq_false hs] at this
    exact this
   clear hs
   refine wp_region_held_drew (S:=fun w'=>w'.cell? ⟨B0,0,none⟩=some (.int .i64 m.kind)∧w'.cell? ⟨B0,2,none⟩=some (.int .i64 m.shop)∧w'.cell? ⟨g,k * 4,none⟩=some (.slice gw D.w.length capw)∧w'.cell? ⟨g,k * 4+1,none⟩=some (.int .i64 D.st)∧w'.cell? ⟨g,k * 4+3,none⟩=some (.slice go D.ov.length capo)∧Below w2.heap.size w2 w') (by kernel_rfl) (HK.out _ ((Below.refl _ _).drew)) (fun hHeld=>?_)
   refine wpAnyH_take (i:=0) (v:=?_) (by (simp only [List.getElem?_toArray,List.getElem?_cons_zero]);exact rfl) (by kernel_rfl) (by kernel_rfl) (by kernel_rfl) (by intro _ _ _ h;exact h) (Or.inl ⟨by rfl,?_⟩) (by assumption) ?_
   rotate_left
   focus
    intro w' hSw
    (try dsimp only at hSw)
    go_simp
    all_goals (with_reducible rfl)
   (try simp only [Act.put,List.setIfInBounds_toArray,List.set_cons_zero,List.set_cons_succ])
   refine wpAnyH_take (i:=1) (v:=?_) (by (simp only [List.getElem?_toArray,List.getElem?_cons_succ,List.getElem?_cons_zero]);exact rfl) (by kernel_rfl) (by kernel_rfl) (by kernel_rfl) (by intro _ _ _ h;exact h) (Or.inl ⟨by rfl,?_⟩) (by assumption) ?_
   rotate_left
   focus
    intro w' hSw
    (try dsimp only at hSw)
    go_simp
    all_goals (with_reducible rfl)
   (try simp only [Act.put,List.setIfInBounds_toArray,List.set_cons_zero,List.set_cons_succ])
   refine wpAnyH_take (i:=2) (v:=?_) (by (simp only [List.getElem?_toArray,List.getElem?_cons_succ,List.getElem?_cons_zero]);exact rfl) (by kernel_rfl) (by kernel_rfl) (by kernel_rfl) (by intro _ _ _ h;exact h) (Or.inl ⟨by rfl,?_⟩) (by assumption) ?_
   rotate_left
   focus
    intro w' hSw
    (try dsimp only at hSw)
    go_simp
    all_goals (with_reducible rfl)
   (try simp only [Act.put,List.setIfInBounds_toArray,List.set_cons_zero,List.set_cons_succ])
   refine wpAnyH_take (i:=3) (v:=?_) (by (simp only [List.getElem?_toArray,List.getElem?_cons_succ,List.getElem?_cons_zero]);exact rfl) (by kernel_rfl) (by kernel_rfl) (by kernel_rfl) (by intro _ _ _ h;exact h) (Or.inl ⟨by rfl,?_⟩) (by assumption) ?_
   rotate_left
   focus
    intro w' hSw
    (try dsimp only at hSw)
    go_simp
    all_goals (with_reducible rfl)
   (try simp only [Act.put,List.setIfInBounds_toArray,List.set_cons_zero,List.set_cons_succ])
   refine wpAnyH_take (i:=4) (v:=?_) (by (simp only [List.getElem?_toArray,List.getElem?_cons_succ,List.getElem?_cons_zero]);exact rfl) (by kernel_rfl) (by kernel_rfl) (by kernel_rfl) (by intro _ _ _ h;exact h) (Or.inl ⟨by rfl,?_⟩) (by assumption) ?_
   rotate_left
   focus
    intro w' hSw
    (try dsimp only at hSw)
    go_simp
    all_goals (with_reducible rfl)
   (try simp only [Act.put,List.setIfInBounds_toArray,List.set_cons_zero,List.set_cons_succ])
   refine wpAnyH_take (i:=5) (v:=?_) (by (simp only [List.getElem?_toArray,List.getElem?_cons_succ,List.getElem?_cons_zero]);exact rfl) (by kernel_rfl) (by kernel_rfl) (by kernel_rfl) (by intro _ _ _ h;exact h) (Or.inl ⟨by rfl,?_⟩) (by assumption) ?_
   rotate_left
   focus
    intro w' hSw
    (try dsimp only at hSw)
    go_simp
    all_goals (with_reducible rfl)
   (try simp only [Act.put,List.setIfInBounds_toArray,List.set_cons_zero,List.set_cons_succ])
   refine wpAnyH_take (i:=6) (v:=?_) (by (simp only [List.getElem?_toArray,List.getElem?_cons_succ,List.getElem?_cons_zero]);exact rfl) (by kernel_rfl) (by kernel_rfl) (by kernel_rfl) (by intro _ _ _ h;exact h) (Or.inl ⟨by rfl,?_⟩) (by assumption) ?_
   rotate_left
   focus
    intro w' hSw
    (try dsimp only at hSw)
    go_simp
    all_goals (with_reducible rfl)
   (try simp only [Act.put,List.setIfInBounds_toArray,List.set_cons_zero,List.set_cons_succ])
   refine wpAnyH_take (i:=7) (v:=?_) (by (simp only [List.getElem?_toArray,List.getElem?_cons_succ,List.getElem?_cons_zero]);exact rfl) (by kernel_rfl) (by kernel_rfl) (by kernel_rfl) (by intro _ _ _ h;exact h) (Or.inl ⟨by rfl,?_⟩) (by assumption) ?_
   rotate_left
   focus
    intro w' hSw
    (try dsimp only at hSw)
    go_simp
    all_goals (with_reducible rfl)
   (try simp only [Act.put,List.setIfInBounds_toArray,List.set_cons_zero,List.set_cons_succ])
   refine wpAnyH_take (i:=8) (v:=?_) (by (simp only [List.getElem?_toArray,List.getElem?_cons_succ,List.getElem?_cons_zero]);exact rfl) (by kernel_rfl) (by kernel_rfl) (by kernel_rfl) (by intro _ _ _ h;exact h) (Or.inl ⟨by rfl,?_⟩) (by assumption) ?_
   rotate_left
   focus
    intro w' hSw
    (try dsimp only at hSw)
    go_simp
    all_goals (with_reducible rfl)
   (try simp only [Act.put,List.setIfInBounds_toArray,List.set_cons_zero,List.set_cons_succ])
   refine wpAnyH_take (i:=9) (v:=?_) (by (simp only [List.getElem?_toArray,List.getElem?_cons_succ,List.getElem?_cons_zero]);exact rfl) (by kernel_rfl) (by kernel_rfl) (by kernel_rfl) (by intro _ _ _ h;exact h) (Or.inl ⟨by rfl,?_⟩) (by assumption) ?_
   rotate_left
   focus
    intro w' hSw
    (try dsimp only at hSw)
    go_simp
    all_goals (with_reducible rfl)
   (try simp only [Act.put,List.setIfInBounds_toArray,List.set_cons_zero,List.set_cons_succ])
   refine wpAnyH_take (i:=10) (v:=?_) (by (simp only [List.getElem?_toArray,List.getElem?_cons_succ,List.getElem?_cons_zero]);exact rfl) (by kernel_rfl) (by kernel_rfl) (by kernel_rfl) (by intro _ _ _ h;exact h) (Or.inl ⟨by rfl,?_⟩) (by assumption) ?_
   rotate_left
   focus
    intro w' hSw
    (try dsimp only at hSw)
    go_simp
    all_goals (with_reducible rfl)
   (try simp only [Act.put,List.setIfInBounds_toArray,List.set_cons_zero,List.set_cons_succ])
   refine wpAnyH_take (i:=11) (v:=?_) (by (simp only [List.getElem?_toArray,List.getElem?_cons_succ,List.getElem?_cons_zero]);exact rfl) (by kernel_rfl) (by kernel_rfl) (by kernel_rfl) (by intro _ _ _ h;exact h) (Or.inl ⟨by rfl,?_⟩) (by assumption) ?_
   rotate_left
   focus
    intro w' hSw
    (try dsimp only at hSw)
    go_simp
    all_goals (with_reducible rfl)
   (try simp only [Act.put,List.setIfInBounds_toArray,List.set_cons_zero,List.set_cons_succ])
   refine wpAnyH_take (i:=12) (v:=?_) (by (simp only [List.getElem?_toArray,List.getElem?_cons_succ,List.getElem?_cons_zero]);exact rfl) (by kernel_rfl) (by kernel_rfl) (by kernel_rfl) (by intro _ _ _ h;exact h) (Or.inl ⟨by rfl,?_⟩) (by assumption) ?_
   rotate_left
   focus
    intro w' hSw
    (try dsimp only at hSw)
    go_simp
    all_goals (with_reducible rfl)
   (try simp only [Act.put,List.setIfInBounds_toArray,List.set_cons_zero,List.set_cons_succ])
   refine wpAnyH_take (i:=13) (v:=?_) (by (simp only [List.getElem?_toArray,List.getElem?_cons_succ,List.getElem?_cons_zero]);exact rfl) (by kernel_rfl) (by kernel_rfl) (by kernel_rfl) (by intro _ _ _ h;exact h) (Or.inl ⟨by rfl,?_⟩) (by assumption) ?_
   rotate_left
   focus
    intro w' hSw
    (try dsimp only at hSw)
    go_simp
    all_goals (with_reducible rfl)
   (try simp only [Act.put,List.setIfInBounds_toArray,List.set_cons_zero,List.set_cons_succ])
   refine wpAnyH_take (i:=14) (v:=?_) (by (simp only [List.getElem?_toArray,List.getElem?_cons_succ,List.getElem?_cons_zero]);exact rfl) (by kernel_rfl) (by kernel_rfl) (by kernel_rfl) (by intro _ _ _ h;exact h) (Or.inl ⟨by rfl,?_⟩) (by assumption) ?_
   rotate_left
   focus
    intro w' hSw
    (try dsimp only at hSw)
    go_simp
    all_goals (with_reducible rfl)
   (try simp only [Act.put,List.setIfInBounds_toArray,List.set_cons_zero,List.set_cons_succ])
   refine wpAnyH_take (i:=16) (v:=?_) (by (simp only [List.getElem?_toArray,List.getElem?_cons_succ,List.getElem?_cons_zero]);exact rfl) (by kernel_rfl) (by kernel_rfl) (by kernel_rfl) (by intro _ _ _ h;exact h) (Or.inl ⟨by rfl,?_⟩) (by assumption) ?_
   rotate_left
   focus
    intro w' hSw
    (try dsimp only at hSw)
    go_simp
    all_goals (with_reducible rfl)
   (try simp only [Act.put,List.setIfInBounds_toArray,List.set_cons_zero,List.set_cons_succ])
   refine wpAnyH_take (i:=17) (v:=?_) (by (simp only [List.getElem?_toArray,List.getElem?_cons_succ,List.getElem?_cons_zero]);exact rfl) (by kernel_rfl) (by kernel_rfl) (by kernel_rfl) (by intro _ _ _ h;exact h) (Or.inl ⟨by rfl,?_⟩) (by assumption) ?_
   rotate_left
   focus
    intro w' hSw
    (try dsimp only at hSw)
    go_simp
    all_goals (with_reducible rfl)
   (try simp only [Act.put,List.setIfInBounds_toArray,List.set_cons_zero,List.set_cons_succ])
   refine wpAnyH_ready (rs:=[15]) (by kernel_rfl) (by simp) ?_
   refine AllReadyH.cons rfl (fun K hK=>?_) AllReadyH.nil
   go_simp
   go_at_call 69
   refine Calls.mono (HSh.out _ (by go_grown)) ?_
   rintro e w9 ⟨⟨ga,cap9,rfl,hA⟩,hb9⟩
   have HA:Hid (NumsAt w9 ga (shopsL D.w)):=hA
   have hw9:Below w2.heap.size w2 w9:=after (by go_grown) hb9 (by simp)
   have hz9:w2.heap.size<=w9.heap.size:=hw9.size
   clear hA hb9
   go_wp2_with fail
   refine hK.out _ _ (HK.out _ hw9) (fun hHeld=>?_)
   clear hK K
   (try simp only [Act.put,List.setIfInBounds_toArray,List.set_cons_zero,List.set_cons_succ])
   refine wpAnyH_ready (rs:=[18]) (by kernel_rfl) (by simp) ?_
   refine AllReadyH.cons rfl (fun K hK=>?_) AllReadyH.nil
   go_simp
   go_at_call 67
   refine Calls.mono (HIn.out ga cap9 _ HA.out) ?_
   rintro e w10 ⟨rfl,rfl⟩
   go_wp2_with fail
   refine hK.out _ _ (HK.out _ hw9) (fun hHeld=>?_)
   clear hK K
   (try simp only [Act.put,List.setIfInBounds_toArray,List.set_cons_zero,List.set_cons_succ])
   refine wpAnyH_take (i:=19) (v:=?_) (by (simp only [List.getElem?_toArray,List.getElem?_cons_succ,List.getElem?_cons_zero]);exact rfl) (by kernel_rfl) (by kernel_rfl) (by kernel_rfl) (by intro _ _ _ h;exact h) (Or.inl ⟨by rfl,?_⟩) (by assumption) ?_
   rotate_left
   focus
    intro w' hSw
    (try dsimp only at hSw)
    go_simp
    all_goals (with_reducible rfl)
   (try simp only [Act.put,List.setIfInBounds_toArray,List.set_cons_zero,List.set_cons_succ])
   refine wpAnyH_take (i:=20) (v:=?_) (by (simp only [List.getElem?_toArray,List.getElem?_cons_succ,List.getElem?_cons_zero]);exact rfl) (by kernel_rfl) (by kernel_rfl) (by kernel_rfl) (by intro _ _ _ h;exact h) (Or.inl ⟨by rfl,?_⟩) (by assumption) ?_
   rotate_left
   focus
    intro w' hSw
    (try dsimp only at hSw)
    go_simp
    all_goals (with_reducible rfl)
   (try simp only [Act.put,List.setIfInBounds_toArray,List.set_cons_zero,List.set_cons_succ])
   refine wpAnyH_take (i:=21) (by (simp only [List.getElem?_toArray,List.getElem?_cons_succ,List.getElem?_cons_zero]);exact rfl) (by kernel_rfl) (by kernel_rfl) (by kernel_rfl) (by intro _ _ _ h;exact h) (Or.inr ⟨by rfl,rfl⟩) (by assumption) ?_
   (try simp only [Act.put,List.setIfInBounds_toArray,List.set_cons_zero,List.set_cons_succ])
   refine wpAnyH_take (i:=22) (by (simp only [List.getElem?_toArray,List.getElem?_cons_succ,List.getElem?_cons_zero]);exact rfl) (by kernel_rfl) (by kernel_rfl) (by kernel_rfl) (by intro _ _ _ h;exact h) (Or.inr ⟨by rfl,rfl⟩) (by assumption) ?_
   (try simp only [Act.put,List.setIfInBounds_toArray,List.set_cons_zero,List.set_cons_succ])
   refine wpAnyH_take (i:=23) (by (simp only [List.getElem?_toArray,List.getElem?_cons_succ,List.getElem?_cons_zero]);exact rfl) (by kernel_rfl) (by kernel_rfl) (by kernel_rfl) (by intro _ _ _ h;exact h) (Or.inr ⟨by rfl,rfl⟩) (by assumption) ?_
   (try simp only [Act.put,List.setIfInBounds_toArray,List.set_cons_zero,List.set_cons_succ])
   refine wpAnyH_take (i:=24) (by (simp only [List.getElem?_toArray,List.getElem?_cons_succ,List.getElem?_cons_zero]);exact rfl) (by kernel_rfl) (by kernel_rfl) (by kernel_rfl) (by intro _ _ _ h;exact h) (Or.inr ⟨by rfl,rfl⟩) (by assumption) ?_
   (try simp only [Act.put,List.setIfInBounds_toArray,List.set_cons_zero,List.set_cons_succ])
   refine wpAnyH_take (i:=25) (by (simp only [List.getElem?_toArray,List.getElem?_cons_succ,List.getElem?_cons_zero]);exact rfl) (by kernel_rfl) (by kernel_rfl) (by kernel_rfl) (by intro _ _ _ h;exact h) (Or.inr ⟨by rfl,rfl⟩) (by assumption) ?_
   (try simp only [Act.put,List.setIfInBounds_toArray,List.set_cons_zero,List.set_cons_succ])
   refine wpAnyH_take (i:=26) (by (simp only [List.getElem?_toArray,List.getElem?_cons_succ,List.getElem?_cons_zero]);exact rfl) (by kernel_rfl) (by kernel_rfl) (by kernel_rfl) (by intro _ _ _ h;exact h) (Or.inr ⟨by rfl,rfl⟩) (by assumption) ?_
   (try simp only [Act.put,List.setIfInBounds_toArray,List.set_cons_zero,List.set_cons_succ])
   refine wpAnyH_take (i:=27) (by (simp only [List.getElem?_toArray,List.getElem?_cons_succ,List.getElem?_cons_zero]);exact rfl) (by kernel_rfl) (by kernel_rfl) (by kernel_rfl) (by intro _ _ _ h;exact h) (Or.inr ⟨by rfl,rfl⟩) (by assumption) ?_
   (try simp only [Act.put,List.setIfInBounds_toArray,List.set_cons_zero,List.set_cons_succ])
   refine wpAnyH_take (i:=28) (by (simp only [List.getElem?_toArray,List.getElem?_cons_succ,List.getElem?_cons_zero]);exact rfl) (by kernel_rfl) (by kernel_rfl) (by kernel_rfl) (by intro _ _ _ h;exact h) (Or.inr ⟨by rfl,rfl⟩) (by assumption) ?_
   (try simp only [Act.put,List.setIfInBounds_toArray,List.set_cons_zero,List.set_cons_succ])
   refine wpAnyH_take (i:=29) (v:=?_) (by (simp only [List.getElem?_toArray,List.getElem?_cons_succ,List.getElem?_cons_zero]);exact rfl) (by kernel_rfl) (by kernel_rfl) (by kernel_rfl) (by intro _ _ _ h;exact h) (Or.inl ⟨by rfl,?_⟩) (by assumption) ?_
   rotate_left
   focus
    intro w' hSw
    (try dsimp only at hSw)
    go_simp
    all_goals (with_reducible rfl)
   (try simp only [Act.put,List.setIfInBounds_toArray,List.set_cons_zero,List.set_cons_succ])
   refine wpAnyH_done (by kernel_rfl) ?_ _
   obtain ⟨x0',_,_,_,_,_⟩:=HK.out _ hw9
   clear x0 x2 y0 y1 y3 hXq h4q
   go_wp2_with fail
   go_quiet (fail)
   go_wp2_with fail
   exact bodyPost_ret (v:=.tuple #[]) (by simp [results,Tryz.results94,go_sem]) rfl ⟨rfl,by rw [HE.out];exact BokTo.stay HI.out (bdrewN (after hbq hw9 hbq.size) _)⟩
theorem wantAt_ix {l:List (Int × Int)} {c d:Int} {i:Nat} (h:l[i]?=some (c,d)) (hn:(c,d) ∉ l.take i):wantAt l c d=some i:=by
 have e:=ixW_hit h hn
 unfold ixW at e
 cases hw:wantAt l c d with
 | none=>rw [hw] at e;simp only at e;omega
 | some k=>
   rw [hw] at e
   simp only at e
   congr 1
   omega
theorem bok_st {O:Nat->Prop} {w w3:World} {q g n cap k:Nat} {B:Bok} {ov:Value} {V:List DV} {D:Dl} (h:BokIn 151 97 3 O w q 0 B) (hsub:∀u∈(.slice (some ⟨g,0,none⟩) n cap:Value) :: ov :: V.flatMap DV.all,∀k,u.ownBlock=some k->O k) (hR:BokRaw 151 97 3 w q 0 B (.slice (some ⟨g,0,none⟩) n cap) ov V) (hk:B.L[k]?=some D) (hb:Below w.heap.size w w3) (x:Int):BokTo 151 97 3 O w (w3.setCell ⟨g,k * 4+1,none⟩ (.int .i64 x)) q 0 (putD B (k:Int) { D with st:=x }):=by
 have hR3:BokRaw 151 97 3 w3 q 0 B (.slice (some ⟨g,0,none⟩) n cap) ov V:=hR.save h.lt (.of_below (O:=fun _=>False) hb) (fun q=>q) (fun _ _ _ _ q=>q)
 have hl3:q<w3.heap.size:=Nat.lt_of_lt_of_le h.lt hb.size
 have hgO:O g:=hsub _ List.mem_cons_self g rfl
 have hqg:q ≠ g:=by have:=(hR.row.lt g rfl).1;omega
 have hS:Save O w (w3.setCell ⟨g,k * 4+1,none⟩ (.int .i64 x)):=(Save.of_below hb).setCell (p:=⟨g,k * 4+1,none⟩) (fun _=>hgO) _
 refine bok_to h.own h.mine hS (hR3.st hl3 hk x) (by simpa [go_sem] using (h.next hb).loose) (fun u hu j hj=>⟨.inl (hsub u hu j hj),?_⟩) (fun j _ _=>(cell_set_block hqg).trans (hb.cell (p:=⟨q,j,none⟩) h.lt))
 have:=h.own j (hsub u hu j hj)
 have:=hb.size
 simp
 omega
structure SayMid (O:Nat->Prop) (w w6:World) (q g n cap k:Nat) (B':Bok) (E:Dl) (ov:Value) (v6:DV) (B0:Nat) (m:Ml):Prop where
 raw:∃V6:List DV,BokRaw 151 97 3 w6 q 0 B' (.slice (some ⟨g,0,none⟩) n cap) ov V6∧V6[k]?=some v6∧∀u∈(.slice (some ⟨g,0,none⟩) n cap:Value) :: ov :: V6.flatMap DV.all,∀j,u.ownBlock=some j->(O j∨w.heap.size<=j)∧j<w6.heap.size
 ek:B'.L[k]?=some E
 save:Save O w w6
 cell:∀j,w6.cell? ⟨q,j,none⟩=w.cell? ⟨q,j,none⟩
 frz:∀j,w6.frozen? ⟨q,j,none⟩=false
 box:MBx w6 B0 m
 lt:q<w6.heap.size
 four:Deal4 w6 g k E v6
theorem SayMid.next {O:Nat->Prop} {w w6 w7:World} {q g n cap k:Nat} {B':Bok} {E:Dl} {ov:Value} {v6:DV} {B0:Nat} {m:Ml} (h:SayMid O w w6 q g n cap k B' E ov v6 B0 m) (hb:Below w6.heap.size w6 w7):SayMid O w w7 q g n cap k B' E ov v6 B0 m:=by
 obtain ⟨V6,h1,h2,h3⟩:=h.raw
 exact ⟨⟨V6,h1.save h.lt (.of_below (O:=fun _=>False) hb) (fun q=>q) (fun _ _ _ _ q=>q),h2,fun u hu j hj=>⟨(h3 u hu j hj).1,Nat.lt_of_lt_of_le (h3 u hu j hj).2 hb.size⟩⟩,h.ek,h.save.next hb,fun j=>((bcell hb).1 _ _ h.lt).trans (h.cell j),loose q hb h.lt h.frz,h.box.next hb,Nat.lt_of_lt_of_le h.lt hb.size,h.four.next hb⟩
theorem SayMid.to {O:Nat->Prop} {w w6:World} {q g n cap k:Nat} {B B':Bok} {E:Dl} {ov:Value} {v6:DV} {B0:Nat} {m:Ml} (h:SayMid O w w6 q g n cap k B' E ov v6 B0 m) (hI:BokIn 151 97 3 O w q 0 B):BokTo 151 97 3 O w w6 q 0 B':=by
 obtain ⟨V6,h1,h2,h3⟩:=h.raw
 exact bok_to hI.own hI.mine h.save h1 h.frz h3 (fun j _ _=>h.cell j)
theorem qhear_say (O:Nat->Prop) (B:Bok) (q:Nat) (m:Ml) (D:Dl) (w:World) (h:BokIn 151 97 3 O w q 0 B) (hI:BInv B) (hd:dealAt B m.deal=some D) (hk2:m.kind=2):
 Calls Tryz.prog 94 #[.pointer (some ⟨q,0,none⟩),.agg #[.int .i64 m.kind,.int .i64 m.deal,.int .i64 m.shop,.int .i64 m.c,.int .i64 m.d,.bool m.yes]] w fun e w'=>e=.returned (.tuple #[])∧BokTo 151 97 3 O w w' q 0 (hearR B m):=by
 have HI:Hid (BokIn 151 97 3 O w q 0 B):=h
 have HInv:Hid (BInv B):=hI
 have hYl:=hI.yesLen (dealAt_mem hd)
 obtain ⟨rv,ov,V,hR,hsub⟩:=h.raw
 obtain ⟨k,hmk0,hk,hkD⟩:=dealAt_some hd
 have hmk:Hid (m.deal=(k:Int)):=hmk0
 clear hmk0
 obtain ⟨g,cap,v,rfl,hV,h4,hqg,_⟩:=hR.deal4 hkD
 obtain ⟨vw,vy,vo⟩:=v
 obtain ⟨rw_,ry,ro⟩:=hR.deal k D ⟨vw,vy,vo⟩ hkD hV
 obtain ⟨gw,capw,e1,hWa,_⟩:=wants_of_own rw_
 obtain ⟨gy,capy,e2,hYa,_⟩:=nums_of_own ry
 obtain ⟨go,capo,e3,hOa,_⟩:=nums_of_own ro
 simp only at e1 e2 e3
 subst e1
 subst e2
 subst e3
 have c0:=hR.c0
 have hql:=h.lt
 have j0:(0:Int)<=(k:Int):=by omega
 have j1:(k:Int)<(B.L.length:Int):=by omega
 have j2:(B.L.length:Int)<=8:=by have:=hI.len;omega
 have HK2:Hid (m.kind=2):=hk2
 clear hk2
 go_enter Tryz.func94,Tryz.ntmps94
 go_upto_region 1 with fail
 have hb1:Below w.heap.size w (w.alloc (.cells #[.int .i64 m.kind,.int .i64 m.deal,.int .i64 m.shop,.int .i64 m.c,.int .i64 m.d,.bool m.yes] 142)):=(Below.refl _ _).alloc (Nat.le_refl _) _
 have hX:=MBx.new w m
 generalize (w.alloc (.cells #[.int .i64 m.kind,.int .i64 m.deal,.int .i64 m.shop,.int .i64 m.c,.int .i64 m.d,.bool m.yes] 142))=w1 at hb1 hX ⊢
 have HSt:Hid _:=qstate_any O B q m.deal w1 (h.next hb1) hI.len
 have hst1:=stR_there hI hd
 have h41:=h4.next hb1
 have c01:w1.cell? ⟨q,0,none⟩=some (.slice (some ⟨g,0,none⟩) B.L.length cap):=((bcell hb1).1 _ _ hql).trans c0
 have HWa:Hid (WantsAt w1 gw D.w):=hWa.below hb1 (Nat.le_refl _)
 have HYa:Hid (NumsAt w1 gy D.yes):=hYa.below hb1 (Nat.le_refl _)
 have HOa:Hid (NumsAt w1 go D.ov):=hOa.below hb1 (Nat.le_refl _)
 have hgw:g<w.heap.size:=h4.lt
 have HBg:Hid (g ≠ w.heap.size):=by show _ ≠ _;omega
 generalize hB0:w.heap.size=B0 at hX ⊢
 have HB0:Hid (w.heap.size=B0):=hB0
 clear hB0
 have x1:=hX.c1
 have x1':=hX.c1
 rw [hmk.out] at x1'
 have hz1:=hX.lt
 have HR:Hid (BokRaw 151 97 3 w q 0 B (.slice (some ⟨g,0,none⟩) B.L.length cap) ov V):=hR
 have HV:Hid (V[k]?=some ⟨.slice gw D.w.length capw,.slice gy D.yes.length capy,.slice go D.ov.length capo⟩):=hV
 have HSub:Hid (∀u∈(.slice (some ⟨g,0,none⟩) B.L.length cap:Value) :: ov :: V.flatMap DV.all,∀k,u.ownBlock=some k->O k):=hsub
 have HB1:Hid (Below w.heap.size w w1):=hb1
 have HD:Hid _:=hd
 have HkD:Hid _:=hkD
 have HYl:Hid (D.yes.length<=4∧D.ov.length<=3∧D.w.length<=4):=hYl
 clear h hR hV hsub hb1 hd h4 c0 hkD hI hWa hYa hOa rw_ ry ro hYl
 clear x1'
 go_wp2_with fail
 refine Calls.mono HSt.out ?_
 rintro e w1' ⟨rfl,rfl⟩
 rw [hmk.out] at x1
 go_wp2_with fail
 go_quiet (fail)
 go_wp2_with fail
 have hbq:=bdrewN HB1.out nq
 have hXq:=hX.next (w1:=w1'.drewN nq) (bdrewN (Below.refl _ _) _)
 have h4q:=h41.next (w1:=w1'.drewN nq) (bdrewN (Below.refl _ _) _)
 have HWq:Hid (WantsAt (w1'.drewN nq) gw D.w):=HWa.out.below (bdrewN (Below.refl _ _) _) (Nat.le_refl _)
 have HYq:Hid (NumsAt (w1'.drewN nq) gy D.yes):=HYa.out.below (bdrewN (Below.refl _ _) _) (Nat.le_refl _)
 have HOq:Hid (NumsAt (w1'.drewN nq) go D.ov):=HOa.out.below (bdrewN (Below.refl _ _) _) (Nat.le_refl _)
 generalize (w1'.drewN nq)=w2 at hbq hXq h4q HWq HYq HOq ⊢
 clear hX h41 HWa HYa HOa c01 x1 hz1 HB1 HSt hst1
 have k4:(m.kind == 4)=false:=by simp [HK2.out]
 have k2:(m.kind != 2)=false:=by simp [HK2.out]
 have x0:=hXq.c0
 go_quiet (fail)
 go_wp2_with fail
 have hb3:=bdrewN hbq nq
 have hX3:=hXq.next (w1:=w2.drewN nq) (bdrewN (Below.refl _ _) _)
 have h43:=h4q.next (w1:=w2.drewN nq) (bdrewN (Below.refl _ _) _)
 have HW3:Hid (WantsAt (w2.drewN nq) gw D.w):=HWq.out.below (bdrewN (Below.refl _ _) _) (Nat.le_refl _)
 have HY3:Hid (NumsAt (w2.drewN nq) gy D.yes):=HYq.out.below (bdrewN (Below.refl _ _) _) (Nat.le_refl _)
 generalize (w2.drewN nq)=w3 at hb3 hX3 h43 HW3 HY3 ⊢
 clear hXq h4q hbq HWq HYq HOq x0
 have x0:=hX3.c0
 have x2:=hX3.c2
 have x3:=hX3.c3
 have y1:=h43.c1
 by_cases h0:D.st=0
 ·have h0':(D.st != 0)=false:=by simp [h0]
  have H0:Hid (D.st=0):=h0
  clear h0
  by_cases hs:shp m.c=m.shop
  ·have hs':(shp m.c != m.shop)=false:=by simp [hs]
   have HS:Hid (shp m.c=m.shop):=hs
   clear hs
   go_quiet ((go_at_call 68;exact Calls.quiet_of_same (shopOf_any _ _)))
   go_wp2_with fail
   have hb4:=bdrewN hb3 nq
   have hX4:=hX3.next (w1:=w3.drewN nq) (bdrewN (Below.refl _ _) _)
   have h44:=h43.next (w1:=w3.drewN nq) (bdrewN (Below.refl _ _) _)
   have HW4:Hid (WantsAt (w3.drewN nq) gw D.w):=HW3.out.below (bdrewN (Below.refl _ _) _) (Nat.le_refl _)
   have HY4:Hid (NumsAt (w3.drewN nq) gy D.yes):=HY3.out.below (bdrewN (Below.refl _ _) _) (Nat.le_refl _)
   generalize (w3.drewN nq)=w4 at hb4 hX4 h44 HW4 HY4 ⊢
   clear hX3 h43 hb3 HW3 HY3 x0 x2 x3 y1
   go_loopg [5] D.w.length (fun gg s5 wr=>∃i:Nat,i<=D.w.length∧gg=D.w.length - i∧s5=.int .i64 i∧Hid ((m.c,m.d) ∉ D.w.take i)∧Below w4.heap.size w4 wr)
   case atStart=>exact ⟨0,Nat.zero_le _,rfl,rfl,by simp [Hid],Below.refl _ _⟩
   case round=>
    obtain ⟨i,hi2,rfl,rfl,HNt,hS⟩:=hrel
    have hXr:=hX4.next hS
    have h4r:=h44.next hS
    have hbr:=after hb4 hS hb4.size
    have y0:=h4r.c0
    by_cases hil:i<D.w.length
    ·obtain ⟨⟨a,b⟩,hwi⟩:∃x,D.w[i]?=some x:=⟨_,List.getElem?_eq_getElem hil⟩
     obtain ⟨bl,ol,rfl,hbl,e0,e1⟩:=HW4.out i a b hwi
     have p0:wr.cell? ⟨bl,ol+i * 2,none⟩=some (.int .i64 a):=((bcell hS).1 _ _ hbl).trans e0
     have p1:wr.cell? ⟨bl,ol+i * 2+1,none⟩=some (.int .i64 b):=((bcell hS).1 _ _ hbl).trans e1
     have x3:=hXr.c3
     have x4:=hXr.c4
     have i0':(0:Int)<=(i:Int):=by omega
     have i1':(i:Int)<(D.w.length:Int):=by omega
     have i2':(D.w.length:Int)<=4:=by have:=HYl.out;omega
     have HIL:Hid (i<D.w.length):=hil
     have HWi:Hid (D.w[i]?=some (a,b)):=hwi
     have hr4:IntKind.i64.wrap ((i:Int)+1)=(i:Int)+1:=by go_unwrap
     clear e0 e1 hil hwi hi2
     cases hq:(m.c == a && m.d == b) with
     | false=>
       have HE2:Hid _:=not_take_next HNt.out HWi.out hq
       have hq1:∀W:World,(Op.equalIn 10000 97 (.agg #[.int .i64 a,.int .i64 b]) (.agg #[.int .i64 m.c,.int .i64 m.d])).run Tryz.prog W=.ok false W:=fun W=>by rw [eqWn,show (a == m.c && b == m.d)=false by rw [<-hq,Bool.beq_comm,show (b == m.d)=(m.d == b) from Bool.beq_comm]]
       clear hq
       go_wp2_with fail
       go_quiet (fail)
       go_wp2_with fail
       go_roundg (D.w.length - (i+1))
       case measure=>have:=HIL.out;omega
       case rel=>exact ⟨i+1,HIL.out,rfl,by simp,HE2,bdrewN hS _⟩
     | true=>
       have hq1:∀W:World,(Op.equalIn 10000 97 (.agg #[.int .i64 a,.int .i64 b]) (.agg #[.int .i64 m.c,.int .i64 m.d])).run Tryz.prog W=.ok true W:=fun W=>by rw [eqWn,show (a == m.c && b == m.d)=true by rw [<-hq,Bool.beq_comm,show (b == m.d)=(m.d == b) from Bool.beq_comm]]
       have hab:a=m.c∧b=m.d:=by
        simp only [Bool.and_eq_true,beq_iff_eq] at hq
        exact ⟨hq.1.symm,hq.2.symm⟩
       have HWat:Hid (wantAt D.w m.c m.d=some i):=by
        have h1:=HWi.out
        rw [hab.1,hab.2] at h1
        exact wantAt_ix h1 HNt.out
       have HWi2:Hid (D.w[i]?=some (m.c,m.d)):=by
        have h1:=HWi.out
        rw [hab.1,hab.2] at h1
        exact h1
       clear hq hab HNt HWi
       go_wp2_with fail
       go_quiet (fail)
       have hb5:=bdrewN hbr nq
       have hX5:=hXr.next (w1:=wr.drewN nq) (bdrewN (Below.refl _ _) _)
       have h45:=h4r.next (w1:=wr.drewN nq) (bdrewN (Below.refl _ _) _)
       have HY5:Hid (NumsAt (wr.drewN nq) gy D.yes):=(HY4.out.below hS (Nat.le_refl _)).below (bdrewN (Below.refl _ _) _) (Nat.le_refl _)
       generalize (wr.drewN nq)=w5 at hb5 hX5 h45 HY5 ⊢
       clear hXr h4r hbr hS y0 p0 p1 x3 x4 hq1 HY4 hX4 h44 hb4 HW4
       have x5:=hX5.c5
       cases hy:m.yes with
       | false=>
         rw [hy] at x5
         have HE:Hid _:=hear_say_nay HD.out HK2.out H0.out HWat.out HS.out hy
         rw [hmk.out] at HE
         have y1:=h45.c1
         have yf:=h45.fr
         have HT:Hid _:=bok_st HI.out HSub.out HR.out HkD.out hb5 2
         clear hy
         go_wp2_with fail
         exact bodyPost_ret (v:=.tuple #[]) (by simp [results,Tryz.results94,go_sem]) rfl ⟨rfl,by rw [HE.out];exact HT.out⟩
       | true=>
         rw [hy] at x5
         have HE:Hid _:=hear_say_yes HD.out HK2.out H0.out HWat.out HS.out hy
         rw [hmk.out] at HE
         clear hy
         have y2:=h45.c2
         have HIn:Hid _:=in_any gy D.yes.length capy D.yes (i:Int) w5 HY5.out rfl (by have:=HYl.out;omega)
         go_wp2_with fail
         refine Calls.mono HIn.out ?_
         rintro e w5' ⟨rfl,rfl⟩
         clear HIn y2 x5
         obtain ⟨E,hE⟩:∃E,E=({ D with yes:=addI D.yes (i:Int) }:Dl):=⟨_,rfl⟩
         have HEE:Hid (E=({ D with yes:=addI D.yes (i:Int) }:Dl)):=hE
         clear hE
         have HEk:Hid ((putD B (k:Int) E).L[k]?=some E):=by
          show (B.L.set (k:Int).toNat E)[k]?=some E
          rw [Int.toNat_natCast]
          exact List.getElem?_set_self hk
         by_cases hm:(i:Int)∈D.yes
         case' pos=>
          rw [decide_eq_true hm]
          have hED:E=D:=by rw [HEE.out,show addI D.yes (i:Int)=D.yes by unfold addI;rw [if_pos hm]]
          have HM:Hid (∃gy6 capy6,SayMid O w w5' q g B.L.length cap k (putD B (k:Int) E) E ov ⟨.slice (some ⟨bl,ol,none⟩) D.w.length capw,.slice gy6 E.yes.length capy6,.slice go D.ov.length capo⟩ B0 m):=by
           refine ⟨gy,capy,⟨V,?_,?_,?_⟩,HEk.out,.of_below hb5,fun j=>hb5.cell (p:=⟨q,j,none⟩) HI.out.lt,(HI.out.next hb5).loose,hX5,Nat.lt_of_lt_of_le HI.out.lt hb5.size,by rw [hED];exact h45⟩
           ·rw [hED,show putD B (k:Int) D=B by rw [<-hmk.out];exact put_self HD.out]
            exact HR.out.save HI.out.lt (.of_below (O:=fun _=>False) hb5) (fun q=>q) (fun _ _ _ _ q=>q)
           ·rw [hED];exact HV.out
           ·intro u hu j hj
            have h1:=HSub.out u hu j hj
            have h2:=HI.out.own j h1
            have h3:=hb5.size
            exact ⟨.inl h1,by omega⟩
          clear hm hED hX5 h45 hb5 HY5
          go_upto_region 14 with fail
          generalize w5'=w6 at HM ⊢
         case' neg=>
          rw [decide_eq_false hm]
          have hEy:addI D.yes (i:Int)=D.yes++[(i:Int)]:=by unfold addI;rw [if_neg hm]
          have HEy:Hid (E.yes=D.yes++[(i:Int)]):=by show _=_;rw [HEE.out];exact hEy
          obtain ⟨ii,hi,hz0,hz1,hz2⟩:=info_parts infoInt
          have HRy:Hid (w5'.ownsRow (q+1) 3 1 (.slice gy D.yes.length capy) D.yes.length (D.yes.map (Value.int .i64))):=own_next ((HR.out.deal k D _ HkD.out HV.out).2.1) hb5
          have HNg:Hid (some g ≠ (.slice gy D.yes.length capy:Value).ownBlock):=fun e=>HR.out.other _ (by simp [(mem_all HV.out).2.1]) g e.symm rfl
          have HNb:Hid (¬(.slice gy D.yes.length capy:Value).ownBlock=some B0):=fun e=>by
           have h1:=HSub.out _ (by simp [(mem_all HV.out).2.1]) B0 e
           have h2:=HI.out.own _ h1
           have h3:=HB0.out
           omega
          have y2:=h45.c2
          have hg5:=h45.lt
          have hf5:=h45.fr
          have hqq:q+1<=w5'.heap.size:=by have:=HI.out.lt;have:=hb5.size;omega
          clear hm hEy
          go_upto_region 14 with (at_builtin;refine list_append_two rfl (.tmp 114) (.tmp 116) 66 rfl (q+1) 3 ii (.int .i64 0) 1 8 Tryz.underlying66 hi hz0 hz1 hz2 rfl (by decide) (.slice gy D.yes.length capy) _ _ rfl (own_next HRy.out (by go_grown)) ⟨w5'.heap.size,0,none⟩ 1 1 [.int .i64 (i:Int)] rfl rfl (num_new _ rfl) num_cell (by have:=HYl.out;unfold maxLen;omega) (by have:=HYl.out;omega) (by simp;omega) (by decide) ?_;intro v8 w8 hown8 hgrow8 hwh8;obtain ⟨ga8,cap8,rfl⟩:=own_sl hown8;have HO8:Hid (w8.ownsRow (q+1) 3 1 (.slice ga8 (D.yes.length+1) cap8) (D.yes.length+1) (D.yes.map (Value.int .i64)++[.int .i64 (i:Int)])):=hown8;clear hown8;have HW8:Hid _:=hwh8;clear hwh8;have k8:w8.cell? ⟨g,k * 4+2,none⟩=some (.slice gy D.yes.length capy):=hgrow8.cell (by simp [go_sem,y2,hg5]) HNg.out;have f8:∀j,w8.frozen? ⟨g,j,none⟩=false:=(fun j=>(World.frozen?_of_block (hgrow8.block g (by simp;omega) HNg.out)).trans (by simp [go_sem,hf5,hg5]));have h8:Hid (Save (fun j=>(Value.slice gy D.yes.length capy).ownBlock=some j) w5' w8):=(Save.of_below (by go_grown)).grown hgrow8 (fun k e _=>e);clear hgrow8)
          have e8:E.yes.length=D.yes.length+1:=by rw [HEy.out];simp
          have HM:Hid (∃gy6 capy6,SayMid O w (w8.setCell ⟨g,k * 4+2,none⟩ (.slice ga8 (D.yes.length+1) cap8)) q g B.L.length cap k (putD B (k:Int) E) E ov ⟨.slice (some ⟨bl,ol,none⟩) D.w.length capw,.slice gy6 E.yes.length capy6,.slice go D.ov.length capo⟩ B0 m):=by
           have e9:E.yes.map (Value.int .i64)=D.yes.map (Value.int .i64)++[.int .i64 (i:Int)]:=by rw [HEy.out];simp
           have hEE:({ D with yes:=E.yes }:Dl)=E:=by
            have h1:=HEE.out
            rw [h1]
           obtain ⟨_,b2,b3,b4,b5,b6⟩:=bok_yes (l:=E.yes) (v8:=.slice ga8 (D.yes.length+1) cap8) HI.out HSub.out HR.out HkD.out HV.out hb5 h8.out (by rw [e8,e9];exact HO8.out) (fun j hj=>(HW8.out j hj).imp id (fun e=>by rw [e];simp))
           rw [hEE] at b2
           have hv6:(V.set k { (⟨.slice (some ⟨bl,ol,none⟩) D.w.length capw,.slice gy D.yes.length capy,.slice go D.ov.length capo⟩:DV) with y:=.slice ga8 (D.yes.length+1) cap8 })[k]?=some ⟨.slice (some ⟨bl,ol,none⟩) D.w.length capw,.slice ga8 (D.yes.length+1) cap8,.slice go D.ov.length capo⟩:=List.getElem?_set_self (List.getElem?_eq_some_iff.1 HV.out).1
           have hl9:q<(w8.setCell ⟨g,k * 4+2,none⟩ (.slice ga8 (D.yes.length+1) cap8)).heap.size:=Nat.lt_of_lt_of_le HI.out.lt b3.size
           refine ⟨ga8,cap8,⟨_,b2,by rw [e8];exact hv6,b4⟩,HEk.out,b3,b5,b6,(hX5.save h8.out HNb.out).save (O:=fun b=>b=g) (Save.setCell (O:=fun b=>b=g) (Save.refl _ _) (p:=⟨g,k * 4+2,none⟩) (fun _=>rfl) _) (fun e=>HBg.out (by rw [HB0.out,e])),hl9,?_⟩
           obtain ⟨g',cap',v',eg,hv',h4',_,_⟩:=b2.deal4 HEk.out
           have e1:g=g':=by
            simp only [Value.slice.injEq,Option.some.injEq,Addr.mk.injEq] at eg
            exact eg.1.1
           subst e1
           rw [hv6] at hv'
           rw [e8,Option.some.inj hv']
           exact h4'
          clear h8 k8 f8 HO8 HW8 y2 hg5 hf5 hqq hX5 h45 hb5 HY5 e8 HEy HRy HNg HNb hi hz0 hz1 hz2
          generalize (w8.setCell ⟨g,k * 4+2,none⟩ (.slice ga8 (D.yes.length+1) cap8))=w6 at HM ⊢
         all_goals
          obtain ⟨gy6,capy6,hM⟩:=HM.out
          clear HM
          have y0:=hM.four.c0
          have y2:=hM.four.c2
          have HEy:Hid (E.yes=addI D.yes (i:Int)):=by show _=_;rw [HEE.out]
          by_cases hl:E.yes.length=D.w.length
          ·have hl':((E.yes.length:Int) == (D.w.length:Int))=true:=by simp [hl]
           have HL:Hid ((addI D.yes (i:Int)).length=D.w.length):=by show _=_;rw [<-HEy.out];exact hl
           clear hl
           go_quiet (fail)
           have hM7:=hM.next (w7:=w6.drewN nq) (bdrewN (Below.refl _ _) _)
           generalize (w6.drewN nq)=w7 at hM7 ⊢
           clear hM y0 y2
           have y1:=hM7.four.c1
           have yf:=hM7.four.fr
           have yl:=hM7.four.lt
           obtain ⟨V6,hR6,hV6,hrw6⟩:=hM7.raw
           have hR8:=hR6.st hM7.lt hM7.ek 1
           have hS8:Save (fun b=>b=g) w7 (w7.setCell ⟨g,k * 4+1,none⟩ (.int .i64 1)):=Save.setCell (O:=fun b=>b=g) (Save.refl _ _) (p:=⟨g,k * 4+1,none⟩) (fun _=>rfl) _
           have hqg:q ≠ g:=by have:=(hR6.row.lt g rfl).1;omega
           have hX8:=hM7.box.save hS8 (fun e=>HBg.out (by rw [HB0.out,e]))
           have hl8:q<(w7.setCell ⟨g,k * 4+1,none⟩ (.int .i64 1)).heap.size:=by simpa using hM7.lt
           have hf8:∀j,(w7.setCell ⟨g,k * 4+1,none⟩ (.int .i64 1)).frozen? ⟨q,j,none⟩=false:=by simpa [go_sem] using hM7.frz
           have hgO:O g:=HSub.out _ List.mem_cons_self g rfl
           have HSv8:Hid (Save O w (w7.setCell ⟨g,k * 4+1,none⟩ (.int .i64 1))):=hM7.save.setCell (p:=⟨g,k * 4+1,none⟩) (fun _=>hgO) _
           have HCl8:Hid (∀j,(w7.setCell ⟨g,k * 4+1,none⟩ (.int .i64 1)).cell? ⟨q,j,none⟩=w.cell? ⟨q,j,none⟩):=fun j=>(cell_set_block hqg).trans (hM7.cell j)
           have HRw8:Hid (∀u∈(.slice (some ⟨g,0,none⟩) B.L.length cap:Value) :: ov :: V6.flatMap DV.all,∀j,u.ownBlock=some j->(O j∨w.heap.size<=j)∧j<(w7.setCell ⟨g,k * 4+1,none⟩ (.int .i64 1)).heap.size):=fun u hu j hj=>⟨(hrw6 u hu j hj).1,by simpa using (hrw6 u hu j hj).2⟩
           go_upto_region 16 with fail
           generalize (w7.setCell ⟨g,k * 4+1,none⟩ (.int .i64 1))=w8 at hR8 hX8 hl8 hf8 HSv8 HCl8 HRw8 ⊢
           clear hS8 hM7 y1 yf yl hR6 hV6 hrw6 hqg hgO
           have c1:w8.cell? ⟨q,1,none⟩=some ov:=hR8.c1
           have hord:w8.ownsRow (q+1) 3 1 ov B.ord.length (B.ord.map (Value.int .i64)):=hR8.ord
           obtain ⟨gd,capd,rfl⟩:=own_sl hord
           have HOrd:Hid (w8.ownsRow (q+1) 3 1 (.slice gd B.ord.length capd) B.ord.length (B.ord.map (Value.int .i64))):=hord
           have HR8:Hid (BokRaw 151 97 3 w8 q 0 (putD (putD B (k:Int) E) (k:Int) { E with st:=1 }) (.slice (some ⟨g,0,none⟩) B.L.length cap) (.slice gd B.ord.length capd) V6):=hR8
           have HN1:Hid (some q ≠ (.slice gd B.ord.length capd:Value).ownBlock):=fun e=>by have:=(HOrd.out.lt q e.symm).1;omega
           have HLo:Hid (B.ord.length<=8):=HInv.out.ordLen
           have x1:=hX8.c1
           have xl:=hX8.lt
           obtain ⟨ii,hi,hz0,hz1,hz2⟩:=info_parts infoInt
           clear hR8 hord hX8
           go_region_law
            (first | (refine step_append_two (by rfl) (.tmp 138) (.tmp 141) 66 (by rfl) (q+1) 3 ii (.int .i64 0) 1 8 Tryz.underlying66 hi hz0 hz1 hz2 rfl (by decide) (.slice gd B.ord.length capd) _ _ (by rfl) (own_next HOrd.out (by go_grown)) ⟨w8.heap.size,0,none⟩ 1 1 [.int .i64 m.deal] (by rfl) rfl (num_lies (by simp [go_sem])) num_cell (by have:=HLo.out;unfold maxLen;omega) (by have:=HLo.out;omega) (by simp;omega) (by decide) ?_;intro v9 w9 hown9 hgrow9 hwh9;obtain ⟨ga9,cap9,rfl⟩:=own_sl hown9;have HO9:Hid (w9.ownsRow (q+1) 3 1 (.slice ga9 (B.ord.length+1) cap9) (B.ord.length+1) (B.ord.map (Value.int .i64)++[.int .i64 m.deal])):=hown9;clear hown9;have HW9:Hid _:=hwh9;clear hwh9;have k9:w9.cell? ⟨q,1,none⟩=some (.slice gd B.ord.length capd):=hgrow9.cell (by simp [go_sem,c1,hl8]) HN1.out;have f9:∀k,w9.frozen? ⟨q,k,none⟩=false:=fun k=>(World.frozen?_of_block (hgrow9.block q (by simp;omega) HN1.out)).trans (by simp [go_sem,hf8,hl8])))
           all_goals
            have h9:Save (fun k=>(Value.slice gd B.ord.length capd).ownBlock=some k) w8 w9:=(Save.of_below (by go_grown)).grown hgrow9 (fun k e _=>e)
            have hW9:∀k,(Value.slice ga9 (B.ord.length+1) cap9).ownBlock=some k->(Value.slice gd B.ord.length capd).ownBlock=some k∨w8.heap.size<=k:=fun k hk=>(HW9.out k hk).imp id (fun e=>by rw [e];simp)
            clear hgrow9 x1 c1
            go_wp2_with fail
            refine bodyPost_ret (v:=.tuple #[]) (by simp [results,Tryz.results94,go_sem]) rfl ⟨rfl,?_⟩
            rw [HE.out,if_pos HL.out]
            have e8:(B.ord++[(k:Int)]).length=B.ord.length+1:=by simp
            have e9:(B.ord++[(k:Int)]).map (Value.int .i64)=B.ord.map (Value.int .i64)++[.int .i64 m.deal]:=by rw [hmk.out];simp
            have hR9:=HR8.out.ordr (l:=B.ord++[(k:Int)]) (v8:=.slice ga9 (B.ord.length+1) cap9) hl8 (fun u hu j hj=>(HRw8.out u hu j hj).2) h9 (by rw [e8,e9];exact HO9.out) hW9
            have eB:({ putD (putD B (k:Int) E) (k:Int) { E with st:=1 } with ord:=B.ord++[(k:Int)] }:Bok)={ putD B (k:Int) { D with yes:=addI D.yes (i:Int),st:=1 } with ord:=B.ord++[(k:Int)] }:=by
             rw [HEE.out]
             unfold putD
             simp
            rw [eB] at hR9
            have hqo:¬(Value.slice gd B.ord.length capd).ownBlock=some q:=fun e=>HN1.out e.symm
            refine bok_to HI.out.own HI.out.mine ?_ hR9 (by simpa [go_sem] using f9) ?_ (fun j _ hj=>(cell_set_off hj).trans ((h9.cell (p:=⟨q,j,none⟩) hl8 hqo).trans (HCl8.out j)))
            ·have hOd:∀j,j<w.heap.size->(Value.slice gd B.ord.length capd).ownBlock=some j->O j:=fun j hj e=>HSub.out _ (by simp) j e
             exact (HSv8.out.trans h9 hOd).setCell (p:=⟨q,1,none⟩) (fun _=>HI.out.mine) _
            ·intro u hu j hj
             have hsz:(w9.setCell (⟨q,0+1,none⟩:Addr) (.slice ga9 (B.ord.length+1) cap9)).heap.size=w9.heap.size:=by simp
             show _∧j<(w9.setCell (⟨q,0+1,none⟩:Addr) (.slice ga9 (B.ord.length+1) cap9)).heap.size
             rw [hsz]
             have z1:=HSv8.out.size
             have z8:=h9.size
             have old:∀x∈(.slice (some ⟨g,0,none⟩) B.L.length cap:Value) :: (.slice gd B.ord.length capd) :: V6.flatMap DV.all,x.ownBlock=some j->(O j∨w.heap.size<=j)∧j<w9.heap.size:=fun x hx hj=>⟨(HRw8.out x hx j hj).1,by have:=(HRw8.out x hx j hj).2;omega⟩
             rcases List.mem_cons.1 hu with rfl | hu
             ·exact old _ (by simp) hj
             ·rcases List.mem_cons.1 hu with rfl | hu
              ·refine ⟨?_,(HO9.out.lt j hj).2⟩
               rcases hW9 j hj with e | e
               ·exact (old _ (by simp) e).1
               ·exact .inr (by omega)
              ·exact old _ (List.mem_cons_of_mem _ (List.mem_cons_of_mem _ hu)) hj
          ·have hl':((E.yes.length:Int) == (D.w.length:Int))=false:=by rw [beq_eq_false_iff_ne];omega
           have HL:Hid (¬(addI D.yes (i:Int)).length=D.w.length):=by show ¬_;rw [<-HEy.out];exact hl
           clear hl
           go_quiet (fail)
           go_wp2_with fail
           refine bodyPost_ret (v:=.tuple #[]) (by simp [results,Tryz.results94,go_sem]) rfl ⟨rfl,?_⟩
           rw [HE.out,if_neg HL.out,<-HEE.out]
           exact (hM.next (bdrewN (Below.refl _ _) _)).to HI.out
    ·have hii:i=D.w.length:=by omega
     subst hii
     have HE:Hid (hearR B m=B):=by
      refine hear_say_no HD.out HK2.out (.inr (.inl ?_))
      have q:=HNt.out
      rw [List.take_of_length_le (Nat.le_refl _)] at q
      unfold wantAt
      rw [List.findIdx?_eq_none_iff]
      intro x hx
      simp only [Bool.and_eq_false_imp,beq_iff_eq,beq_eq_false_iff_ne,ne_eq]
      intro e1 e2
      exact q (by rw [<-e1,<-e2];exact hx)
     clear hi2 hil
     go_wp2_with fail
     exact bodyPost_end (v:=.tuple #[]) (by simp [results,Tryz.results94,go_sem]) rfl ⟨rfl,by rw [HE.out];exact BokTo.stay HI.out hbr⟩
  ·have hs':(shp m.c != m.shop)=true:=by simpa using hs
   have HE:Hid _:=hear_say_no HD.out HK2.out (.inr (.inr hs))
   clear hs
   go_quiet ((go_at_call 68;exact Calls.quiet_of_same (shopOf_any _ _)))
   go_wp2_with fail
   exact bodyPost_ret (v:=.tuple #[]) (by simp [results,Tryz.results94,go_sem]) rfl ⟨rfl,by rw [HE.out];exact BokTo.stay HI.out (bdrewN hb3 _)⟩
 ·have h0':(D.st != 0)=true:=by simpa using h0
  have HE:Hid _:=hear_say_no HD.out HK2.out (.inl h0)
  clear h0
  go_quiet (fail)
  go_wp2_with fail
  exact bodyPost_ret (v:=.tuple #[]) (by simp [results,Tryz.results94,go_sem]) rfl ⟨rfl,by rw [HE.out];exact BokTo.stay HI.out (bdrewN hb3 _)⟩
theorem qhear_any (O:Nat->Prop) (B:Bok) (q:Nat) (m:Ml) (w:World) (h:BokIn 151 97 3 O w q 0 B) (hI:BInv B):
 Calls Tryz.prog 94 #[.pointer (some ⟨q,0,none⟩),.agg #[.int .i64 m.kind,.int .i64 m.deal,.int .i64 m.shop,.int .i64 m.c,.int .i64 m.d,.bool m.yes]] w fun e w'=>e=.returned (.tuple #[])∧BokTo 151 97 3 O w w' q 0 (hearR B m):=by
 cases hd:dealAt B m.deal with
 | none=>exact qhear_none O B q m w h hI hd
 | some D=>
   by_cases h2:m.kind=2
   ·exact qhear_say O B q m D w h hI hd h2
   ·by_cases h4:m.kind=4
    ·exact qhear_over O B q m D w h hI hd h4
    ·exact qhear_other O B q m D w h hI hd ⟨h2,h4⟩
end Go.Proofs.YtbgnajcmhmpjlacGreatDoor
