/- A desk hears a line. -/
import Derived.Deep.RegionLaw
import Derived.Test.YtbgnajcmhmpjlacGreatDoorA9
set_option maxRecDepth 100000
set_option maxHeartbeats 100000000
namespace Go.Proofs.YtbgnajcmhmpjlacGreatDoor
open Go.RowKit
def Ob (r:Option (List UInt8 × Twn)) (w0:World) (Z:Nat->Prop) (w:World) (p q b m:Nat) (c:Nat->Nat) (ws:Nat->Int) (l:List UInt8) (T:Twn) (e:Ending) (w':World):Prop:=e=.returned (.bool r.isSome)∧DLv w0 Z w' p q b m c ws (l++(r.getD ([],T)).1) (r.getD ([],T)).2∧Save (fun k=>¬Z k) w w'
theorem Ob.some {r:List UInt8 × Twn} {o:Option (List UInt8 × Twn)} {w0:World} {Z:Nat->Prop} {w:World} {p q b m:Nat} {c:Nat->Nat} {ws:Nat->Int} {l:List UInt8} {T:Twn} {w':World} (ho:o=.some r) (h:DLv w0 Z w' p q b m c ws (l++r.1) r.2∧Save (fun k=>¬Z k) w w'):Ob o w0 Z w p q b m c ws l T (.returned (.bool true)) w':=by
 subst ho
 exact ⟨rfl,h.1,h.2⟩
theorem Ob.none {o:Option (List UInt8 × Twn)} {w0:World} {Z:Nat->Prop} {w:World} {p q b m:Nat} {c:Nat->Nat} {ws:Nat->Int} {l:List UInt8} {T:Twn} {w':World} (ho:o=.none) (h:DLv w0 Z w p q b m c ws l T) (hb:Below w.heap.size w w'):Ob o w0 Z w p q b m c ws l T (.returned (.bool false)) w':=by
 subst ho
 exact ⟨rfl,by simpa using h.next hb,Save.of_below hb⟩
theorem ba_eq {w:ByteArray} {l:List UInt8} (h:w.data.toList=l):w=⟨l.toArray⟩:=by
 subst h
 rfl
theorem not_word {w:ByteArray} {l:List UInt8} (h:¬w=⟨l.toArray⟩):(w.toList == l)=false:=by
 rw [ByteArray.toList_eq]
 exact beq_eq_false_iff_ne.2 (fun e=>h (ba_eq e))
theorem wants_nil (w:World):WantsAt w none []:=fun k c d hk=>by simp at hk
theorem mails_dlv2 {w0 w W:World} {Z:Nat->Prop} {p q b m:Nat} {c:Nat->Nat} {ws:Nat->Int} {l:List UInt8} {T:Twn} (ms:List Ml) {ga:Option Addr} {gc:Nat} (ht:Tied w0) (h:DLv w0 Z w p q b m c ws l T) (hW:Below w.heap.size w W) (hm:MailsAt W ga ms) (hz:∀a,ga=some a->w.heap.size<=a.block∧a.block<W.heap.size) (hs:∀x∈ms,MTell x) (hl:ms.length<=40) (hR:Room (l.length+5000)):
 Calls Tryz.prog 80 #[.pointer (some ⟨p,0,none⟩),.slice ga ms.length gc] W fun e w'=>e=.returned (.tuple #[])∧DLv w0 Z w' p q b m c ws (l++sayMails ms) T∧Save (fun k=>¬Z k) w w':=by
 have h2:DLv w0 (fun k=>Z k∨∃a,ga=some a∧k=a.block) W p q b m c ws l T:=h.more hW (fun k hk=>hk.elim .inl (fun ⟨a,ha,e⟩=>.inr (by rw [e];exact hz a ha)))
 refine (mails_dlv ms ht h2 hm (fun a ha=>.inr ⟨a,ha,rfl⟩) hs hl hR).mono ?_
 rintro e w' ⟨rfl,k1,k2⟩
 exact ⟨rfl,k1.less (fun _ hk=>.inl hk),(Save.of_below hW).trans k2 (fun _ _ hj hz=>hj (.inl hz))⟩
theorem alone_dlv {w0 w:World} {Z:Nat->Prop} {p q b m:Nat} {c:Nat->Nat} {ws:Nat->Int} {l:List UInt8} {T:Twn} (wd:ByteArray) (ht:Tied w0) (h:DLv w0 Z w p q b m c ws l T) (hR:Room (l.length+5000)):
 Calls Tryz.prog 51 #[.pointer (some ⟨p,0,none⟩),.string wd] w (Ob (aloneR ws T wd.data.toList) w0 Z w p q b m c ws l T):=by
 obtain ⟨c2,hp,c0,hq⟩:=h.cells
 have HD:=hid h
 have HT:=hid ht
 have HR:=hid hR
 have HR2:Hid (Room (l.length+2000)):=hR.le (by omega)
 have hF:=hid h.full
 clear h ht hR
 by_cases e1:wd=⟨#[116,105,99,107]⟩
 ·subst e1
  have HO:Hid (aloneR ws T (⟨#[116,105,99,107]⟩:ByteArray).data.toList=some (stepW T ⟨2,0,[]⟩)):=by unfold aloneR;rw [if_pos (by decide)];exact rfl
  have HC:=dstep_dlv ⟨2,0,[]⟩ (sa:=none) (sc:=0) HT.out HD.out (wants_nil w) HR2.out
  clear c2 c0
  go_enter Tryz.func51,Tryz.ntmps51
  go_wp2_with (go_at_call 73;refine Calls.mono HC ?_;rintro e w7 ⟨rfl,k1,k2⟩;have HK7:=hid (And.intro k1 k2);clear k1 k2)
  go_returns
  exact Ob.some HO.out HK7.out
 by_cases e2:wd=⟨#[98,114,111,107,101,114]⟩
 ·subst e2
  have HO:Hid (aloneR ws T (⟨#[98,114,111,107,101,114]⟩:ByteArray).data.toList=some (stepW T ⟨8,0,[]⟩)):=by unfold aloneR;rw [if_neg (by decide),if_pos (by decide)];exact rfl
  have HC:=dstep_dlv ⟨8,0,[]⟩ (sa:=none) (sc:=0) HT.out HD.out (wants_nil w) HR2.out
  clear c2 c0
  go_enter Tryz.func51,Tryz.ntmps51
  go_wp2_with (go_at_call 73;refine Calls.mono HC ?_;rintro e w7 ⟨rfl,k1,k2⟩;have HK7:=hid (And.intro k1 k2);clear k1 k2)
  go_returns
  exact Ob.some HO.out HK7.out
 by_cases e3:wd=⟨#[99,97,108,109]⟩
 ·subst e3
  have HO:Hid (aloneR ws T (⟨#[99,97,108,109]⟩:ByteArray).data.toList=some (sayN (bytes "calm") [((calmR 20 0 T).1:Int)],(calmR 20 0 T).2)):=by unfold aloneR;rw [if_neg (by decide),if_neg (by decide),if_pos (by decide)];exact rfl
  have HC:=calm_dlv HD.out
  have HM:Hid (Sm ((calmR 20 0 T).1:Int)):=calm_tell hF.out.full
  clear c0
  generalize (calmR 20 0 T).2=T' at *
  generalize ((calmR 20 0 T).1:Int)=n at *
  go_enter Tryz.func51,Tryz.ntmps51
  go_wp2_with (first | (go_at_call 75;refine Calls.mono HC ?_;rintro e w6 ⟨rfl,k1,k2⟩;have HK6:=hid (And.intro k1 k2);have hp6:=k1.cells.2.1;clear k1 k2) | (go_at_call 74;refine Calls.mono (num_dlv ⟨#[99,97,108,109]⟩ n 3 HT.out HK6.out.1 (by decide) (by decide) HM.out HR2.out) ?_;rintro e w7 ⟨rfl,k1,k2⟩;have HK7:=hid (And.intro k1 (HK6.out.2.trans k2 (fun _ _ hj=>hj)));clear k1 k2))
  go_returns
  exact Ob.some HO.out HK7.out
 by_cases e4:wd=⟨#[119,111,114,108,100]⟩
 ·subst e4
  have HO:Hid (aloneR ws T (⟨#[119,111,114,108,100]⟩:ByteArray).data.toList=some (sayN (bytes "world") (six6 (valT T)),T)):=by unfold aloneR;rw [if_neg (by decide),if_neg (by decide),if_neg (by decide),if_pos (by decide)];exact rfl
  have HC:=world_tlv HD.out.tlv
  have HM:Hid (∀k,k<6->Sm (valT T k)):=fun k hk=>(world_tell hF.out.full hk).1
  clear c0
  go_enter Tryz.func51,Tryz.ntmps51
  go_wp2_with (first | (go_at_call 77;refine Calls.mono HC ?_;rintro e w6 ⟨rfl,hb6⟩;have HB6:=hid hb6;have hp6:p<w6.heap.size:=Nat.lt_of_lt_of_le hp hb6.size;clear hb6) | (go_at_call 76;refine Calls.mono (dworld_dlv (valT T) HT.out (HD.out.next HB6.out) HM.out HR2.out) ?_;rintro e w7 ⟨rfl,k1,k2⟩;have HK7:=hid (And.intro k1 ((Save.of_below HB6.out).trans k2 (fun _ _ hj=>hj)));clear k1 k2))
  go_returns
  exact Ob.some HO.out HK7.out
 by_cases e5:wd=⟨#[115,101,114,105,97,108]⟩
 ·subst e5
  have HO:Hid (aloneR ws T (⟨#[115,101,114,105,97,108]⟩:ByteArray).data.toList=some (sayN (bytes "world") (six6 (curR ws T)),T)):=by unfold aloneR;rw [if_neg (by decide),if_neg (by decide),if_neg (by decide),if_neg (by decide),if_pos (by decide)];exact rfl
  have HC:=serial_tlv HD.out.tlv
  have HM:Hid (∀k,k<6->Sm (curR ws T k)):=fun k hk=>(world_tell hF.out.full hk).2
  clear c0
  go_enter Tryz.func51,Tryz.ntmps51
  go_wp2_with (first | (go_at_call 78;refine Calls.mono HC ?_;rintro e w6 ⟨rfl,hb6⟩;have HB6:=hid hb6;have hp6:p<w6.heap.size:=Nat.lt_of_lt_of_le hp hb6.size;clear hb6) | (go_at_call 76;refine Calls.mono (dworld_dlv (curR ws T) HT.out (HD.out.next HB6.out) HM.out HR2.out) ?_;rintro e w7 ⟨rfl,k1,k2⟩;have HK7:=hid (And.intro k1 ((Save.of_below HB6.out).trans k2 (fun _ _ hj=>hj)));clear k1 k2))
  go_returns
  exact Ob.some HO.out HK7.out
 by_cases e6:wd=⟨#[100,111,110,101]⟩
 ·subst e6
  have HO:Hid (aloneR ws T (⟨#[100,111,110,101]⟩:ByteArray).data.toList=some (sayN (bytes "done") T.B.ord,T)):=by unfold aloneR;rw [if_neg (by decide),if_neg (by decide),if_neg (by decide),if_neg (by decide),if_neg (by decide),if_pos (by decide)];exact rfl
  have HC:=done_tlv HD.out.tlv
  have HM:Hid (∀(W:World) (v:Value),Below w.heap.size w W->W.ownsRow w.heap.size 3 1 v T.B.ord.length (T.B.ord.map (Value.int .i64))->Calls Tryz.prog 74 #[.pointer (some ⟨p,0,none⟩),.string ⟨#[100,111,110,101]⟩,v] W fun e w'=>e=.returned (.tuple #[])∧DLv w0 Z w' p q b m c ws (l++sayN (bytes "done") T.B.ord) T∧Save (fun k=>¬Z k) w w'):=fun W v hW hv=>by
   obtain ⟨ga,cap,rfl,hn,_⟩:=nums_of_own hv
   have h8:=hF.out.full.brk.ordLen
   have hsh:=sayN_short (w:=bytes "done") (l:=T.B.ord) (by decide) (ord_tell hF.out.full.brk)
   refine (tell_dlv ⟨#[100,111,110,101]⟩ T.B.ord HT.out (HD.out.next hW) hn (ord_tell hF.out.full.brk) (by omega) (by decide) (HR2.out.le ?_)).mono ?_
   ·show l.length+(sayN (bytes "done") T.B.ord).length<=_
    omega
   ·rintro e w' ⟨rfl,k1,k2⟩
    exact ⟨rfl,k1,(Save.of_below hW).trans k2 (fun _ _ hj=>hj)⟩
  go_enter Tryz.func51,Tryz.ntmps51
  go_wp2_with (first | (go_at_call 79;refine Calls.mono HC ?_;rintro e w6 ⟨⟨v,rfl,hv⟩,hb6⟩;have HC6:=HM.out w6 v hb6 hv;clear hv hb6) | (go_at_call 74;refine Calls.mono HC6 ?_;rintro e w7 ⟨rfl,k1,k2⟩;have HK7:=hid (And.intro k1 k2);clear k1 k2))
  go_returns
  exact Ob.some HO.out HK7.out
 by_cases e7:wd=⟨#[109,97,105,108]⟩
 ·subst e7
  have HO:Hid (aloneR ws T (⟨#[109,97,105,108]⟩:ByteArray).data.toList=some (sayMails T.M,T)):=by unfold aloneR;rw [if_neg (by decide),if_neg (by decide),if_neg (by decide),if_neg (by decide),if_neg (by decide),if_neg (by decide),if_pos (by decide)];exact rfl
  have HC:=mail_tlv HD.out.tlv
  have HM:Hid (∀(W:World) (ga:Option Addr) (cap:Nat),Below w.heap.size w W->MailsAt W ga T.M->(∀a,ga=some a->w.heap.size<=a.block∧a.block<W.heap.size)->Calls Tryz.prog 80 #[.pointer (some ⟨p,0,none⟩),.slice ga T.M.length cap] W fun e w'=>e=.returned (.tuple #[])∧DLv w0 Z w' p q b m c ws (l++sayMails T.M) T∧Save (fun k=>¬Z k) w w'):=fun W ga cap hW hm hn=>mails_dlv2 T.M HT.out HD.out hW hm hn (mail_tell hF.out) hF.out.full.town.inv.mlen HR.out
  go_enter Tryz.func51,Tryz.ntmps51
  go_wp2_with (first | (go_at_call 81;refine Calls.mono HC ?_;rintro e w6 ⟨⟨ga,cap,rfl,hm,hn,_⟩,hb6⟩;have HC6:=HM.out w6 ga cap hb6 hm hn;clear hm hn hb6) | (go_at_call 80;refine Calls.mono HC6 ?_;rintro e w7 ⟨rfl,k1,k2⟩;have HK7:=hid (And.intro k1 k2);clear k1 k2))
  go_returns
  exact Ob.some HO.out HK7.out
 by_cases e8:wd=⟨#[100,117,101]⟩
 ·subst e8
  have HO:Hid (aloneR ws T (⟨#[100,117,101]⟩:ByteArray).data.toList=some (sayMails (dueR T.B),T)):=by unfold aloneR;rw [if_neg (by decide),if_neg (by decide),if_neg (by decide),if_neg (by decide),if_neg (by decide),if_neg (by decide),if_neg (by decide),if_pos (by decide)];exact rfl
  have HC:=due_tlv HD.out.tlv
  have HM:Hid (∀(W:World) (v:Value),Below w.heap.size w W->W.ownsRow w.heap.size 142 6 v (dueR T.B).length (flat6 (dueR T.B))->Calls Tryz.prog 80 #[.pointer (some ⟨p,0,none⟩),v] W fun e w'=>e=.returned (.tuple #[])∧DLv w0 Z w' p q b m c ws (l++sayMails (dueR T.B)) T∧Save (fun k=>¬Z k) w w'):=fun W v hW hv=>by
   have hlt:=hv.lt
   obtain ⟨ga,cap,rfl,hm,_⟩:=mails_of_own hv
   exact mails_dlv2 (dueR T.B) HT.out HD.out hW hm (fun a ha=>hlt a.block (by rw [ha];rfl)) (due_tell hF.out.full.brk) (due_few hF.out.full.brk) HR.out
  go_enter Tryz.func51,Tryz.ntmps51
  go_wp2_with (first | (go_at_call 82;refine Calls.mono HC ?_;rintro e w6 ⟨⟨v,rfl,hv⟩,hb6⟩;have HC6:=HM.out w6 v hb6 hv;clear hv hb6) | (go_at_call 80;refine Calls.mono HC6 ?_;rintro e w7 ⟨rfl,k1,k2⟩;have HK7:=hid (And.intro k1 k2);clear k1 k2))
  go_returns
  exact Ob.some HO.out HK7.out
 ·have HO:Hid (aloneR ws T wd.data.toList=none):=by
   unfold aloneR
   rw [if_neg (show ¬wd.data.toList=bytes "tick" from fun h=>e1 (ba_eq h)),if_neg (show ¬wd.data.toList=bytes "broker" from fun h=>e2 (ba_eq h)),if_neg (show ¬wd.data.toList=bytes "calm" from fun h=>e3 (ba_eq h)),if_neg (show ¬wd.data.toList=bytes "world" from fun h=>e4 (ba_eq h)),if_neg (show ¬wd.data.toList=bytes "serial" from fun h=>e5 (ba_eq h)),if_neg (show ¬wd.data.toList=bytes "done" from fun h=>e6 (ba_eq h)),if_neg (show ¬wd.data.toList=bytes "mail" from fun h=>e7 (ba_eq h)),if_neg (show ¬wd.data.toList=bytes "due" from fun h=>e8 (ba_eq h))]
   exact rfl
  have f1:(wd.toList == [116,105,99,107])=false:=not_word e1
  have f2:(wd.toList == [98,114,111,107,101,114])=false:=not_word e2
  have f3:(wd.toList == [99,97,108,109])=false:=not_word e3
  have f4:(wd.toList == [119,111,114,108,100])=false:=not_word e4
  have f5:(wd.toList == [115,101,114,105,97,108])=false:=not_word e5
  have f6:(wd.toList == [100,111,110,101])=false:=not_word e6
  have f7:(wd.toList == [109,97,105,108])=false:=not_word e7
  have f8:(wd.toList == [100,117,101])=false:=not_word e8
  clear e1 e2 e3 e4 e5 e6 e7 e8
  go_enter Tryz.func51,Tryz.ntmps51
  go_wp2_with fail
  go_returns
  exact Ob.none HO.out HD.out (by go_grown)
theorem with_dlv {w0 w:World} {Z:Nat->Prop} {p q b m:Nat} {c:Nat->Nat} {ws:Nat->Int} {l:List UInt8} {T:Twn} (wd:ByteArray) (n:Int) (ht:Tied w0) (h:DLv w0 Z w p q b m c ws l T) (hR:Room (l.length+5000)):
 Calls Tryz.prog 52 #[.pointer (some ⟨p,0,none⟩),.string wd,.int .i64 n] w (Ob (withR T wd.data.toList n) w0 Z w p q b m c ws l T):=by
 obtain ⟨c2,hp,c0,hq⟩:=h.cells
 have HD:=hid h
 have HT:=hid ht
 have HR:=hid hR
 have HR2:Hid (Room (l.length+2000)):=hR.le (by omega)
 have hF:=hid h.full
 clear h ht hR
 by_cases e1:wd=⟨#[100,101,108,105,118,101,114]⟩
 ·subst e1
  have HO:Hid (withR T (⟨#[100,101,108,105,118,101,114]⟩:ByteArray).data.toList n=some (stepW T ⟨3,n,[]⟩)):=by unfold withR;rw [if_pos (by decide)];exact rfl
  have HC:=dstep_dlv ⟨3,n,[]⟩ (sa:=none) (sc:=0) HT.out HD.out (wants_nil w) HR2.out
  clear c2 c0
  go_enter Tryz.func52,Tryz.ntmps52
  go_wp2_with (go_at_call 73;refine Calls.mono HC ?_;rintro e w7 ⟨rfl,k1,k2⟩;have HK7:=hid (And.intro k1 k2);clear k1 k2)
  go_returns
  exact Ob.some HO.out HK7.out
 by_cases e2:wd=⟨#[108,111,115,101]⟩
 ·subst e2
  have HO:Hid (withR T (⟨#[108,111,115,101]⟩:ByteArray).data.toList n=some (stepW T ⟨4,n,[]⟩)):=by unfold withR;rw [if_neg (by decide),if_pos (by decide)];exact rfl
  have HC:=dstep_dlv ⟨4,n,[]⟩ (sa:=none) (sc:=0) HT.out HD.out (wants_nil w) HR2.out
  clear c2 c0
  go_enter Tryz.func52,Tryz.ntmps52
  go_wp2_with (go_at_call 73;refine Calls.mono HC ?_;rintro e w7 ⟨rfl,k1,k2⟩;have HK7:=hid (And.intro k1 k2);clear k1 k2)
  go_returns
  exact Ob.some HO.out HK7.out
 by_cases e3:wd=⟨#[100,111,117,98,108,101]⟩
 ·subst e3
  have HO:Hid (withR T (⟨#[100,111,117,98,108,101]⟩:ByteArray).data.toList n=some (stepW T ⟨5,n,[]⟩)):=by unfold withR;rw [if_neg (by decide),if_neg (by decide),if_pos (by decide)];exact rfl
  have HC:=dstep_dlv ⟨5,n,[]⟩ (sa:=none) (sc:=0) HT.out HD.out (wants_nil w) HR2.out
  clear c2 c0
  go_enter Tryz.func52,Tryz.ntmps52
  go_wp2_with (go_at_call 73;refine Calls.mono HC ?_;rintro e w7 ⟨rfl,k1,k2⟩;have HK7:=hid (And.intro k1 k2);clear k1 k2)
  go_returns
  exact Ob.some HO.out HK7.out
 by_cases e4:wd=⟨#[113,117,105,116]⟩
 ·subst e4
  have HO:Hid (withR T (⟨#[113,117,105,116]⟩:ByteArray).data.toList n=some (stepW T ⟨6,n,[]⟩)):=by unfold withR;rw [if_neg (by decide),if_neg (by decide),if_neg (by decide),if_pos (by decide)];exact rfl
  have HC:=dstep_dlv ⟨6,n,[]⟩ (sa:=none) (sc:=0) HT.out HD.out (wants_nil w) HR2.out
  clear c2 c0
  go_enter Tryz.func52,Tryz.ntmps52
  go_wp2_with (go_at_call 73;refine Calls.mono HC ?_;rintro e w7 ⟨rfl,k1,k2⟩;have HK7:=hid (And.intro k1 k2);clear k1 k2)
  go_returns
  exact Ob.some HO.out HK7.out
 by_cases e5:wd=⟨#[115,104,111,112]⟩
 ·subst e5
  have HO:Hid (withR T (⟨#[115,104,111,112]⟩:ByteArray).data.toList n=some (stepW T ⟨7,n,[]⟩)):=by unfold withR;rw [if_neg (by decide),if_neg (by decide),if_neg (by decide),if_neg (by decide),if_pos (by decide)];exact rfl
  have HC:=dstep_dlv ⟨7,n,[]⟩ (sa:=none) (sc:=0) HT.out HD.out (wants_nil w) HR2.out
  clear c2 c0
  go_enter Tryz.func52,Tryz.ntmps52
  go_wp2_with (go_at_call 73;refine Calls.mono HC ?_;rintro e w7 ⟨rfl,k1,k2⟩;have HK7:=hid (And.intro k1 k2);clear k1 k2)
  go_returns
  exact Ob.some HO.out HK7.out
 by_cases e6:wd=⟨#[115,116,97,116,101]⟩
 ·subst e6
  have HO:Hid (withR T (⟨#[115,116,97,116,101]⟩:ByteArray).data.toList n=some (sayN (bytes "state") [stR T.B n],T)):=by unfold withR;rw [if_neg (by decide),if_neg (by decide),if_neg (by decide),if_neg (by decide),if_neg (by decide),if_pos (by decide)];exact rfl
  have HC:=state_tlv n HD.out.tlv
  have HM:Hid (Sm (stR T.B n)):=state_tell hF.out.full.brk n
  generalize stR T.B n=co at *
  go_enter Tryz.func52,Tryz.ntmps52
  go_wp2_with (first | (go_at_call 83;refine Calls.mono HC ?_;rintro e w6 ⟨rfl,h6⟩;rw [h6];clear h6 w6) | (go_at_call 74;refine Calls.mono (num_dlv ⟨#[115,116,97,116,101]⟩ co 3 HT.out HD.out (by decide) (by decide) HM.out HR2.out) ?_;rintro e w7 ⟨rfl,k1,k2⟩;have HK7:=hid (And.intro k1 k2);clear k1 k2))
  go_returns
  exact Ob.some HO.out HK7.out
 by_cases e7:wd=⟨#[104,111,108,100,115]⟩
 ·subst e7
  by_cases hs:0<=n∧n<3
  ·have HO:Hid (withR T (⟨#[104,111,108,100,115]⟩:ByteArray).data.toList n=some (sayHolds (T.P n.toNat).A,T)):=by unfold withR;rw [if_neg (by decide),if_neg (by decide),if_neg (by decide),if_neg (by decide),if_neg (by decide),if_neg (by decide),if_pos (by decide),if_pos hs];exact rfl
   obtain ⟨s,rfl⟩:∃s:Nat,n=(s:Int):=⟨n.toNat,by omega⟩
   have HC:=holds_some s HT.out HD.out (by omega) HR.out
   rw [Int.toNat_natCast] at HO
   clear c2 c0 hs
   go_enter Tryz.func52,Tryz.ntmps52
   go_wp2_with (go_at_call 84;refine Calls.mono HC ?_;rintro e w7 ⟨rfl,k1,k2⟩;have HK7:=hid (And.intro k1 k2);clear k1 k2)
   go_returns
   exact Ob.some HO.out HK7.out
  ·have HO:Hid (withR T (⟨#[104,111,108,100,115]⟩:ByteArray).data.toList n=some (sayN (bytes "no") [1],T)):=by unfold withR;rw [if_neg (by decide),if_neg (by decide),if_neg (by decide),if_neg (by decide),if_neg (by decide),if_neg (by decide),if_pos (by decide),if_neg hs];exact rfl
   have HC:=holds_none n HT.out HD.out hs HR.out
   clear c2 c0 hs
   go_enter Tryz.func52,Tryz.ntmps52
   go_wp2_with (go_at_call 84;refine Calls.mono HC ?_;rintro e w7 ⟨rfl,k1,k2⟩;have HK7:=hid (And.intro k1 k2);clear k1 k2)
   go_returns
   exact Ob.some HO.out HK7.out
 ·have HO:Hid (withR T wd.data.toList n=none):=by
   unfold withR
   rw [if_neg (show ¬wd.data.toList=bytes "deliver" from fun h=>e1 (ba_eq h)),if_neg (show ¬wd.data.toList=bytes "lose" from fun h=>e2 (ba_eq h)),if_neg (show ¬wd.data.toList=bytes "double" from fun h=>e3 (ba_eq h)),if_neg (show ¬wd.data.toList=bytes "quit" from fun h=>e4 (ba_eq h)),if_neg (show ¬wd.data.toList=bytes "shop" from fun h=>e5 (ba_eq h)),if_neg (show ¬wd.data.toList=bytes "state" from fun h=>e6 (ba_eq h)),if_neg (show ¬wd.data.toList=bytes "holds" from fun h=>e7 (ba_eq h))]
   exact rfl
  have f1:(wd.toList == [100,101,108,105,118,101,114])=false:=not_word e1
  have f2:(wd.toList == [108,111,115,101])=false:=not_word e2
  have f3:(wd.toList == [100,111,117,98,108,101])=false:=not_word e3
  have f4:(wd.toList == [113,117,105,116])=false:=not_word e4
  have f5:(wd.toList == [115,104,111,112])=false:=not_word e5
  have f6:(wd.toList == [115,116,97,116,101])=false:=not_word e6
  have f7:(wd.toList == [104,111,108,100,115])=false:=not_word e7
  clear e1 e2 e3 e4 e5 e6 e7
  go_enter Tryz.func52,Tryz.ntmps52
  go_wp2_with fail
  go_returns
  exact Ob.none HO.out HD.out (by go_grown)
theorem pairs_snoc:∀(n:Nat) (a:List Int) (x y:Int),a.length=2 * n->pairs (a++[x,y])=pairs a++[(x,y)]
 | 0,a,x,y,h=>by
   have:a=[]:=List.eq_nil_of_length_eq_zero (by omega)
   subst this
   rfl
 | n+1,a,x,y,h=>by
   match a,h with
   | u :: v :: r,h=>
     have:=pairs_snoc n r x y (by simp at h;omega)
     simp only [List.cons_append,pairs,this]
theorem pairs_take {ns:List Int} {k:Nat} {a b:Int} (h1:ns[2 * k]?=some a) (h2:ns[2 * k+1]?=some b):pairs (ns.take (2 * (k+1)))=pairs (ns.take (2 * k))++[(a,b)]:=by
 have e:ns.take (2 * (k+1))=ns.take (2 * k)++[a,b]:=by
  rw [show 2 * (k+1)=2 * k+1+1 by omega,List.take_add_one,List.take_add_one,h1,h2]
  simp
 have hl:=(List.getElem?_eq_some_iff.1 h2).1
 rw [e,pairs_snoc k _ a b (by rw [List.length_take];omega)]
theorem infoWant2:(Tryz.prog.info? 97).map (fun i=>(i.zero,i.size,i.bytes))=some (some (.agg #[.int .i64 0,.int .i64 0]),2,16):=by kernel_rfl
theorem begin_dlv {w0 w:World} {Z:Nat->Prop} {p q b m:Nat} {c:Nat->Nat} {ws:Nat->Int} {l:List UInt8} {T:Twn} (ns:List Int) {na:Option Addr} {nc:Nat} (ht:Tied w0) (h:DLv w0 Z w p q b m c ws l T) (hn:NumsAt w na ns) (hl:ns.length<2 ^ 40) (hR:Room (l.length+5000)):
 Calls Tryz.prog 50 #[.pointer (some ⟨p,0,none⟩),.slice na ns.length nc] w (Ob (if ns.length % 2=0 then some (stepW T ⟨1,0,pairs ns⟩) else none) w0 Z w p q b m c ws l T):=by
 obtain ⟨i0,hi,hz0,hz1,hz2⟩:=info_parts infoWant2
 have HD:=hid h
 have HT:=hid ht
 have HN:=hid hn
 have HL:=hid hl
 have HR2:Hid (Room (l.length+2000)):=hR.le (by omega)
 clear h ht hR hn hl
 obtain ⟨ll,hll⟩:∃ll,ns.length=ll:=⟨_,rfl⟩
 rw [hll] at HL ⊢
 by_cases he:ll % 2=0
 ·rw [if_pos he]
  obtain ⟨hf,hhf⟩:∃hf,ll=2 * hf:=⟨ll / 2,by omega⟩
  have j3:(ll:Int).tmod 2=0:=by rw [Int.tmod_eq_emod_of_nonneg (by omega)];omega
  have HHf:Hid (ll=2 * hf):=hhf
  clear hhf he
  go_enter Tryz.func50,Tryz.ntmps50
  go_wp2_with fail
  go_loopg [5,6] hf (fun g v i wr=>∃k t:Nat,k<=hf∧g=hf - k∧i=.int .i64 t∧Hid (t=2 * k)∧wr.ownsRow w.heap.size 97 2 v k (flat (pairs (ns.take t)))∧Below w.heap.size w wr)
  case atStart=>exact ⟨0,0,by omega,rfl,rfl,hid rfl,World.ownsRow_nil _ _ _ _,by go_grown⟩
  case round=>
   obtain ⟨k,t,hk,rfl,rfl,HTk,hR,hB⟩:=hrel
   by_cases hlt:k<hf
   ·have htl:t+1<ll:=by have:=HHf.out;have:=HTk.out;omega
    obtain ⟨a,ha⟩:∃a,ns[t]?=some a:=⟨_,List.getElem?_eq_getElem (by omega)⟩
    obtain ⟨bb,hb⟩:∃b,ns[t+1]?=some b:=⟨_,List.getElem?_eq_getElem (by omega)⟩
    obtain ⟨bl,ol,rfl,hbl,y0⟩:=HN.out t a ha
    have y1:w.cell? ⟨bl,ol+(t+1),none⟩=some (.int .i64 bb):=by
     obtain ⟨b',o',e,_,y⟩:=HN.out (t+1) bb hb
     cases e
     exact y
    have z0:=(hB.cell (p:=⟨bl,ol+t,none⟩) hbl).trans y0
    have z1:=(hB.cell (p:=⟨bl,ol+(t+1),none⟩) hbl).trans y1
    have hbr:bl<wr.heap.size:=Nat.lt_of_lt_of_le hbl hB.size
    have HE:Hid (flat (pairs (ns.take (t+2)))=flat (pairs (ns.take t))++[.int .i64 a,.int .i64 bb]):=by
     have e1:=HTk.out
     have e2:pairs (ns.take (t+2))=pairs (ns.take t)++[(a,bb)]:=by
      subst e1
      exact pairs_take ha hb
     have e3:flat (pairs (ns.take (t+2)))=flat (pairs (ns.take t))++[.int .i64 a,.int .i64 bb]:=by rw [e2,flat_snoc]
     exact e3
    have j0:(0:Int)<=(t:Int):=by omega
    have j1:(t:Int)+1<(ll:Int):=by omega
    have j2:(ll:Int)<2 ^ 62:=by have:=HL.out;omega
    have j4:(t:Int)<(ll:Int):=by omega
    have hr1:IntKind.i64.wrap ((t:Int)+1)=((t+1:Nat):Int):=by rw [show ((t:Int)+1)=((t+1:Nat):Int) by omega];go_unwrap
    have j5:((t+1:Nat):Int)<(ll:Int):=by omega
    have j6:(0:Int)<=(t:Int)+1:=by omega
    have HKs:Hid (k<2 ^ 41):=by have:=HL.out;have:=HHf.out;show k<2 ^ 41;omega
    have HRw:Hid (wr.ownsRow w.heap.size 97 2 u5 k (flat (pairs (ns.take t)))):=hR
    have HB:=hid hB
    have hsz:=hB.size
    clear ha hb y0 y1 hR hB hbl
    go_upto_region 7 with fail
    go_region_law
     (first | (refine step_append_two (by rfl) (.tmp 17) (.tmp 28) 93 (by rfl) w.heap.size 97 i0 (.agg #[.int .i64 0,.int .i64 0]) 2 16 Tryz.underlying93 hi hz0 hz1 hz2 rfl (by decide) u5 _ _ (by simp [Act.eval]) (own_next HRw.out (by go_grown)) ⟨wr.heap.size,0,none⟩ 1 1 [.int .i64 a,.int .i64 bb] (by simp [Act.eval]) rfl (want_new _ (by simp)) want_cell (by have:=HKs.out;unfold maxLen;omega) (by have:=HKs.out;omega) (by simp;omega) (by decide) ?_;intro v8 w8 hown8 hgrow8 hwh8;have HO8:=hid hown8;have HB8:Hid (Below w.heap.size w w8):=own_below (own_next HRw.out (by go_grown)) hgrow8 (after HB.out (by go_grown) HB.out.size) (by simp;omega) (Nat.le_refl _);clear hown8 hgrow8 hwh8))
    all_goals
     go_wp2_with fail
     go_roundg (hf - (k+1))
     case measure=>omega
     case rel=>exact ⟨k+1,t+2,by omega,rfl,by simp,hid (by have:=HTk.out;omega),by rw [HE.out];exact HO8.out,HB8.out⟩
   ·obtain rfl:k=hf:=by omega
    have ht':t=ll:=by have:=HTk.out;have:=HHf.out;omega
    subst ht'
    have j1:¬(t:Int)<(t:Int):=by omega
    obtain ⟨ga,cap,rfl,hwa,hpl⟩:=wants_of_own hR
    rw [List.take_of_length_le (by omega)] at hwa hpl
    have HC:=dstep_dlv ⟨1,0,pairs ns⟩ (sa:=ga) (sc:=cap) HT.out (HD.out.next hB) hwa HR2.out
    rw [show (⟨1,0,pairs ns⟩:TSp).w.length=k from hpl] at HC
    have HB:=hid hB
    clear hR hwa hB
    go_wp2_with (go_at_call 73;refine Calls.mono HC ?_;rintro e w7 ⟨rfl,k1,k2⟩;have HK7:=hid (And.intro k1 ((Save.of_below HB.out).trans k2 (fun _ _ hj=>hj)));clear k1 k2)
    go_returns
    exact Ob.some (r:=stepW T ⟨1,0,pairs ns⟩) rfl HK7.out
 ·rw [if_neg he]
  have j3:¬(ll:Int).tmod 2=0:=by rw [Int.tmod_eq_emod_of_nonneg (by omega)];omega
  go_enter Tryz.func50,Tryz.ntmps50
  go_wp2_with fail
  go_returns
  exact Ob.none rfl HD.out (by go_grown)
theorem obey_dlv {w0 w:World} {Z:Nat->Prop} {p q b m:Nat} {c:Nat->Nat} {ws:Nat->Int} {l:List UInt8} {T:Twn} (wd:ByteArray) (ns:List Int) {na:Option Addr} {nc:Nat} (ht:Tied w0) (h:DLv w0 Z w p q b m c ws l T) (hn:NumsAt w na ns) (hl:ns.length<2 ^ 40) (hR:Room (l.length+5000)):
 Calls Tryz.prog 30 #[.pointer (some ⟨p,0,none⟩),.string wd,.slice na ns.length nc] w (Ob (obeyR ws T wd.data.toList ns) w0 Z w p q b m c ws l T):=by
 by_cases e1:wd=⟨#[98,101,103,105,110]⟩
 ·subst e1
  have HC:=begin_dlv ns (nc:=nc) ht h hn hl hR
  have HO:Hid (obeyR ws T (⟨#[98,101,103,105,110]⟩:ByteArray).data.toList ns=if ns.length % 2=0 then some (stepW T ⟨1,0,pairs ns⟩) else none):=by unfold obeyR;rw [if_pos (by decide)];exact rfl
  rw [HO.out]
  generalize (if ns.length % 2=0 then some (stepW T ⟨1,0,pairs ns⟩) else none)=o at *
  clear ht h hn hl hR
  go_enter Tryz.func30,Tryz.ntmps30
  go_wp2_with (go_at_call 50;refine Calls.mono HC ?_;rintro e w7 ⟨rfl,k1,k2⟩;have HK7:=hid (And.intro k1 k2);clear k1 k2)
  go_returns
  exact ⟨rfl,HK7.out⟩
 ·have f1:(wd.toList == [98,101,103,105,110])=false:=not_word e1
  have HB:Hid (¬wd.data.toList=bytes "begin"):=fun h=>e1 (ba_eq h)
  clear e1
  match ns,hn,hl with
  | [],hn,hl=>
    have HC:=alone_dlv wd ht h hR
    have HO:Hid (obeyR ws T wd.data.toList []=aloneR ws T wd.data.toList):=by unfold obeyR;rw [if_neg HB.out];exact rfl
    rw [HO.out]
    generalize aloneR ws T wd.data.toList=o at *
    clear ht h hn hl hR
    go_enter Tryz.func30,Tryz.ntmps30
    go_wp2_with (go_at_call 51;refine Calls.mono HC ?_;rintro e w7 ⟨rfl,k1,k2⟩;have HK7:=hid (And.intro k1 k2);clear k1 k2)
    go_returns
    exact ⟨rfl,HK7.out⟩
  | [k],hn,hl=>
    have HC:=with_dlv wd k ht h hR
    have HO:Hid (obeyR ws T wd.data.toList [k]=withR T wd.data.toList k):=by unfold obeyR;rw [if_neg HB.out];exact rfl
    rw [HO.out]
    generalize withR T wd.data.toList k=o at *
    obtain ⟨bl,ol,rfl,hbl,y0⟩:=hn 0 k rfl
    rw [Nat.add_zero] at y0
    clear ht h hn hl hR
    go_enter Tryz.func30,Tryz.ntmps30
    go_wp2_with (go_at_call 52;refine Calls.mono HC ?_;rintro e w7 ⟨rfl,k1,k2⟩;have HK7:=hid (And.intro k1 k2);clear k1 k2)
    go_returns
    exact ⟨rfl,HK7.out⟩
  | x :: y :: r,hn,hl=>
    have HO:Hid (obeyR ws T wd.data.toList (x :: y :: r)=none):=by unfold obeyR;rw [if_neg HB.out];exact rfl
    rw [HO.out]
    have HD:=hid h
    obtain ⟨ll,hll⟩:∃ll,(x :: y :: r).length=ll:=⟨_,rfl⟩
    have j1:¬(ll:Int)=0:=by simp at hll;omega
    have j2:¬(ll:Int)=1:=by simp at hll;omega
    rw [hll]
    clear ht h hn hl hR hll
    go_enter Tryz.func30,Tryz.ntmps30
    go_wp2_with fail
    go_returns
    exact Ob.none rfl HD.out (by go_grown)
theorem numsW_snoc {a:List (List UInt8)} {x:List UInt8} {l:List Int} {n:Int} (ha:numsW a=some l) (hx:numW x=some n):numsW (a++[x])=some (l++[n]):=by
 induction a generalizing l with
 | nil=>
   cases ha
   simp [numsW,hx]
 | cons y r ih=>
   simp only [numsW] at ha
   cases hy:numW y with
   | none=>rw [hy] at ha;cases ha
   | some k=>
     cases hr:numsW r with
     | none=>rw [hy,hr] at ha;cases ha
     | some t=>
       rw [hy,hr] at ha
       cases ha
       simp only [List.cons_append,numsW,hy,ih hr]
theorem numsW_none {l:List (List UInt8)} {x:List UInt8} (h:x∈l) (hx:numW x=none):numsW l=none:=by
 induction l with
 | nil=>simp at h
 | cons y r ih=>
   simp only [numsW]
   rcases List.mem_cons.1 h with e | e
   ·rw [<-e,hx]
   ·rw [ih e]
    cases numW y <;> rfl
theorem numsW_len:∀{l:List (List UInt8)} {ns:List Int},numsW l=some ns->ns.length=l.length
 | [],ns,h=>by cases h;rfl
 | y :: r,ns,h=>by
   simp only [numsW] at h
   cases hy:numW y with
   | none=>rw [hy] at h;cases h
   | some k=>
     cases hr:numsW r with
     | none=>rw [hy,hr] at h;cases h
     | some t=>
       rw [hy,hr] at h
       cases h
       simp [numsW_len hr]
def ParIs (o:Option (List Int)) (e:Ending) (w':World):Prop:=(∀ns,o=some ns->∃ga cap,e=.returned (.tuple #[.slice ga ns.length cap,.bool true])∧NumsAt w' ga ns)∧(o=none->e=.returned (.tuple #[.slice none 0 0,.bool false]))
theorem ParIs.none {o:Option (List Int)} {w':World} (h:o=.none):ParIs o (.returned (.tuple #[.slice .none 0 0,.bool false])) w':=by
 subst h
 exact ⟨fun ns e=>(by cases e),fun _=>rfl⟩
theorem ParIs.some {o:Option (List Int)} {ns:List Int} {w':World} {ga:Option Addr} {cap:Nat} (h:o=.some ns) (hn:NumsAt w' ga ns):ParIs o (.returned (.tuple #[.slice ga ns.length cap,.bool true])) w':=by
 subst h
 exact ⟨fun ns' e=>(by cases e;exact ⟨ga,cap,rfl,hn⟩),fun e=>(by cases e)⟩
def AtoIs (x:List UInt8) (e:Ending):Prop:=match Lib.atoiAll x with
 | .ok v=>e=.returned (.tuple #[.int .i64 v,.nilIface])
 | _=>∃v t u,e=.returned (.tuple #[.int .i64 v,.iface t u])
theorem atoi_any (x:ByteArray) (hx:x.size<=281474976710656) (w:World) (ht:Tied w):Calls Tryz.prog 33 #[.string x] w fun e w'=>AtoIs x.data.toList e∧Below w.heap.size w w':=by
 unfold AtoIs
 rcases ha:Lib.atoiAll x.data.toList with v | _ | _
 ·refine (Tryz.strconv_Atoi_ok x (by omega) v ha w).mono ?_
  rintro e w' ⟨rfl,rfl | ⟨t,rfl⟩⟩
  ·exact ⟨rfl,Below.refl _ _⟩
  ·exact ⟨rfl,Lib.bytesWorld_below w _ t⟩
 ·obtain ⟨tp,v,hv⟩:=ht.syn
  refine (Go.Proofs.Any.strconv_Atoi_syntax_var Tryz.laysC172 x hx ha tp v w hv).mono ?_
  rintro e w' ⟨N,rfl,_,_,hb⟩
  exact ⟨⟨_,_,_,rfl⟩,hb⟩
 ·obtain ⟨tp,v,hv⟩:=ht.rng
  refine (Tryz.strconv_Atoi_range_var x hx ha tp v w hv).mono ?_
  rintro e w' ⟨N,rfl,_,_,hb⟩
  exact ⟨⟨_,_,_,rfl⟩,hb⟩
theorem ato_ways (x:List UInt8):(∃v,Lib.atoiAll x=.ok v)∨(numW x=none∧AtoIs x=fun e=>∃v t u,e=.returned (.tuple #[.int .i64 v,.iface t u])):=by
 unfold numW AtoIs
 rcases Lib.atoiAll x with v | _ | _
 ·exact .inl ⟨v,rfl⟩
 ·exact .inr ⟨rfl,rfl⟩
 ·exact .inr ⟨rfl,rfl⟩
theorem parse_any (xs:List ByteArray) (la:Option Addr) (lc:Nat) (w:World) (ht:Tied w) (hx:StrsAt w la xs) (hs:∀x∈xs,x.size<=281474976710656) (hl:xs.length<2 ^ 40):
 Calls Tryz.prog 29 #[.slice la xs.length lc] w fun e w'=>ParIs (numsW (xs.map (·.data.toList))) e w'∧Below w.heap.size w w':=by
 obtain ⟨i0,hi,hz0,hz1,hz2⟩:=info_parts infoInt
 have HT:Hid (∀W:World,Below w.heap.size w W->Tied W):=fun W hW=>ht.below hW
 have HX:=hid hx
 have HS:=hid hs
 have HL:=hid hl
 clear ht hx hs hl
 obtain ⟨ll,hll⟩:∃ll,xs.length=ll:=⟨_,rfl⟩
 rw [hll] at HL ⊢
 go_enter Tryz.func29,Tryz.ntmps29
 go_wp2_with fail
 go_loopg [4,11] ll (fun g v i wr=>∃(k:Nat) (ns:List Int),k<=ll∧g=ll - k∧i=.int .i64 k∧Hid (numsW ((xs.take k).map (·.data.toList))=some ns)∧wr.ownsRow w.heap.size 3 1 v k (ns.map (Value.int .i64))∧Below w.heap.size w wr)
 case atStart=>exact ⟨0,[],by omega,rfl,rfl,hid rfl,World.ownsRow_nil _ _ _ _,by go_grown⟩
 case round=>
  obtain ⟨k,ns,hk,rfl,rfl,HNs,hR,hB⟩:=hrel
  have HR:Hid (wr.ownsRow w.heap.size 3 1 u4 k (ns.map (Value.int .i64))):=hR
  have HB:=hid hB
  have hsz:=hB.size
  by_cases hlt:k<ll
  ·obtain ⟨x,hkx⟩:∃x,xs[k]?=some x:=⟨_,List.getElem?_eq_getElem (by omega)⟩
   obtain ⟨bl,ol,rfl,hbl,y0⟩:=HX.out k x hkx
   have z0:=(hB.cell (p:=⟨bl,ol+k,none⟩) hbl).trans y0
   have hmem:=List.mem_of_getElem? hkx
   have hat:=fun (W:World) (hW:Below w.heap.size w W)=>atoi_any x (HS.out x hmem) W (HT.out W hW)
   have j0:(0:Int)<=(k:Int):=by omega
   have j1:(k:Int)<(ll:Int):=by omega
   have j2:(ll:Int)<2 ^ 62:=by have:=HL.out;omega
   have HNo:Hid (numW x.data.toList=none->numsW (xs.map (·.data.toList))=none):=fun e=>numsW_none (List.mem_map.2 ⟨x,hmem,rfl⟩) e
   have HYes:Hid (∀n,numW x.data.toList=some n->numsW ((xs.take (k+1)).map (·.data.toList))=some (ns++[n])):=fun n e=>by
    have e1:xs.take (k+1)=xs.take k++[x]:=by rw [List.take_add_one,hkx];rfl
    rw [e1,List.map_append]
    exact numsW_snoc HNs.out e
   clear hR hB y0 hkx hmem HX HS
   rcases ato_ways x.data.toList with ⟨v,ha⟩ | ⟨hnn,ha⟩
   rotate_left
   ·have HNone:Hid (numsW (xs.map (·.data.toList))=none):=HNo.out hnn
    rw [ha] at hat
    have HA:Hid (∀W:World,Below w.heap.size w W->Calls Tryz.prog 33 #[.string x] W fun e w'=>(∃v t u,e=.returned (.tuple #[.int .i64 v,.iface t u]))∧Below W.heap.size W w'):=hat
    clear hat ha hnn HNo HYes
    go_wp2_with (go_at_call 33;refine Calls.mono (HA.out _ HB.out) ?_;rintro e w1 ⟨⟨v,t,u,rfl⟩,hb1⟩;have HB1:Hid (Below w.heap.size w w1):=after HB.out hb1 HB.out.size;clear hb1)
    go_ret2
    exact ⟨ParIs.none HNone.out,HB1.out⟩
   ·unfold AtoIs at hat
    rw [ha] at hat
    have HA:Hid (∀W:World,Below w.heap.size w W->Calls Tryz.prog 33 #[.string x] W fun e w'=>e=.returned (.tuple #[.int .i64 v,.nilIface])∧Below W.heap.size W w'):=hat
    have hvb:=Lib.atoiAll_bounds ha
    have HI:Hid (∀W:World,Below w.heap.size w W->Calls Tryz.prog 49 #[.int .i64 v] W fun e w'=>e=.returned (.string (bs (Lib.itoa v)))∧Below W.heap.size W w'):=fun W hW=>itoa_any v hvb.1 hvb.2 W (HT.out W hW)
    clear hat hvb
    by_cases hv:Lib.itoa v=x.data.toList
    ·have hv':((bs (Lib.itoa v)).toList == x.toList)=true:=by rw [ByteArray.toList_eq,ByteArray.toList_eq,bs_data,hv];simp
     have HE:Hid (numsW ((xs.take (k+1)).map (·.data.toList))=some (ns++[v])):=HYes.out v (by unfold numW;rw [ha];simp only;rw [if_pos hv])
     clear hv ha HNo HYes
     generalize bs (Lib.itoa v)=sv at *
     go_wp2_with (first | (go_at_call 33;refine Calls.mono (HA.out _ HB.out) ?_;rintro e w1 ⟨rfl,hb1⟩;have HB1:Hid (Below w.heap.size w w1):=after HB.out hb1 HB.out.size;have HR1:=hid (own_next HR.out hb1);have hsz1:=hb1.size;clear hb1) | (go_at_call 49;refine Calls.mono (HI.out _ HB1.out) ?_;rintro e w2 ⟨rfl,hb2⟩;have HB2:Hid (Below w.heap.size w w2):=after HB1.out hb2 HB1.out.size;have HR2:Hid (w2.ownsRow w.heap.size 3 1 u4 k (ns.map (Value.int .i64))):=own_next HR1.out hb2;have hsz2:=hb2.size;clear hb2) | (at_builtin;refine list_append_two rfl (.tmp 28) (.tmp 30) 66 rfl w.heap.size 3 i0 (.int .i64 0) 1 8 Tryz.underlying66 hi hz0 hz1 hz2 rfl (by decide) u4 k _ rfl (HR2.out.alloc _) ⟨w2.heap.size,0,none⟩ 1 1 [.int .i64 v] rfl rfl (num_new _ (by simp)) num_cell (by have:=HL.out;unfold maxLen;omega) (by have:=HL.out;omega) (by simp;omega) (by decide) ?_;intro v7 w7 hown7 hgrow7 _;have HO7:=hid hown7;have HB7:Hid (Below w.heap.size w w7):=own_below (HR2.out.alloc _) hgrow7 (HB2.out.alloc (by omega) _) (by simp;omega) (Nat.le_refl _);clear hown7 hgrow7))
     go_roundg (ll - (k+1))
     case measure=>omega
     case rel=>exact ⟨k+1,ns++[v],by omega,rfl,by simp,HE,by rw [List.map_append];exact HO7.out,HB7.out⟩
    ·have hv':((bs (Lib.itoa v)).toList == x.toList)=false:=by
      rw [ByteArray.toList_eq,ByteArray.toList_eq,bs_data]
      exact beq_eq_false_iff_ne.2 hv
     have HNone:Hid (numsW (xs.map (·.data.toList))=none):=HNo.out (by unfold numW;rw [ha];simp only;rw [if_neg hv])
     clear hv ha HNo HYes
     generalize bs (Lib.itoa v)=sv at *
     go_wp2_with (first | (go_at_call 33;refine Calls.mono (HA.out _ HB.out) ?_;rintro e w1 ⟨rfl,hb1⟩;have HB1:Hid (Below w.heap.size w w1):=after HB.out hb1 HB.out.size;clear hb1) | (go_at_call 49;refine Calls.mono (HI.out _ HB1.out) ?_;rintro e w2 ⟨rfl,hb2⟩;have HB2:Hid (Below w.heap.size w w2):=after HB1.out hb2 HB1.out.size;clear hb2))
     go_ret2
     exact ⟨ParIs.none HNone.out,HB2.out⟩
  ·obtain rfl:k=ll:=by omega
   have j1:¬(k:Int)<(k:Int):=by omega
   obtain ⟨ga,cap,rfl,hn,hlen⟩:=nums_of_own hR
   have HE:Hid (numsW (xs.map (·.data.toList))=some ns):=by
    have e1:=HNs.out
    rw [List.take_of_length_le (by omega)] at e1
    exact e1
   subst hlen
   clear hR
   go_wp2_with fail
   go_ret2
   exact ⟨ParIs.some HE.out hn,hB⟩
theorem words_len:∀(l acc:List UInt8),(wordsR l acc).length<=l.length+1
 | [],acc=>by unfold wordsR;split <;> simp
 | c :: r,acc=>by
   unfold wordsR
   split
   ·split
    ·have:=words_len r []
     simp only [List.length_cons]
     omega
    ·have:=words_len r []
     simp only [List.length_cons]
     omega
   ·have:=words_len r (acc++[c])
    simp only [List.length_cons]
    omega
theorem words_each:∀(l acc:List UInt8),∀x∈wordsR l acc,x.length<=acc.length+l.length
 | [],acc=>by
   intro x hx
   unfold wordsR at hx
   split at hx
   ·simp at hx
   ·rw [List.mem_singleton.1 hx];simp
 | c :: r,acc=>by
   intro x hx
   unfold wordsR at hx
   split at hx
   ·split at hx
    ·have:=words_each r [] x hx
     simp at this ⊢
     omega
    ·rcases List.mem_cons.1 hx with e | e
     ·rw [e];simp
     ·have:=words_each r [] x e
      simp at this ⊢
      omega
   ·have:=words_each r _ x hx
    simp at this ⊢
    omega
theorem blank_pred (w:World):PredAtRunes Tryz.prog 28 #[] (fun r=>r == 32) w:=by
 intro W x hx hb
 unfold FnGives encR
 by_cases h:x=32
 ·subst h
  go_enter Tryz.func28,Tryz.ntmps28
  go_wp2_with fail
  go_ret
  exact ⟨rfl,0,rfl⟩
 ·have h1:¬(x:Int)=32:=by omega
  have h2:(x == 32)=false:=by simpa using h
  simp only [h2]
  clear h h2
  go_enter Tryz.func28,Tryz.ntmps28
  go_wp2_with fail
  go_ret
  exact ⟨by simp [h1],0,rfl⟩
theorem fields_any (s:ByteArray) (hs:s.size<=4294967296) (w:World):Calls Tryz.prog 27 #[.string s,.func (.func 28) #[] #[]] w fun e w'=>(∃A xs,e=.returned (.slice (some ⟨A,0,none⟩) xs.length xs.length)∧StrsAt w' (some ⟨A,0,none⟩) xs∧A<w'.heap.size∧w.heap.size<=A∧xs.map (·.data.toList)=wordsR s.data.toList [])∧Below w.heap.size w w':=by
 refine (Tryz.strings_FieldsFunc_runes 28 #[] (enters_of Tryz.func28 (by kernel_rfl) rfl) (fun r=>r == 32) s w hs (blank_pred w)).mono ?_
 rintro e w' ⟨A,rfl,hA,hown,hb⟩
 have hlt:=hown.lt A rfl
 obtain ⟨ga,cap,e1,h1,h2,_⟩:=strs_of_own hown
 cases e1
 exact ⟨⟨A,_,rfl,h1,hlt.2,hA,fields_words s⟩,hb⟩
theorem hear_dlv {w0 w:World} {Z:Nat->Prop} {p q b m:Nat} {c:Nat->Nat} {ws:Nat->Int} {l:List UInt8} {T:Twn} (s:ByteArray) (hs:s.size<=4294967296) (ht:Tied w0) (h:DLv w0 Z w p q b m c ws l T) (hR:Room (l.length+5000)):
 Calls Tryz.prog 15 #[.pointer (some ⟨p,0,none⟩),.string s] w fun e w'=>e=.returned (.tuple #[])∧DLv w0 Z w' p q b m c ws (l++(lineR ws T s.data.toList).1) (lineR ws T s.data.toList).2∧Save (fun k=>¬Z k) w w':=by
 have HF:=hid (fields_any s hs w)
 have HLen:=hid (words_len s.data.toList [])
 have HEach:=hid (words_each s.data.toList [])
 have HSz:Hid (s.size<=4294967296):=hs
 have HD:=hid h
 have HT:=hid ht
 have HR:=hid hR
 have HR2:Hid (Room (l.length+2000)):=hR.le (by omega)
 have hLR:Hid (lineR ws T s.data.toList=match wordsR s.data.toList [] with
  | []=>([],T)
  | w :: r=>match numsW r with
    | none=>(say [bytes "what"],T)
    | some n=>(obeyR ws T w n).getD (say [bytes "what"],T)):=hid rfl
 clear h ht hR hs
 generalize lineR ws T s.data.toList=LR at *
 generalize wordsR s.data.toList []=WR at *
 go_enter Tryz.func15,Tryz.ntmps15
 go_upto_region 1 with (go_at_call 27;refine Calls.mono HF.out ?_;rintro e w1 ⟨⟨A,xs,rfl,hx,hA,hA0,hxw⟩,hb1⟩;have HB1:=hid hb1;have HX:=hid hx;have HXw:=hid hxw;have hp1:p<w1.heap.size:=Nat.lt_of_lt_of_le HD.out.cells.2.1 hb1.size;clear hx hb1 hxw)
 clear HF
 cases xs with
 | nil=>
   have HE:Hid (LR=([],T)):=by
    have e1:=hLR.out
    rw [<-HXw.out] at e1
    exact e1
   go_wp2_with fail
   go_returns
   rw [HE.out]
   exact ⟨rfl,by simpa using HD.out.next HB1.out,Save.of_below HB1.out⟩
 | cons x r=>
   have HE:Hid (LR=match numsW (r.map (·.data.toList)) with
    | none=>(say [bytes "what"],T)
    | some n=>(obeyR ws T x.data.toList n).getD (say [bytes "what"],T)):=by
    have e1:=hLR.out
    rw [<-HXw.out] at e1
    exact e1
   have hrl:r.length<=4294967296:=by
    have e1:=HLen.out
    have e2:=HSz.out
    rw [<-HXw.out] at e1
    simp at e1
    omega
   have HSs:Hid (∀y∈r,y.size<=281474976710656):=fun y hy=>by
    have e1:=HEach.out y.data.toList (by rw [<-HXw.out];simp only [List.map_cons];exact List.mem_cons_of_mem _ (List.mem_map.2 ⟨y,hy,rfl⟩))
    have e2:=HSz.out
    have e3:y.data.toList.length=y.size:=rfl
    have e4:s.data.toList.length=s.size:=rfl
    simp only [List.length_nil] at e1
    omega
   have y0:w1.cell? ⟨A,0,none⟩=some (.string x):=by
    obtain ⟨b',o',e,_,hc⟩:=HX.out 0 x rfl
    cases e
    exact hc
   have HXr:Hid (StrsAt w1 (some ⟨A,1,none⟩) r):=fun k y hk=>by
    obtain ⟨b',o',e,hb',hc⟩:=HX.out (k+1) y (by simpa using hk)
    cases e
    exact ⟨A,1,rfl,hb',by rw [show 1+k=0+(k+1) by omega];exact hc⟩
   have HP:Hid (∀(la:Option Addr) (lc:Nat),(r=[]∨la=some ⟨A,1,none⟩)->Calls Tryz.prog 29 #[.slice la r.length lc] w1 fun e w'=>ParIs (numsW (r.map (·.data.toList))) e w'∧Below w1.heap.size w1 w'):=fun la lc hla=>by
    refine parse_any r la lc w1 (HT.out.below (HD.out.below.trans (HB1.out.mono HD.out.below.size))) ?_ HSs.out (by omega)
    rcases hla with e | e
    ·subst e
     intro k y hk
     simp at hk
    ·subst e
     exact HXr.out
   have HLn:Hid (∀ns,numsW (r.map (·.data.toList))=some ns->ns.length<2 ^ 40):=fun ns e=>by
    have:=numsW_len e
    rw [List.length_map] at this
    omega
   have hcase:(r=[]∧r.length=0)∨(∃n,r.length=n+1):=by
    cases r with
    | nil=>exact .inl ⟨rfl,rfl⟩
    | cons y t=>exact .inr ⟨t.length,rfl⟩
   have hlen:(x :: r).length=r.length+1:=rfl
   rw [hlen]
   clear hlen hLR HLen HEach HSz HSs HXr HX HXw hA0
   generalize numsW (r.map (·.data.toList))=NW at *
   have HW:=fun (w2:World) (hb2:Below w1.heap.size w1 w2)=>word_dlv ⟨#[119,104,97,116]⟩ 9 ((HD.out.next HB1.out).next hb2) (by decide) (by decide) HR2.out
   cases NW with
   | none=>
     have HE2:Hid (LR=(say [bytes "what"],T)):=HE.out
     rcases hcase with ⟨e0,e1⟩ | ⟨n,e1⟩
     ·have HC:=HP.out
      rw [e1] at HC ⊢
      clear HP HE
      go_wp2_with (first | (go_at_call 29;refine Calls.mono (HC _ _ (Or.inl e0)) ?_;rintro e w2 ⟨hpi,hb2⟩;obtain rfl:=hpi.2 rfl;have HB2:=hid hb2;have hp2:p<w2.heap.size:=Nat.lt_of_lt_of_le hp1 hb2.size;clear hpi hb2) | (go_at_call 31;refine Calls.mono (HW w2 HB2.out) ?_;rintro e w7 ⟨rfl,k1,k2⟩;have HK7:=hid (And.intro k1 ((Save.of_below (after HB1.out HB2.out HB1.out.size)).trans k2 (fun _ _ hj=>hj)));clear k1 k2))
      go_returns
      rw [HE2.out]
      exact ⟨rfl,HK7.out⟩
     ·have e0:=Or.inr (a:=r=[]) (rfl:(some ⟨A,1,none⟩:Option Addr)=some ⟨A,1,none⟩)
      have HC:=HP.out
      rw [e1] at HC ⊢
      have j1:¬(n+1+1=1):=by omega
      have j2:1<=n+1+1:=by omega
      clear HP HE
      go_wp2_with (first | (go_at_call 29;refine Calls.mono (HC _ _ e0) ?_;rintro e w2 ⟨hpi,hb2⟩;obtain rfl:=hpi.2 rfl;have HB2:=hid hb2;have hp2:p<w2.heap.size:=Nat.lt_of_lt_of_le hp1 hb2.size;clear hpi hb2) | (go_at_call 31;refine Calls.mono (HW w2 HB2.out) ?_;rintro e w7 ⟨rfl,k1,k2⟩;have HK7:=hid (And.intro k1 ((Save.of_below (after HB1.out HB2.out HB1.out.size)).trans k2 (fun _ _ hj=>hj)));clear k1 k2))
      go_returns
      rw [HE2.out]
      exact ⟨rfl,HK7.out⟩
   | some ns=>
     have HE2:Hid (LR=(obeyR ws T x.data.toList ns).getD (say [bytes "what"],T)):=HE.out
     have HOb:Hid (∀(w2:World) (ga:Option Addr) (cap:Nat),Below w1.heap.size w1 w2->NumsAt w2 ga ns->Calls Tryz.prog 30 #[.pointer (some ⟨p,0,none⟩),.string x,.slice ga ns.length cap] w2 (Ob (obeyR ws T x.data.toList ns) w0 Z w2 p q b m c ws l T)):=fun w2 ga cap hb2 hn=>obey_dlv x ns HT.out ((HD.out.next HB1.out).next hb2) hn (HLn.out ns rfl) HR.out
     generalize obeyR ws T x.data.toList ns=o at *
     cases o with
     | none=>
       have HE3:Hid (LR=(say [bytes "what"],T)):=HE2.out
       rcases hcase with ⟨e0,e1⟩ | ⟨n,e1⟩
       ·have HC:=HP.out
        rw [e1] at HC ⊢
        clear HP HE
        go_wp2_with (first | (go_at_call 29;refine Calls.mono (HC _ _ (Or.inl e0)) ?_;rintro e w2 ⟨hpi,hb2⟩;obtain ⟨ga,cap,rfl,hn⟩:=hpi.1 ns rfl;have HB2:=hid hb2;have HN2:=hid hn;have hp2:p<w2.heap.size:=Nat.lt_of_lt_of_le hp1 hb2.size;have y2:=(hb2.cell (p:=⟨A,0,none⟩) hA).trans y0;clear hpi hb2 hn) | (go_at_call 30;refine Calls.mono (HOb.out w2 ga cap HB2.out HN2.out) ?_;rintro e w3 ⟨rfl,k1,k2⟩;have HK3:Hid (DLv w0 Z w3 p q b m c ws l T∧Save (fun k=>¬Z k) w2 w3):=⟨by simpa using k1,k2⟩;have hp3:=k1.cells.2.1;clear k1 k2) | (go_at_call 31;refine Calls.mono (word_dlv ⟨#[119,104,97,116]⟩ 9 HK3.out.1 (by decide) (by decide) HR2.out) ?_;rintro e w7 ⟨rfl,k1,k2⟩;have HK7:=hid (And.intro k1 ((Save.of_below (after HB1.out HB2.out HB1.out.size)).trans (HK3.out.2.trans k2 (fun _ _ hj=>hj)) (fun _ _ hj=>hj)));clear k1 k2))
        go_returns
        rw [HE3.out]
        exact ⟨rfl,HK7.out⟩
       ·have e0:=Or.inr (a:=r=[]) (rfl:(some ⟨A,1,none⟩:Option Addr)=some ⟨A,1,none⟩)
        have HC:=HP.out
        rw [e1] at HC ⊢
        have j1:¬(n+1+1=1):=by omega
        have j2:1<=n+1+1:=by omega
        clear HP HE
        go_wp2_with (first | (go_at_call 29;refine Calls.mono (HC _ _ e0) ?_;rintro e w2 ⟨hpi,hb2⟩;obtain ⟨ga,cap,rfl,hn⟩:=hpi.1 ns rfl;have HB2:=hid hb2;have HN2:=hid hn;have hp2:p<w2.heap.size:=Nat.lt_of_lt_of_le hp1 hb2.size;have y2:=(hb2.cell (p:=⟨A,0,none⟩) hA).trans y0;clear hpi hb2 hn) | (go_at_call 30;refine Calls.mono (HOb.out w2 ga cap HB2.out HN2.out) ?_;rintro e w3 ⟨rfl,k1,k2⟩;have HK3:Hid (DLv w0 Z w3 p q b m c ws l T∧Save (fun k=>¬Z k) w2 w3):=⟨by simpa using k1,k2⟩;have hp3:=k1.cells.2.1;clear k1 k2) | (go_at_call 31;refine Calls.mono (word_dlv ⟨#[119,104,97,116]⟩ 9 HK3.out.1 (by decide) (by decide) HR2.out) ?_;rintro e w7 ⟨rfl,k1,k2⟩;have HK7:=hid (And.intro k1 ((Save.of_below (after HB1.out HB2.out HB1.out.size)).trans (HK3.out.2.trans k2 (fun _ _ hj=>hj)) (fun _ _ hj=>hj)));clear k1 k2))
        go_returns
        rw [HE3.out]
        exact ⟨rfl,HK7.out⟩
     | some t=>
       have HE3:Hid (LR=t):=HE2.out
       rcases hcase with ⟨e0,e1⟩ | ⟨n,e1⟩
       ·have HC:=HP.out
        rw [e1] at HC ⊢
        clear HP HE
        go_wp2_with (first | (go_at_call 29;refine Calls.mono (HC _ _ (Or.inl e0)) ?_;rintro e w2 ⟨hpi,hb2⟩;obtain ⟨ga,cap,rfl,hn⟩:=hpi.1 ns rfl;have HB2:=hid hb2;have HN2:=hid hn;have hp2:p<w2.heap.size:=Nat.lt_of_lt_of_le hp1 hb2.size;have y2:=(hb2.cell (p:=⟨A,0,none⟩) hA).trans y0;clear hpi hb2 hn) | (go_at_call 30;refine Calls.mono (HOb.out w2 ga cap HB2.out HN2.out) ?_;rintro e w3 ⟨rfl,k1,k2⟩;have HK3:Hid (DLv w0 Z w3 p q b m c ws (l++t.1) t.2∧Save (fun k=>¬Z k) w2 w3):=⟨k1,k2⟩;clear k1 k2))
        go_returns
        rw [HE3.out]
        exact ⟨rfl,HK3.out.1,(Save.of_below (after HB1.out HB2.out HB1.out.size)).trans HK3.out.2 (fun _ _ hj=>hj)⟩
       ·have e0:=Or.inr (a:=r=[]) (rfl:(some ⟨A,1,none⟩:Option Addr)=some ⟨A,1,none⟩)
        have HC:=HP.out
        rw [e1] at HC ⊢
        have j1:¬(n+1+1=1):=by omega
        have j2:1<=n+1+1:=by omega
        clear HP HE
        go_wp2_with (first | (go_at_call 29;refine Calls.mono (HC _ _ e0) ?_;rintro e w2 ⟨hpi,hb2⟩;obtain ⟨ga,cap,rfl,hn⟩:=hpi.1 ns rfl;have HB2:=hid hb2;have HN2:=hid hn;have hp2:p<w2.heap.size:=Nat.lt_of_lt_of_le hp1 hb2.size;have y2:=(hb2.cell (p:=⟨A,0,none⟩) hA).trans y0;clear hpi hb2 hn) | (go_at_call 30;refine Calls.mono (HOb.out w2 ga cap HB2.out HN2.out) ?_;rintro e w3 ⟨rfl,k1,k2⟩;have HK3:Hid (DLv w0 Z w3 p q b m c ws (l++t.1) t.2∧Save (fun k=>¬Z k) w2 w3):=⟨k1,k2⟩;clear k1 k2))
        go_returns
        rw [HE3.out]
        exact ⟨rfl,HK3.out.1,(Save.of_below (after HB1.out HB2.out HB1.out.size)).trans HK3.out.2 (fun _ _ hj=>hj)⟩
end Go.Proofs.YtbgnajcmhmpjlacGreatDoor
