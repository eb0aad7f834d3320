/- A town of one's own: its steps, what it tells, as the laws ask for it. -/
import Derived.Deep.RegionHeld3
import Derived.Test.YtbgnajcmhmpjlacGreatDoorA7
import Derived.Test.YtbgnajcmhmpjlacGreatDoorA4
import Derived.Test.YtbgnajcmhmpjlacGreatDoorA3
import Derived.Test.YtbgnajcmhmpjlacGreatDoorA5
import Derived.Test.YtbgnajcmhmpjlacGreatDoorA6
import Derived.Test.YtbgnajcmhmpjlacGreatDoorA2
set_option maxRecDepth 100000
set_option maxHeartbeats 100000000
namespace Go.Proofs.YtbgnajcmhmpjlacGreatDoor
open Go.RowKit
theorem hid {p:Prop} (h:p):Hid p:=h
structure Rdy (ws:Nat->Int) (T:Twn):Prop where
 shop:∀s:Nat,s<3->GoodK (book0 (s:Int) ws) (T.P s)∧Good (T.P s).A∧(T.P s).A.no=(s:Int)∧(T.P s).A.hs.length<=24∧(T.P s).A.es.length<=24∧(T.P s).rs.length<=24
 brk:BInv T.B
 ml:T.M.length<=40
 ok:∀s:Nat,s<3->newOk (s:Int) ws=true
theorem Full.rdy {ws:Nat->Int} {T:Twn} (h:Full ws T) (ok:∀s:Nat,s<3->newOk (s:Int) ws=true):Rdy ws T:=⟨fun _ hs=>h.shop hs,h.brk,h.town.inv.mlen,ok⟩
theorem TLv.rdy {w0:World} {Z:Nat->Prop} {w:World} {p b m:Nat} {c:Nat->Nat} {ws:Nat->Int} {T:Twn} (h:TLv w0 Z w p b m c ws T):Rdy ws T:=h.full.rdy h.ok
def clkP (c:Nat->Nat) (s:Int):Option Addr:=if 0<=s∧s<3 then some ⟨c s.toNat,0,none⟩ else none
theorem clkP_at (c:Nat->Nat) {s:Nat} (h:s<3):clkP c (s:Int)=some ⟨c s,0,none⟩:=by
 unfold clkP
 rw [if_pos ⟨by omega,by omega⟩]
 simp
theorem clkP_none (c:Nat->Nat) {s:Int} (h:¬(0<=s∧s<3)):clkP c s=none:=by unfold clkP;rw [if_neg h]
theorem tclerk_any {O:Nat->Prop} {p b m:Nat} {c:Nat->Nat} {ws:Nat->Int} {T:Twn} (s:Int) {w:World} (h:TnIn p b m c ws T O w):
 Calls Tryz.prog 116 #[.pointer (some ⟨p,0,none⟩),.int .i64 s] w fun e w'=>e=.returned (.pointer (clkP c s))∧w'=w:=by
 by_cases h0:s<0
 ·have HE:=hid (clkP_none c (s:=s) (by omega))
  clear h
  go_enter Tryz.func116,Tryz.ntmps116
  go_wp2_with fail
  go_ret
  exact ⟨by rw [HE.out];rfl,rfl⟩
 ·by_cases h3:3<=s
  ·have HE:=hid (clkP_none c (s:=s) (by omega))
   clear h
   go_enter Tryz.func116,Tryz.ntmps116
   go_wp2_with fail
   go_ret
   exact ⟨by rw [HE.out];rfl,rfl⟩
  ·obtain ⟨n,rfl⟩:∃n:Nat,s=(n:Int):=⟨s.toNat,by omega⟩
   have hn:n<3:=by omega
   have HE:=hid (clkP_at c hn)
   have hp:=h.ptr hn
   have hl:=h.lt
   have j0:(0:Int)<=(n:Int):=by omega
   have j3:(n:Int)<3:=by omega
   clear h hn
   go_enter Tryz.func116,Tryz.ntmps116
   go_wp2_with fail
   go_ret
   exact ⟨by rw [HE.out];rfl,rfl⟩
theorem tmail_any {O:Nat->Prop} {p b m:Nat} {c:Nat->Nat} {ws:Nat->Int} {T:Twn} {w:World} (h:TnIn p b m c ws T O w) (hl:T.M.length<=40):
 Calls Tryz.prog 81 #[.pointer (some ⟨p,0,none⟩)] w fun e w'=>(∃ga cap,e=.returned (.slice ga T.M.length cap)∧MailsAt w' ga T.M∧(∀a,ga=some a->w.heap.size<=a.block∧a.block<w'.heap.size)∧T.M.length<=cap)∧Below w.heap.size w w':=by
 obtain ⟨Om,hM,_⟩:=h.mail
 have hp:=h.c10
 have HC:=hid (plist_any Om T.M m 0 w hM (by omega))
 clear h hM hl
 go_enter Tryz.func81,Tryz.ntmps81
 go_wp2_with fail
 refine Calls.mono HC.out ?_
 rintro e w1 ⟨⟨ga,cap,rfl,h1,h2,h3⟩,hb⟩
 go_wp2_with fail
 go_ret
 exact ⟨⟨ga,cap,rfl,h1,h2,h3⟩,hb⟩
theorem TnIn.shop {p b m:Nat} {c:Nat->Nat} {ws:Nat->Int} {T:Twn} {O:Nat->Prop} {w:World} (h:TnIn p b m c ws T O w) {s:Nat} (hs:s<3):∃q r Ok Os,w.cell? ⟨c s,0,none⟩=some (.pointer (some ⟨q,0,none⟩))∧w.cell? ⟨q,0,none⟩=some (.pointer (some ⟨r,0,none⟩))∧c s<w.heap.size∧q<w.heap.size∧ShopIn Os w r (T.P s).A∧KeepIn Ok w q (s:Int) ws (T.P s):=by
 obtain ⟨Oc,hc,_⟩:=h.clk hs
 obtain ⟨Ok,q,hR,hK,_⟩:=hc.raw
 obtain ⟨Os,r,rv,hQ,hS,_⟩:=hK.raw
 exact ⟨q,r,Ok,Os,hR.c0,hQ.c0,hR.lt,hQ.lt,hS,hK⟩
theorem To.comp {B:(Nat->Prop)->World->Prop} {O O1:Nat->Prop} {w w1 w':World} (h2:Save O w w1) (h3:Moved O O1 w) (hk:To B O1 w1 w'):To B O w w':=by
 obtain ⟨O2,k1,k2,k3⟩:=hk
 refine ⟨O2,k1,h2.trans k2 (fun j hj hj1=>(h3 j hj1).elim id (fun q=>by omega)),fun k hk=>?_⟩
 rcases k3 k hk with q | q
 ·exact h3 k q
 ·exact .inr (Nat.le_trans h2.size q)
theorem To.save {B:(Nat->Prop)->World->Prop} {O:Nat->Prop} {w w':World} (h:To B O w w'):Save O w w':=h.choose_spec.2.1
theorem TnIn.own {p b m:Nat} {c:Nat->Nat} {ws:Nat->Int} {T:Twn} {O:Nat->Prop} {w:World} (h:TnIn p b m c ws T O w):∀k,O k->k<w.heap.size:=(tn_stands p b m c ws T).own h
theorem TnIn.next {p b m:Nat} {c:Nat->Nat} {ws:Nat->Int} {T:Twn} {O:Nat->Prop} {w w1:World} (h:TnIn p b m c ws T O w) (hb:Below w.heap.size w w1):TnIn p b m c ws T O w1:=(tn_stands p b m c ws T).next h hb
theorem tlose_any {O:Nat->Prop} {p b m:Nat} {c:Nat->Nat} {ws:Nat->Int} {T:Twn} (n:Int) {w:World} (h:TnIn p b m c ws T O w) (hl:T.M.length<=40):
 Calls Tryz.prog 136 #[.pointer (some ⟨p,0,none⟩),.int .i64 n] w fun e w'=>e=.returned (.int .i64 (if (takeR T.M n).2.1=true then 0 else 7))∧To (TnIn p b m c ws { T with M:=(takeR T.M n).2.2 }) O w w':=by
 obtain ⟨Om,hM,_,hS⟩:=h.mail
 have hp:=h.c10
 have HC:=hid (ptake_any Om T.M m 0 n w hM (by omega))
 have HS:=hid (hS)
 clear h hM hl hS
 generalize takeR T.M n=r at *
 obtain ⟨x,ok,l'⟩:=r
 cases ok with
 | true=>
   go_enter Tryz.func136,Tryz.ntmps136
   go_wp2_with fail
   refine Calls.mono HC.out ?_
   rintro e w1 ⟨rfl,hT⟩
   have HT:=hid (HS.out w1 _ hT)
   clear hT
   simp only [mlV]
   go_wp2_with fail
   go_ret
   exact ⟨rfl,HT.out.next (tn_stands ..) (by go_grown)⟩
 | false=>
   go_enter Tryz.func136,Tryz.ntmps136
   go_wp2_with fail
   refine Calls.mono HC.out ?_
   rintro e w1 ⟨rfl,hT⟩
   have HT:=hid (HS.out w1 _ hT)
   clear hT
   simp only [mlV]
   go_wp2_with fail
   go_ret
   exact ⟨rfl,HT.out.next (tn_stands ..) (by go_grown)⟩
theorem tdouble_any {O:Nat->Prop} {p b m:Nat} {c:Nat->Nat} {ws:Nat->Int} {T:Twn} (n:Int) {w:World} (h:TnIn p b m c ws T O w) (hl:T.M.length<=40):
 Calls Tryz.prog 137 #[.pointer (some ⟨p,0,none⟩),.int .i64 n] w fun e w'=>e=.returned (.int .i64 (if T.M.length=0 then 7 else if (dblR T.M n).1=true then 0 else 6))∧To (TnIn p b m c ws { T with M:=(dblR T.M n).2 }) O w w':=by
 obtain ⟨Om,hM,_⟩:=h.mail
 have hp:=h.c10
 have hpl:=h.lt
 have HL:=hid (plen_any Om T.M m 0 w hM)
 have HI:=hid h
 have HN:=hid hl
 clear h hM hl
 by_cases hz:T.M.length=0
 ·have hz':((T.M.length:Int) == 0)=true:=by simp [hz]
  have HD:Hid (dblR T.M n=(false,T.M)):=by show _=_;rw [List.eq_nil_of_length_eq_zero hz,dblR_nil]
  rw [if_pos hz]
  clear hz
  go_enter Tryz.func137,Tryz.ntmps137
  go_wp2_with fail
  refine Calls.mono HL.out ?_
  rintro e w1 ⟨rfl,hb⟩
  go_wp2_with fail
  go_ret
  exact ⟨rfl,by rw [HD.out];exact To.stay (tn_stands ..) HI.out hb⟩
 ·have hz':((T.M.length:Int) == 0)=false:=by rw [beq_eq_false_iff_ne];omega
  rw [if_neg hz]
  have HX:Hid (∀w1,Below w.heap.size w w1->Calls Tryz.prog 161 #[.pointer (some ⟨m,0,none⟩),.int .i64 n] w1 fun e w'=>e=.returned (.bool (dblR T.M n).1)∧To (TnIn p b m c ws { T with M:=(dblR T.M n).2 }) O w w'):=fun w1 hb=>by
   obtain ⟨Om,hM,_,hS⟩:=(HI.out.next hb).mail
   exact (pdbl_any Om T.M m 0 n w1 hM (by have:=HN.out;omega)).mono (fun e w' q=>⟨q.1,(hS w' _ q.2).behind hb⟩)
  clear hz
  generalize dblR T.M n=r at *
  obtain ⟨ok,l'⟩:=r
  cases ok with
  | true=>
    go_enter Tryz.func137,Tryz.ntmps137
    go_wp2_with fail
    refine Calls.mono HL.out ?_
    rintro e w1 ⟨rfl,hb⟩
    have hp1:w1.cell? ⟨p,10,none⟩=some (.pointer (some ⟨m,0,none⟩)):=(HI.out.next hb).c10
    have HB:=hid hb
    clear hb hp
    go_wp2_with fail
    refine Calls.mono (HX.out _ HB.out) ?_
    rintro e w2 ⟨rfl,hT⟩
    go_wp2_with fail
    go_ret
    exact ⟨rfl,hT⟩
  | false=>
    go_enter Tryz.func137,Tryz.ntmps137
    go_wp2_with fail
    refine Calls.mono HL.out ?_
    rintro e w1 ⟨rfl,hb⟩
    have hp1:w1.cell? ⟨p,10,none⟩=some (.pointer (some ⟨m,0,none⟩)):=(HI.out.next hb).c10
    have HB:=hid hb
    clear hb hp
    go_wp2_with fail
    refine Calls.mono (HX.out _ HB.out) ?_
    rintro e w2 ⟨rfl,hT⟩
    go_wp2_with fail
    go_ret
    exact ⟨rfl,hT⟩
theorem updP_id (P:Nat->Kb) (s:Nat):updP P s (P s)=P:=by
 funext j
 unfold updP
 split
 ·rename_i e;rw [e]
 ·rfl
theorem tforget_any {O:Nat->Prop} {p b m:Nat} {c:Nat->Nat} {ws:Nat->Int} {T:Twn} (n:Int) {w:World} (h:TnIn p b m c ws T O w) (hR:Rdy ws T):
 Calls Tryz.prog 139 #[.pointer (some ⟨p,0,none⟩),.int .i64 n] w fun e w'=>e=.returned (.int .i64 (if n<0 then 1 else if 3<=n then 1 else 0))∧To (TnIn p b m c ws T) O w w':=by
 have HC:=hid (tclerk_any n h)
 have HI:=hid (h)
 by_cases hn:0<=n∧n<3
 ·obtain ⟨s,rfl⟩:∃s:Nat,n=(s:Int):=⟨n.toNat,by omega⟩
  have hs:s<3:=by omega
  obtain ⟨Oc,hc,_,hS⟩:=h.clk hs
  obtain ⟨g1,_,_,_,_,g2⟩:=hR.shop s hs
  obtain ⟨q,hQ,hX⟩:=ccrash_any hc g1 (hR.ok s hs) (by omega)
  have HX:Hid (Calls Tryz.prog 162 #[.pointer (some ⟨q,0,none⟩)] w fun e w'=>e=.returned (.tuple #[])∧To (TnIn p b m c ws T) O w w'):=(hX w (Below.refl _ _)).mono (fun e w' z=>⟨z.1,by have:=hS w' _ z.2;rwa [updP_id] at this⟩)
  have c0:=hQ.c0
  have hE:(if (s:Int)<0 then (1:Int) else if 3<=(s:Int) then 1 else 0)=0:=by rw [if_neg (by omega),if_neg (by omega)]
  rw [clkP_at c hs] at HC
  rw [hE]
  clear h hR hc hS g1 g2 hX hQ hE hn hs
  go_enter Tryz.func139,Tryz.ntmps139
  go_wp2_with fail
  refine Calls.mono HC.out ?_
  rintro e w1 ⟨rfl,rfl⟩
  go_wp2_with fail
  refine Calls.mono HX.out ?_
  rintro e w2 ⟨rfl,hT⟩
  go_wp2_with fail
  go_ret
  exact ⟨rfl,hT⟩
 ·have hE:(if n<0 then (1:Int) else if 3<=n then 1 else 0)=1:=by
   by_cases a:n<0
   ·rw [if_pos a]
   ·rw [if_neg a,if_pos (by omega)]
  rw [clkP_none c hn] at HC
  rw [hE]
  clear h hR hE hn
  go_enter Tryz.func139,Tryz.ntmps139
  go_wp2_with fail
  refine Calls.mono HC.out ?_
  rintro e w1 ⟨rfl,rfl⟩
  go_wp2_with fail
  go_ret
  exact ⟨rfl,To.stay (tn_stands ..) HI.out (Below.refl _ _)⟩
theorem sendAll_snoc (x:Ml):∀(a l:List Ml),sendAll l (a++[x])=(sendR (sendAll l a) x).2
 | [],_=>rfl
 | _ :: r,_=>sendAll_snoc x r _
def MailTo (w':World) (p j bx m:Nat) (x:Ml):Prop:=w'.cell? ⟨p,j,none⟩=some (.pointer (some ⟨m,0,none⟩))∧w'.cell? ⟨bx,0,none⟩=some (.int .i64 x.kind)∧w'.cell? ⟨bx,1,none⟩=some (.int .i64 x.deal)∧w'.cell? ⟨bx,2,none⟩=some (.int .i64 x.shop)∧w'.cell? ⟨bx,3,none⟩=some (.int .i64 x.c)∧w'.cell? ⟨bx,4,none⟩=some (.int .i64 x.d)∧w'.cell? ⟨bx,5,none⟩=some (.bool x.yes)
theorem mail_to {w':World} {p j bx m:Nat} {x:Ml} (h1:w'.cell? ⟨p,j,none⟩=some (.pointer (some ⟨m,0,none⟩))) (h2:MBx w' bx x):MailTo w' p j bx m x:=⟨h1,h2.c0,h2.c1,h2.c2,h2.c3,h2.c4,h2.c5⟩
theorem send_tn {O:Nat->Prop} {p b m:Nat} {c:Nat->Nat} {ws:Nat->Int} {T:Twn} (x:Ml) {w:World} (h:TnIn p b m c ws T O w) (hl:T.M.length<=40):
 Calls Tryz.prog 141 #[.pointer (some ⟨m,0,none⟩),.agg #[.int .i64 x.kind,.int .i64 x.deal,.int .i64 x.shop,.int .i64 x.c,.int .i64 x.d,.bool x.yes]] w fun e w'=>e=.returned (.bool (sendR T.M x).1)∧To (TnIn p b m c ws { T with M:=(sendR T.M x).2 }) O w w':=by
 obtain ⟨Om,hM,_,hS⟩:=h.mail
 exact (psend_any Om T.M m 0 x w hM (by omega)).mono (fun e w' q=>⟨q.1,hS w' _ q.2⟩)
theorem tsend_any {O:Nat->Prop} {p b m:Nat} {c:Nat->Nat} {ws:Nat->Int} {T:Twn} (ga:Option Addr) (cap:Nat) (l:List Ml) {w:World} (h:TnIn p b m c ws T O w) (hM:T.M.length<=40) (hl:MailsAt w ga l) (hll:l.length<1000) (hO:∀a,ga=some a->¬O a.block∧a.block<w.heap.size):
 Calls Tryz.prog 107 #[.pointer (some ⟨p,0,none⟩),.slice ga l.length cap] w fun e w'=>e=.returned (.tuple #[])∧To (TnIn p b m c ws { T with M:=sendAll T.M l }) O w w':=by
 have HI:=hid (h)
 have HM:Hid (T.M.length<=40):=hM
 have HL:=hid (hl)
 have HO:=hid (hO)
 have HN:Hid (l.length<1000):=hll
 clear h hM hl hO hll
 go_enter Tryz.func107,Tryz.ntmps107
 go_wp2_with fail
 go_loopg [5,8] l.length (fun g _ s8 wr=>∃k:Nat,k<=l.length∧g=l.length - k∧s8=.int .i64 k∧Hid (To (TnIn p b m c ws { T with M:=sendAll T.M (l.take k) }) O w wr))
 case atStart=>exact ⟨0,Nat.zero_le _,rfl,rfl,To.stay (tn_stands ..) HI.out (Below.refl _ _)⟩
 case round=>
  obtain ⟨k,hk,rfl,rfl,HT⟩:=hrel
  by_cases hlt:k<l.length
  ·obtain ⟨x,hx⟩:∃x,l[k]?=some x:=⟨_,List.getElem?_eq_getElem hlt⟩
   obtain ⟨O1,h1,h2,h3⟩:=HT.out
   have HKn:Hid (k<l.length):=hlt
   obtain ⟨bg,og,rfl,hbg,hcell⟩:=HL.out k x hx
   have hno:=HO.out _ rfl
   have hc:∀j,wr.cell? ⟨bg,j,none⟩=w.cell? ⟨bg,j,none⟩:=fun j=>h2.cell (p:=⟨bg,j,none⟩) hno.2 hno.1
   have HE:Hid (sendAll T.M (l.take (k+1))=(sendR (sendAll T.M (l.take k)) x).2):=by
    show _=_
    rw [take_snoc hx,sendAll_snoc]
   have hlen:(sendAll T.M (l.take k)).length<=40:=all_len HM.out
   have q0:wr.cell? ⟨bg,og+k * 6,none⟩=some (.int .i64 x.kind):=(hc _).trans (hcell 0 _ rfl)
   have q1:wr.cell? ⟨bg,og+k * 6+1,none⟩=some (.int .i64 x.deal):=(hc _).trans (hcell 1 _ rfl)
   have q2:wr.cell? ⟨bg,og+k * 6+2,none⟩=some (.int .i64 x.shop):=(hc _).trans (hcell 2 _ rfl)
   have q3:wr.cell? ⟨bg,og+k * 6+3,none⟩=some (.int .i64 x.c):=(hc _).trans (hcell 3 _ rfl)
   have q4:wr.cell? ⟨bg,og+k * 6+4,none⟩=some (.int .i64 x.d):=(hc _).trans (hcell 4 _ rfl)
   have q5:wr.cell? ⟨bg,og+k * 6+5,none⟩=some (.bool x.yes):=(hc _).trans (hcell 5 _ rfl)
   have j0:(0:Int)<=(k:Int):=by omega
   have j1:(k:Int)<(l.length:Int):=by omega
   have j2:(l.length:Int)<1000:=by have:=HN.out;omega
   have HI1:Hid (TnIn p b m c ws { T with M:=sendAll T.M (l.take k) } O1 wr):=h1
   have HS2:Hid (Save O w wr∧Moved O O1 w):=⟨h2,h3⟩
   clear h1 h2 h3 hc hcell hno hx hk hlt
   generalize sendAll T.M (l.take k)=M1 at *
   go_upto_region 3 with fail
   have hbn:Below wr.heap.size wr (wr.alloc (.cells #[.int .i64 x.kind,.int .i64 x.deal,.int .i64 x.shop,.int .i64 x.c,.int .i64 x.d,.bool x.yes] 142)):=(Below.refl _ _).alloc (Nat.le_refl _) _
   have hX:=MBx.new wr x
   have HI2:Hid (TnIn p b m c ws { T with M:=M1 } O1 (wr.alloc (.cells #[.int .i64 x.kind,.int .i64 x.deal,.int .i64 x.shop,.int .i64 x.c,.int .i64 x.d,.bool x.yes] 142))):=HI1.out.next hbn
   have HNo:Hid (¬O1 wr.heap.size):=fun q=>by have:=HI1.out.own _ q;omega
   have HB:Hid (Below wr.heap.size wr (wr.alloc (.cells #[.int .i64 x.kind,.int .i64 x.deal,.int .i64 x.shop,.int .i64 x.c,.int .i64 x.d,.bool x.yes] 142))):=hbn
   generalize (wr.alloc (.cells #[.int .i64 x.kind,.int .i64 x.deal,.int .i64 x.shop,.int .i64 x.c,.int .i64 x.d,.bool x.yes] 142))=w1 at hbn hX HI2 HB ⊢
   generalize wr.heap.size=bx at hX HNo ⊢
   clear hbn q0 q1 q2 q3 q4 q5
   have HS:=hid (fun W (hW:Below w1.heap.size w1 W)=>send_tn x (HI2.out.next hW) (by exact hlen))
   have HK:Hid (∀w',Below w1.heap.size w1 w'->MailTo w' p 10 bx m x):=fun w' hb=>mail_to (HI2.out.next hb).c10 (hX.next hb)
   have HX:Hid (MBx w1 bx x):=hX
   clear hX
   go_region_held3 (fun w'=>w'.cell? ⟨p,10,none⟩=some (.pointer (some ⟨m,0,none⟩))∧w'.cell? ⟨bx,0,none⟩=some (.int .i64 x.kind)∧w'.cell? ⟨bx,1,none⟩=some (.int .i64 x.deal)∧w'.cell? ⟨bx,2,none⟩=some (.int .i64 x.shop)∧w'.cell? ⟨bx,3,none⟩=some (.int .i64 x.c)∧w'.cell? ⟨bx,4,none⟩=some (.int .i64 x.d)∧w'.cell? ⟨bx,5,none⟩=some (.bool x.yes))
    (first | exact HK9 | exact HK.out _ (by go_grown))
    (first | (go_at_call 141;refine Calls.mono (HS.out _ (by go_grown)) ?_;rintro e w9 ⟨rfl,hT9⟩;have HT9:Hid (To (TnIn p b m c ws { T with M:=(sendR M1 x).2 }) O1 w1 w9):=hT9.behind (by go_grown);clear hT9;have HK9:MailTo w9 p 10 bx m x:=mail_to HT9.out.choose_spec.1.c10 (HX.out.save HT9.out.save HNo.out)))
   all_goals
    go_wp2_with fail
    go_roundg (l.length - (k+1))
    case measure=>have:=HKn.out;omega
    case rel=>exact ⟨k+1,HKn.out,rfl,by simp,by rw [HE.out];exact To.comp HS2.out.1 HS2.out.2 (HT9.out.behind HB.out)⟩
  ·have j1:¬(k:Int)<(l.length:Int):=by omega
   have HE:Hid (l.take k=l):=List.take_of_length_le (by omega)
   clear hlt
   go_wp2_with fail
   exact bodyPost_end (v:=.tuple #[]) (by simp [results,Tryz.results107,go_sem]) rfl ⟨rfl,by have q:=HT.out;rw [HE.out] at q;exact q⟩
def ansT (T:Twn) (x:Ml):Twn:=if 0<=x.shop∧x.shop<3 then { T with P:=updP T.P x.shop.toNat (ansR x.shop (T.P x.shop.toNat) x).2.2,M:=if (ansR x.shop (T.P x.shop.toNat) x).2.1=true then (sendR T.M (ansR x.shop (T.P x.shop.toNat) x).1).2 else T.M } else T
theorem come_hear {T:Twn} {x:Ml} (h:x.kind=2∨x.kind=4):comeR T x={ T with B:=hearR T.B x }:=by unfold comeR;rw [if_pos h]
theorem come_ans {T:Twn} {x:Ml} (h:¬(x.kind=2∨x.kind=4)):comeR T x=ansT T x:=by unfold comeR ansT;rw [if_neg h]
theorem ansT_at {T:Twn} {x:Ml} {s:Nat} (h:x.shop=(s:Int)) (hs:s<3):ansT T x={ T with P:=updP T.P s (ansR (s:Int) (T.P s) x).2.2,M:=if (ansR (s:Int) (T.P s) x).2.1=true then (sendR T.M (ansR (s:Int) (T.P s) x).1).2 else T.M }:=by
 unfold ansT
 rw [h,if_pos ⟨by omega,by omega⟩]
 simp only [Int.toNat_natCast]
theorem tanswer_any {O:Nat->Prop} {p b m:Nat} {c:Nat->Nat} {ws:Nat->Int} {T:Twn} (x:Ml) {w:World} (h:TnIn p b m c ws T O w) (hR:Rdy ws T):
 Calls Tryz.prog 159 #[.pointer (some ⟨p,0,none⟩),.agg #[.int .i64 x.kind,.int .i64 x.deal,.int .i64 x.shop,.int .i64 x.c,.int .i64 x.d,.bool x.yes]] w fun e w'=>e=.returned (.tuple #[])∧To (TnIn p b m c ws (ansT T x)) O w w':=by
 have hb1:Below w.heap.size w (w.alloc (.cells #[.int .i64 x.kind,.int .i64 x.deal,.int .i64 x.shop,.int .i64 x.c,.int .i64 x.d,.bool x.yes] 142)):=(Below.refl _ _).alloc (Nat.le_refl _) _
 have hX:=MBx.new w x
 have HI:Hid (TnIn p b m c ws T O (w.alloc (.cells #[.int .i64 x.kind,.int .i64 x.deal,.int .i64 x.shop,.int .i64 x.c,.int .i64 x.d,.bool x.yes] 142))):=h.next hb1
 by_cases hn:0<=x.shop∧x.shop<3
 ·obtain ⟨s,hsx⟩:∃s:Nat,x.shop=(s:Int):=⟨x.shop.toNat,by omega⟩
  have hs:s<3:=by omega
  rw [ansT_at hsx hs]
  have hcp:clkP c x.shop=some ⟨c s,0,none⟩:=by rw [hsx,clkP_at c hs]
  have HCP:=hid hcp
  clear hsx hcp
  have HA:Hid (∀w1,Below w.heap.size w w1->Calls Tryz.prog 171 #[.pointer (some ⟨c s,0,none⟩),.agg #[.int .i64 x.kind,.int .i64 x.deal,.int .i64 x.shop,.int .i64 x.c,.int .i64 x.d,.bool x.yes]] w1 fun e w'=>e=.returned (ansV (ansR (s:Int) (T.P s) x))∧To (TnIn p b m c ws { T with P:=updP T.P s (ansR (s:Int) (T.P s) x).2.2 }) O w w'):=fun w1 hw=>by
   obtain ⟨Oc,hc,_,hS⟩:=(h.next hw).clk hs
   obtain ⟨_,g1,_,g2,_,g3⟩:=hR.shop s hs
   exact (cans_any Oc s ws (T.P s) (c s) x w1 hc g1 (by omega) (by omega)).mono (fun e w' z=>⟨z.1,(hS w' _ z.2).behind hw⟩)
  have HM:Hid (T.M.length<=40):=hR.ml
  clear h hR hn hs
  generalize ansR (s:Int) (T.P s) x=r at HA ⊢
  obtain ⟨y,ok,K'⟩:=r
  cases ok with
  | false=>
    go_enter Tryz.func159,Tryz.ntmps159
    go_upto_region 1 with fail
    generalize (w.alloc (.cells #[.int .i64 x.kind,.int .i64 x.deal,.int .i64 x.shop,.int .i64 x.c,.int .i64 x.d,.bool x.yes] 142))=w1 at hX hb1 HI ⊢
    generalize w.heap.size=bx at hX ⊢
    have HC:=hid (tclerk_any x.shop HI.out)
    rw [HCP.out] at HC
    have HA1:=hid (HA.out w1 hb1)
    have x0:=hX.c0
    have x1:=hX.c1
    have x2:=hX.c2
    have x3:=hX.c3
    have x4:=hX.c4
    have x5:=hX.c5
    clear hb1 hX HCP HA
    go_wp2_with fail
    refine Calls.mono HC.out ?_
    rintro e w2 ⟨rfl,rfl⟩
    go_wp2_with fail
    refine Calls.mono HA1.out ?_
    clear x0 x1 x2 x3 x4 x5 HA1 HC
    rintro e w3 ⟨rfl,hT⟩
    obtain ⟨O2,h2,hS2,hM2⟩:=hT
    have HT:Hid (To (TnIn p b m c ws { T with P:=updP T.P s K' }) O w w3):=⟨O2,h2,hS2,hM2⟩
    have HI2:=hid h2
    have HS2:Hid (Save O w w3∧Moved O O2 w):=⟨hS2,hM2⟩
    clear h2 hS2 hM2
    simp only [ansV,mlV]
    go_wp2_with fail
    exact bodyPost_end (v:=.tuple #[]) (by simp [results,Tryz.results159,go_sem]) rfl ⟨rfl,HT.out.next (tn_stands ..) (by go_grown)⟩
  | true=>
    go_enter Tryz.func159,Tryz.ntmps159
    go_upto_region 1 with fail
    generalize (w.alloc (.cells #[.int .i64 x.kind,.int .i64 x.deal,.int .i64 x.shop,.int .i64 x.c,.int .i64 x.d,.bool x.yes] 142))=w1 at hX hb1 HI ⊢
    generalize w.heap.size=bx at hX ⊢
    have HC:=hid (tclerk_any x.shop HI.out)
    rw [HCP.out] at HC
    have HA1:=hid (HA.out w1 hb1)
    have x0:=hX.c0
    have x1:=hX.c1
    have x2:=hX.c2
    have x3:=hX.c3
    have x4:=hX.c4
    have x5:=hX.c5
    clear hb1 hX HCP HA
    go_wp2_with fail
    refine Calls.mono HC.out ?_
    rintro e w2 ⟨rfl,rfl⟩
    go_wp2_with fail
    refine Calls.mono HA1.out ?_
    clear x0 x1 x2 x3 x4 x5 HA1 HC
    rintro e w3 ⟨rfl,hT⟩
    obtain ⟨O2,h2,hS2,hM2⟩:=hT
    have HT:Hid (To (TnIn p b m c ws { T with P:=updP T.P s K' }) O w w3):=⟨O2,h2,hS2,hM2⟩
    have HI2:=hid h2
    have HS2:Hid (Save O w w3∧Moved O O2 w):=⟨hS2,hM2⟩
    clear h2 hS2 hM2
    simp only [ansV,mlV]
    go_upto_region 5 with fail
    have hb3:Below w3.heap.size w3 (w3.alloc (.cells #[.int .i64 y.kind,.int .i64 y.deal,.int .i64 y.shop,.int .i64 y.c,.int .i64 y.d,.bool y.yes] 142)):=(Below.refl _ _).alloc (Nat.le_refl _) _
    have hY:=MBx.new w3 y
    have HI3:Hid (TnIn p b m c ws { T with P:=updP T.P s K' } O2 (w3.alloc (.cells #[.int .i64 y.kind,.int .i64 y.deal,.int .i64 y.shop,.int .i64 y.c,.int .i64 y.d,.bool y.yes] 142))):=HI2.out.next hb3
    have HNo:Hid (¬O2 w3.heap.size):=fun q=>by have:=HI2.out.own _ q;omega
    have HB3:Hid (Below w3.heap.size w3 (w3.alloc (.cells #[.int .i64 y.kind,.int .i64 y.deal,.int .i64 y.shop,.int .i64 y.c,.int .i64 y.d,.bool y.yes] 142))):=hb3
    generalize (w3.alloc (.cells #[.int .i64 y.kind,.int .i64 y.deal,.int .i64 y.shop,.int .i64 y.c,.int .i64 y.d,.bool y.yes] 142))=w4 at hb3 hY HI3 HB3 ⊢
    generalize w3.heap.size=by4 at hY HNo ⊢
    clear hb3
    have HS:Hid (∀W,Below w4.heap.size w4 W->Calls Tryz.prog 141 #[.pointer (some ⟨m,0,none⟩),.agg #[.int .i64 y.kind,.int .i64 y.deal,.int .i64 y.shop,.int .i64 y.c,.int .i64 y.d,.bool y.yes]] W fun e w'=>e=.returned (.bool (sendR T.M y).1)∧To (TnIn p b m c ws { T with P:=updP T.P s K',M:=(sendR T.M y).2 }) O2 W w'):=fun W hW=>send_tn y (HI3.out.next hW) HM.out
    have HK:Hid (∀w',Below w4.heap.size w4 w'->MailTo w' p 10 by4 m y):=fun w' hb=>mail_to (HI3.out.next hb).c10 (hY.next hb)
    have HX:Hid (MBx w4 by4 y):=hY
    clear hY
    go_region_held3 (fun w'=>w'.cell? ⟨p,10,none⟩=some (.pointer (some ⟨m,0,none⟩))∧w'.cell? ⟨by4,0,none⟩=some (.int .i64 y.kind)∧w'.cell? ⟨by4,1,none⟩=some (.int .i64 y.deal)∧w'.cell? ⟨by4,2,none⟩=some (.int .i64 y.shop)∧w'.cell? ⟨by4,3,none⟩=some (.int .i64 y.c)∧w'.cell? ⟨by4,4,none⟩=some (.int .i64 y.d)∧w'.cell? ⟨by4,5,none⟩=some (.bool y.yes))
     (first | exact HK9 | exact HK.out _ (by go_grown))
     (first | (go_at_call 141;refine Calls.mono (HS.out _ (by go_grown)) ?_;rintro e w9 ⟨rfl,hT9⟩;have HT9:Hid (To (TnIn p b m c ws { T with P:=updP T.P s K',M:=(sendR T.M y).2 }) O2 w4 w9):=hT9.behind (by go_grown);clear hT9;have HK9:MailTo w9 p 10 by4 m y:=mail_to HT9.out.choose_spec.1.c10 (HX.out.save HT9.out.save HNo.out)))
    all_goals
     go_wp2_with fail
     exact bodyPost_end (v:=.tuple #[]) (by simp [results,Tryz.results159,go_sem]) rfl ⟨rfl,To.comp HS2.out.1 HS2.out.2 (HT9.out.behind HB3.out)⟩
 ·have hE:ansT T x=T:=by unfold ansT;rw [if_neg hn]
  rw [hE]
  have HC:=hid (tclerk_any x.shop HI.out)
  rw [clkP_none c hn] at HC
  have HB:=hid hb1
  have x2:=hX.c2
  clear h hR hE hn hX hb1
  go_enter Tryz.func159,Tryz.ntmps159
  go_wp2_with fail
  refine Calls.mono HC.out ?_
  rintro e w1 ⟨rfl,rfl⟩
  go_wp2_with fail
  exact bodyPost_ret (v:=.tuple #[]) (by simp [results,Tryz.results159,go_sem]) rfl ⟨rfl,(To.stay (tn_stands ..) HI.out (Below.refl _ _)).behind HB.out⟩
theorem take_len (l:List Ml) (n:Int) (h:l.length<=40):(takeR l n).2.2.length<=40:=by
 by_cases hne:l=[]
 ·subst hne;rw [takeR_nil];simp
 ·obtain ⟨m,hm⟩:=rnd_some n hne
  rw [takeR_some hm]
  exact Nat.le_trans (List.length_eraseIdx_le _ _) h
theorem Rdy.less {ws:Nat->Int} {T:Twn} {M:List Ml} (h:Rdy ws T) (hl:M.length<=40):Rdy ws { T with M:=M }:=⟨h.shop,h.brk,hl,h.ok⟩
theorem hear_tn {O:Nat->Prop} {p b m:Nat} {c:Nat->Nat} {ws:Nat->Int} {T:Twn} (x:Ml) {w:World} (h:TnIn p b m c ws T O w) (hI:BInv T.B):
 Calls Tryz.prog 158 #[.pointer (some ⟨b,0,none⟩),.agg #[.int .i64 x.kind,.int .i64 x.deal,.int .i64 x.shop,.int .i64 x.c,.int .i64 x.d,.bool x.yes]] w fun e w'=>e=.returned (.tuple #[])∧To (TnIn p b m c ws { T with B:=hearR T.B x }) O w w':=by
 obtain ⟨Ob,hB,_,hS⟩:=h.brk
 exact (rhear_any Ob T.B b x w hB hI).mono (fun e w' q=>⟨q.1,hS w' _ q.2⟩)
theorem deliv_no {T:Twn} {n:Int} (h:(takeR T.M n).2.1=false):delivR T n=(7,T):=by unfold delivR;rw [if_neg (by rw [h];simp)]
theorem deliv_yes {T:Twn} {n:Int} (h:(takeR T.M n).2.1=true):delivR T n=(0,comeR { T with M:=(takeR T.M n).2.2 } (takeR T.M n).1):=by unfold delivR;rw [if_pos h]
theorem take_no {l:List Ml} {n:Int} (h:(takeR l n).2.1=false):(takeR l n).2.2=l:=by
 by_cases hne:l=[]
 ·subst hne;rw [takeR_nil]
 ·obtain ⟨m,hm⟩:=rnd_some n hne
  rw [takeR_some hm] at h
  cases h
theorem tdeliver_any {O:Nat->Prop} {p b m:Nat} {c:Nat->Nat} {ws:Nat->Int} {T:Twn} (n:Int) {w:World} (h:TnIn p b m c ws T O w) (hR:Rdy ws T):
 Calls Tryz.prog 135 #[.pointer (some ⟨p,0,none⟩),.int .i64 n] w fun e w'=>e=.returned (.int .i64 (delivR T n).1)∧To (TnIn p b m c ws (delivR T n).2) O w w':=by
 have hp:=h.c10
 have HC:Hid (Calls Tryz.prog 157 #[.pointer (some ⟨m,0,none⟩),.int .i64 n] w fun e w'=>e=.returned (.tuple #[mlV (takeR T.M n).1,.bool (takeR T.M n).2.1])∧To (TnIn p b m c ws { T with M:=(takeR T.M n).2.2 }) O w w'):=by
  obtain ⟨Om,hM,_,hS⟩:=h.mail
  exact (ptake_any Om T.M m 0 n w hM (by have:=hR.ml;omega)).mono (fun e w' q=>⟨q.1,hS w' _ q.2⟩)
 cases hok:(takeR T.M n).2.1 with
 | false=>
   rw [deliv_no hok]
   rw [hok,take_no hok] at HC
   generalize (takeR T.M n).1=x at HC
   clear h hR hok
   go_enter Tryz.func135,Tryz.ntmps135
   go_wp2_with fail
   refine Calls.mono HC.out ?_
   rintro e w1 ⟨rfl,hT⟩
   have HT:=hid hT
   clear hT
   simp only [mlV]
   go_wp2_with fail
   go_ret
   exact ⟨rfl,HT.out.next (tn_stands ..) (by go_grown)⟩
 | true=>
   rw [deliv_yes hok]
   rw [hok] at HC
   have HR:Hid (Rdy ws { T with M:=(takeR T.M n).2.2 }):=hR.less (take_len _ _ hR.ml)
   generalize (takeR T.M n).1=x at HC ⊢
   generalize (takeR T.M n).2.2=M1 at HC HR ⊢
   generalize hT1:({ T with M:=M1 }:Twn)=T1 at HC HR ⊢
   clear h hR hok hT1
   go_enter Tryz.func135,Tryz.ntmps135
   go_wp2_with fail
   refine Calls.mono HC.out ?_
   rintro e w1 ⟨rfl,hT⟩
   obtain ⟨O2,h2,hS2,hM2⟩:=hT
   have HI2:=hid h2
   have HS2:Hid (Save O w w1∧Moved O O2 w):=⟨hS2,hM2⟩
   clear h2 hS2 hM2 HC hp
   simp only [mlV]
   go_upto_region 4 with fail
   have hb3:Below w1.heap.size w1 (w1.alloc (.cells #[.int .i64 x.kind,.int .i64 x.deal,.int .i64 x.shop,.int .i64 x.c,.int .i64 x.d,.bool x.yes] 142)):=(Below.refl _ _).alloc (Nat.le_refl _) _
   have hX:=MBx.new w1 x
   have HI3:Hid (TnIn p b m c ws T1 O2 (w1.alloc (.cells #[.int .i64 x.kind,.int .i64 x.deal,.int .i64 x.shop,.int .i64 x.c,.int .i64 x.d,.bool x.yes] 142))):=HI2.out.next hb3
   have HNo:Hid (¬O2 w1.heap.size):=fun q=>by have:=HI2.out.own _ q;omega
   have HB3:Hid (Below w1.heap.size w1 (w1.alloc (.cells #[.int .i64 x.kind,.int .i64 x.deal,.int .i64 x.shop,.int .i64 x.c,.int .i64 x.d,.bool x.yes] 142))):=hb3
   generalize (w1.alloc (.cells #[.int .i64 x.kind,.int .i64 x.deal,.int .i64 x.shop,.int .i64 x.c,.int .i64 x.d,.bool x.yes] 142))=w3 at hb3 hX HI3 HB3 ⊢
   generalize w1.heap.size=bx at hX HNo ⊢
   clear hb3
   have x0:=hX.c0
   by_cases hk:x.kind=2∨x.kind=4
   ·have HE:=hid (come_hear (T:=T1) hk)
    have HS:Hid (∀W,Below w3.heap.size w3 W->Calls Tryz.prog 158 #[.pointer (some ⟨b,0,none⟩),.agg #[.int .i64 x.kind,.int .i64 x.deal,.int .i64 x.shop,.int .i64 x.c,.int .i64 x.d,.bool x.yes]] W fun e w'=>e=.returned (.tuple #[])∧To (TnIn p b m c ws { T1 with B:=hearR T1.B x }) O2 W w'):=fun W hW=>hear_tn x (HI3.out.next hW) HR.out.brk
    have HK:Hid (∀w',Below w3.heap.size w3 w'->MailTo w' p 0 bx b x):=fun w' hb=>mail_to (HI3.out.next hb).c0 (hX.next hb)
    have HX:Hid (MBx w3 bx x):=hX
    by_cases hk2:x.kind=2
    ·have hk2':(x.kind == 2)=true:=by simp [hk2]
     clear hX hk hk2
     go_upto_region 5 with fail
     clear x0
     go_region_held3 (fun w'=>w'.cell? ⟨p,0,none⟩=some (.pointer (some ⟨b,0,none⟩))∧w'.cell? ⟨bx,0,none⟩=some (.int .i64 x.kind)∧w'.cell? ⟨bx,1,none⟩=some (.int .i64 x.deal)∧w'.cell? ⟨bx,2,none⟩=some (.int .i64 x.shop)∧w'.cell? ⟨bx,3,none⟩=some (.int .i64 x.c)∧w'.cell? ⟨bx,4,none⟩=some (.int .i64 x.d)∧w'.cell? ⟨bx,5,none⟩=some (.bool x.yes))
      (first | exact HK9 | exact HK.out _ (by go_grown))
      (first | (go_at_call 158;refine Calls.mono (HS.out _ (by go_grown)) ?_;rintro e w9 ⟨rfl,hT9⟩;have HT9:Hid (To (TnIn p b m c ws { T1 with B:=hearR T1.B x }) O2 w3 w9):=hT9.behind (by go_grown);clear hT9;have HK9:MailTo w9 p 0 bx b x:=mail_to HT9.out.choose_spec.1.c0 (HX.out.save HT9.out.save HNo.out)))
     all_goals
      go_wp2_with fail
      go_ret
      exact ⟨rfl,by rw [HE.out];exact To.comp HS2.out.1 HS2.out.2 (HT9.out.behind HB3.out)⟩
    ·have hk2':(x.kind == 2)=false:=by simpa using hk2
     have hk4':(x.kind == 4)=true:=by rcases hk with q | q;exact absurd q hk2;simp [q]
     clear hX hk hk2
     go_upto_region 5 with fail
     clear x0
     go_region_held3 (fun w'=>w'.cell? ⟨p,0,none⟩=some (.pointer (some ⟨b,0,none⟩))∧w'.cell? ⟨bx,0,none⟩=some (.int .i64 x.kind)∧w'.cell? ⟨bx,1,none⟩=some (.int .i64 x.deal)∧w'.cell? ⟨bx,2,none⟩=some (.int .i64 x.shop)∧w'.cell? ⟨bx,3,none⟩=some (.int .i64 x.c)∧w'.cell? ⟨bx,4,none⟩=some (.int .i64 x.d)∧w'.cell? ⟨bx,5,none⟩=some (.bool x.yes))
      (first | exact HK9 | exact HK.out _ (by go_grown))
      (first | (go_at_call 158;refine Calls.mono (HS.out _ (by go_grown)) ?_;rintro e w9 ⟨rfl,hT9⟩;have HT9:Hid (To (TnIn p b m c ws { T1 with B:=hearR T1.B x }) O2 w3 w9):=hT9.behind (by go_grown);clear hT9;have HK9:MailTo w9 p 0 bx b x:=mail_to HT9.out.choose_spec.1.c0 (HX.out.save HT9.out.save HNo.out)))
     all_goals
      go_wp2_with fail
      go_ret
      exact ⟨rfl,by rw [HE.out];exact To.comp HS2.out.1 HS2.out.2 (HT9.out.behind HB3.out)⟩
   ·have HE:=hid (come_ans (T:=T1) hk)
    have hk2':(x.kind == 2)=false:=by simpa using fun q=>hk (.inl q)
    have hk4':(x.kind == 4)=false:=by simpa using fun q=>hk (.inr q)
    have HA:=hid (tanswer_any x HI3.out HR.out)
    have x1:=hX.c1
    have x2:=hX.c2
    have x3:=hX.c3
    have x4:=hX.c4
    have x5:=hX.c5
    clear hX hk
    go_wp2_with fail
    refine Calls.mono HA.out ?_
    rintro e w4 ⟨rfl,hT9⟩
    have HT9:=hid hT9
    clear hT9
    go_wp2_with fail
    go_ret
    exact ⟨rfl,by rw [HE.out];exact To.comp HS2.out.1 HS2.out.2 (HT9.out.behind HB3.out)⟩
theorem townR_begin (T:Twn) {x:TSp} (h:x.kind=1):townR T x=((beginR T.B x.w).2.1,{ T with B:=(beginR T.B x.w).2.2 }):=by unfold townR;rw [if_pos h]
theorem townR_tick (T:Twn) {x:TSp} (h:x.kind=2):townR T x=(0,tickR T):=by unfold townR;rw [if_neg (by omega),if_pos h]
theorem townR_deliver (T:Twn) {x:TSp} (h:x.kind=3):townR T x=delivR T x.n:=by unfold townR;rw [if_neg (by omega),if_neg (by omega),if_pos h]
theorem townR_lose (T:Twn) {x:TSp} (h:x.kind=4):townR T x=(if (takeR T.M x.n).2.1=true then 0 else 7,{ T with M:=(takeR T.M x.n).2.2 }):=by unfold townR;rw [if_neg (by omega),if_neg (by omega),if_neg (by omega),if_pos h]
theorem townR_double (T:Twn) {x:TSp} (h:x.kind=5):townR T x=(if T.M.length=0 then 7 else if (dblR T.M x.n).1=true then 0 else 6,{ T with M:=(dblR T.M x.n).2 }):=by unfold townR;rw [if_neg (by omega),if_neg (by omega),if_neg (by omega),if_neg (by omega),if_pos h]
theorem townR_quits (T:Twn) {x:TSp} (h:x.kind=6):townR T x=((quitR T.B x.n).1,{ T with B:=(quitR T.B x.n).2 }):=by unfold townR;rw [if_neg (by omega),if_neg (by omega),if_neg (by omega),if_neg (by omega),if_neg (by omega),if_pos h]
theorem townR_shop (T:Twn) {x:TSp} (h:x.kind=7):townR T x=(if x.n<0 then 1 else if 3<=x.n then 1 else 0,T):=by unfold townR;rw [if_neg (by omega),if_neg (by omega),if_neg (by omega),if_neg (by omega),if_neg (by omega),if_neg (by omega),if_pos h]
theorem townR_broker (T:Twn) {x:TSp} (h:x.kind=8):townR T x=(0,{ T with B:=crashR T.B }):=by unfold townR;rw [if_neg (by omega),if_neg (by omega),if_neg (by omega),if_neg (by omega),if_neg (by omega),if_neg (by omega),if_neg (by omega),if_pos h]
theorem townR_none (T:Twn) {x:TSp} (h1:x.kind ≠ 1) (h2:x.kind ≠ 2) (h3:x.kind ≠ 3) (h4:x.kind ≠ 4) (h5:x.kind ≠ 5) (h6:x.kind ≠ 6) (h7:x.kind ≠ 7) (h8:x.kind ≠ 8):townR T x=(10,T):=by unfold townR;rw [if_neg h1,if_neg h2,if_neg h3,if_neg h4,if_neg h5,if_neg h6,if_neg h7,if_neg h8]
theorem tstep_any {O:Nat->Prop} {p b m:Nat} {c:Nat->Nat} {ws:Nat->Int} {T:Twn} (x:TSp) {sa:Option Addr} {sc:Nat} {w:World} (h:TnIn p b m c ws T O w) (hR:Rdy ws T) (hx:WantsAt w sa x.w):
 Calls Tryz.prog 104 #[.pointer (some ⟨p,0,none⟩),.agg #[.int .i64 x.kind,.int .i64 x.n,.slice sa x.w.length sc]] w fun e w'=>e=.returned (.int .i64 (townR T x).1)∧To (TnIn p b m c ws (townR T x).2) O w w':=by
 have HR:=hid (hR)
 go_enter Tryz.func104,Tryz.ntmps104
 go_upto_region 1 with fail
 have hb1:Below w.heap.size w (w.alloc (.cells #[.int .i64 x.kind,.int .i64 x.n,.slice sa x.w.length sc] 95)):=(Below.refl _ _).alloc (Nat.le_refl _) _
 have hY:BoxAt (w.alloc (.cells #[.int .i64 x.kind,.int .i64 x.n,.slice sa x.w.length sc] 95)) w.heap.size [.int .i64 x.kind,.int .i64 x.n,.slice sa x.w.length sc]:=BoxAt.new w [.int .i64 x.kind,.int .i64 x.n,.slice sa x.w.length sc] 95
 have HI:Hid (TnIn p b m c ws T O (w.alloc (.cells #[.int .i64 x.kind,.int .i64 x.n,.slice sa x.w.length sc] 95))):=h.next hb1
 have HX:Hid (WantsAt (w.alloc (.cells #[.int .i64 x.kind,.int .i64 x.n,.slice sa x.w.length sc] 95)) sa x.w):=hx.below hb1 (Nat.le_refl _)
 have HB:Hid (Below w.heap.size w (w.alloc (.cells #[.int .i64 x.kind,.int .i64 x.n,.slice sa x.w.length sc] 95))):=hb1
 have HNo:Hid (¬O w.heap.size):=fun q=>by have:=h.own _ q;omega
 clear h hR hx hb1
 generalize (w.alloc (.cells #[.int .i64 x.kind,.int .i64 x.n,.slice sa x.w.length sc] 95))=w1 at hY HI HX HB ⊢
 generalize w.heap.size=bx at hY HNo ⊢
 have y0:=hY.2 0 _ rfl
 have y1:=hY.2 1 _ rfl
 have y2:=hY.2 2 _ rfl
 have hbx:=hY.1
 have HY:=hid (hY)
 clear hY
 have c0:w1.cell? ⟨p,0,none⟩=some (.pointer (some ⟨b,0,none⟩)):=HI.out.c0
 have hpl:p<w1.heap.size:=HI.out.lt
 by_cases h1:x.kind=1
 ·have h1':(x.kind == 1)=true:=by simp [h1]
  have HE:=hid (townR_begin T h1)
  obtain ⟨Ob,hB,_,hS⟩:=HI.out.brk
  have HC:Hid (∀W,Below w1.heap.size w1 W->Calls Tryz.prog 134 #[.pointer (some ⟨b,0,none⟩),.slice sa x.w.length sc] W fun e w'=>e=.returned (.tuple #[.int .i64 (beginR T.B x.w).1,.int .i64 (beginR T.B x.w).2.1])∧To (TnIn p b m c ws { T with B:=(beginR T.B x.w).2.2 }) O w1 w'):=fun W hW=>by
   obtain ⟨Ob,hB,_,hS⟩:=(HI.out.next hW).brk
   exact (rbegin_any Ob T.B b sa x.w.length sc x.w W hB HR.out.brk (HX.out.below hW (Nat.le_refl _)) rfl).mono (fun e w' z=>⟨z.1,(hS w' _ z.2).behind hW⟩)
  clear hB hS h1
  generalize beginR T.B x.w=r at HE HC
  have HK:Hid (∀w',Below w1.heap.size w1 w'->w'.cell? ⟨bx,2,none⟩=some (.slice sa x.w.length sc)∧w'.cell? ⟨p,0,none⟩=some (.pointer (some ⟨b,0,none⟩))):=fun w' hb=>⟨((bcell hb).1 _ _ hbx).trans y2,((bcell hb).1 _ _ hpl).trans c0⟩
  go_upto_region 3 with fail
  go_region_held3 (fun w'=>w'.cell? ⟨bx,2,none⟩=some (.slice sa x.w.length sc)∧w'.cell? ⟨p,0,none⟩=some (.pointer (some ⟨b,0,none⟩)))
   (first | exact HK9 | exact HK.out _ (by go_grown))
   (first | (go_at_call 134;refine Calls.mono (HC.out _ (by go_grown)) ?_;rintro e w9 ⟨rfl,hT9⟩;have HT9:Hid (To (TnIn p b m c ws { T with B:=r.2.2 }) O w1 w9):=hT9;have HK9:w9.cell? ⟨bx,2,none⟩=some (.slice sa x.w.length sc)∧w9.cell? ⟨p,0,none⟩=some (.pointer (some ⟨b,0,none⟩)):=⟨(HT9.out.save.cell (p:=⟨bx,2,none⟩) HY.out.1 HNo.out).trans (HY.out.2 2 _ rfl),HT9.out.choose_spec.1.c0⟩;clear hT9))
  all_goals
   go_wp2_with fail
   go_ret
   exact ⟨by rw [HE.out];rfl,by rw [HE.out];exact HT9.out.behind HB.out⟩
 have h1':(x.kind == 1)=false:=by simpa using h1
 by_cases h2:x.kind=2
 ·have h2':(x.kind == 2)=true:=by simp [h2]
  have HE:=hid (townR_tick T h2)
  obtain ⟨Ob,hB,hsub,_⟩:=HI.out.brk
  have HC:=hid (rdue_any Ob T.B b w1 hB HR.out.brk)
  have HRm:Hid ((dueR T.B).length<=32):=due_room HR.out.brk
  clear h1 h2 hB hsub
  go_wp2_with fail
  refine Calls.mono HC.out ?_
  rintro e w2 ⟨⟨v,rfl,hv⟩,hb2⟩
  have hsl:=hv
  obtain ⟨ga,cap,rfl,hM,hlen⟩:=mails_of_own hv
  have HT:Hid (Calls Tryz.prog 107 #[.pointer (some ⟨p,0,none⟩),.slice ga (dueR T.B).length cap] w2 fun e w'=>e=.returned (.tuple #[])∧To (TnIn p b m c ws (tickR T)) O w w'):=
   (tsend_any ga cap (dueR T.B) (HI.out.next hb2) HR.out.ml hM (by have:=HRm.out;omega) (fun a ha=>by
     subst ha
     obtain ⟨q1,q2⟩:=hsl.lt a.block rfl
     exact ⟨fun q=>by have:=HI.out.own _ q;omega,q2⟩)).mono (fun e w' z=>⟨z.1,(z.2.behind hb2).behind HB.out⟩)
  clear hsl hv hM hlen HC hb2
  go_wp2_with fail
  refine Calls.mono HT.out ?_
  rintro e w3 ⟨rfl,hT3⟩
  go_wp2_with fail
  go_ret
  exact ⟨by rw [HE.out];rfl,by rw [HE.out];exact hT3⟩
 have h2':(x.kind == 2)=false:=by simpa using h2
 by_cases h3:x.kind=3
 ·have h3':(x.kind == 3)=true:=by simp [h3]
  have HE:=hid (townR_deliver T h3)
  have HC:=hid (tdeliver_any x.n HI.out HR.out)
  clear h1 h2 h3
  go_wp2_with fail
  refine Calls.mono HC.out ?_
  rintro e w2 ⟨rfl,hT⟩
  go_wp2_with fail
  go_ret
  exact ⟨by rw [HE.out];rfl,by rw [HE.out];exact hT.behind HB.out⟩
 have h3':(x.kind == 3)=false:=by simpa using h3
 by_cases h4:x.kind=4
 ·have h4':(x.kind == 4)=true:=by simp [h4]
  have HE:=hid (townR_lose T h4)
  have HC:=hid (tlose_any x.n HI.out HR.out.ml)
  clear h1 h2 h3 h4
  generalize (if (takeR T.M x.n).2.1=true then (0:Int) else 7)=cd at HE HC
  go_wp2_with fail
  refine Calls.mono HC.out ?_
  rintro e w2 ⟨rfl,hT⟩
  go_wp2_with fail
  go_ret
  exact ⟨by rw [HE.out];rfl,by rw [HE.out];exact hT.behind HB.out⟩
 have h4':(x.kind == 4)=false:=by simpa using h4
 by_cases h5:x.kind=5
 ·have h5':(x.kind == 5)=true:=by simp [h5]
  have HE:=hid (townR_double T h5)
  have HC:=hid (tdouble_any x.n HI.out HR.out.ml)
  clear h1 h2 h3 h4 h5
  generalize (if T.M.length=0 then (7:Int) else if (dblR T.M x.n).1=true then 0 else 6)=cd at HE HC
  go_wp2_with fail
  refine Calls.mono HC.out ?_
  rintro e w2 ⟨rfl,hT⟩
  go_wp2_with fail
  go_ret
  exact ⟨by rw [HE.out];rfl,by rw [HE.out];exact hT.behind HB.out⟩
 have h5':(x.kind == 5)=false:=by simpa using h5
 by_cases h6:x.kind=6
 ·have h6':(x.kind == 6)=true:=by simp [h6]
  have HE:=hid (townR_quits T h6)
  have HC:Hid (∀W,Below w1.heap.size w1 W->Calls Tryz.prog 138 #[.pointer (some ⟨b,0,none⟩),.int .i64 x.n] W fun e w'=>e=.returned (.int .i64 (quitR T.B x.n).1)∧To (TnIn p b m c ws { T with B:=(quitR T.B x.n).2 }) O w1 w'):=fun W hW=>by
   obtain ⟨Ob,hB,_,hS⟩:=(HI.out.next hW).brk
   exact (rquit_any Ob T.B b x.n W hB HR.out.brk).mono (fun e w' z=>⟨z.1,(hS w' _ z.2).behind hW⟩)
  clear h1 h2 h3 h4 h5 h6
  generalize quitR T.B x.n=r at HE HC
  have HK:Hid (∀w',Below w1.heap.size w1 w'->w'.cell? ⟨bx,1,none⟩=some (.int .i64 x.n)∧w'.cell? ⟨p,0,none⟩=some (.pointer (some ⟨b,0,none⟩))):=fun w' hb=>⟨((bcell hb).1 _ _ hbx).trans y1,((bcell hb).1 _ _ hpl).trans c0⟩
  go_upto_region 15 with fail
  go_region_held3 (fun w'=>w'.cell? ⟨bx,1,none⟩=some (.int .i64 x.n)∧w'.cell? ⟨p,0,none⟩=some (.pointer (some ⟨b,0,none⟩)))
   (first | exact HK9 | exact HK.out _ (by go_grown))
   (first | (go_at_call 138;refine Calls.mono (HC.out _ (by go_grown)) ?_;rintro e w9 ⟨rfl,hT9⟩;have HT9:Hid (To (TnIn p b m c ws { T with B:=r.2 }) O w1 w9):=hT9;have HK9:w9.cell? ⟨bx,1,none⟩=some (.int .i64 x.n)∧w9.cell? ⟨p,0,none⟩=some (.pointer (some ⟨b,0,none⟩)):=⟨(HT9.out.save.cell (p:=⟨bx,1,none⟩) HY.out.1 HNo.out).trans (HY.out.2 1 _ rfl),HT9.out.choose_spec.1.c0⟩;clear hT9))
  all_goals
   go_wp2_with fail
   go_ret
   exact ⟨by rw [HE.out];rfl,by rw [HE.out];exact HT9.out.behind HB.out⟩
 have h6':(x.kind == 6)=false:=by simpa using h6
 by_cases h7:x.kind=7
 ·have h7':(x.kind == 7)=true:=by simp [h7]
  have HE:=hid (townR_shop T h7)
  have HC:=hid (tforget_any x.n HI.out HR.out)
  clear h1 h2 h3 h4 h5 h6 h7
  generalize (if x.n<0 then (1:Int) else if 3<=x.n then 1 else 0)=cd at HE HC
  go_wp2_with fail
  refine Calls.mono HC.out ?_
  rintro e w2 ⟨rfl,hT⟩
  go_wp2_with fail
  go_ret
  exact ⟨by rw [HE.out];rfl,by rw [HE.out];exact hT.behind HB.out⟩
 have h7':(x.kind == 7)=false:=by simpa using h7
 by_cases h8:x.kind=8
 ·have h8':(x.kind == 8)=true:=by simp [h8]
  have HE:=hid (townR_broker T h8)
  obtain ⟨Ob,hB,_,hS⟩:=HI.out.brk
  have HC:=hid (rcrash_any Ob T.B b w1 hB HR.out.brk)
  have HS:=hid (hS)
  clear h1 h2 h3 h4 h5 h6 h7 h8 hB hS
  go_wp2_with fail
  refine Calls.mono HC.out ?_
  rintro e w2 ⟨rfl,hT⟩
  go_wp2_with fail
  go_ret
  exact ⟨by rw [HE.out];rfl,by rw [HE.out];exact (HS.out w2 _ hT).behind HB.out⟩
 have h8':(x.kind == 8)=false:=by simpa using h8
 have HE:=hid (townR_none T h1 h2 h3 h4 h5 h6 h7 h8)
 clear h1 h2 h3 h4 h5 h6 h7 h8
 go_wp2_with fail
 go_ret
 exact ⟨by rw [HE.out];rfl,by rw [HE.out];exact (To.stay (tn_stands ..) HI.out (Below.refl _ _)).behind HB.out⟩
theorem deliv_empty {T:Twn} (h:T.M=[]) (n:Int):delivR T n=(7,T):=deliv_no (by rw [h,takeR_nil])
theorem tdrain_any {O:Nat->Prop} {p b m:Nat} {c:Nat->Nat} {ws:Nat->Int} {T:Twn} {w:World} (h:TnIn p b m c ws T O w) (hF:Full ws T) (ok:∀s:Nat,s<3->newOk (s:Int) ws=true):
 Calls Tryz.prog 106 #[.pointer (some ⟨p,0,none⟩)] w fun e w'=>e=.returned (.tuple #[])∧To (TnIn p b m c ws (drainR 80 T)) O w w':=by
 have HI:=hid h
 have HF:=hid hF
 have HO:=hid ok
 clear h hF ok
 go_enter Tryz.func106,Tryz.ntmps106
 go_wp2_with fail
 go_loopg [] 80 (fun g wr=>∃T':Twn,Hid (Drn ws T g T')∧Hid (To (TnIn p b m c ws T') O w wr))
 case atStart=>exact ⟨T,drn_start HF.out,To.stay (tn_stands ..) HI.out (Below.refl _ _)⟩
 case round=>
  obtain ⟨T',HD,HT⟩:=hrel
  obtain ⟨O1,h1,h2,h3⟩:=HT.out
  have HC:=hid (tdeliver_any 0 h1 (HD.out.full.rdy HO.out))
  have HS:Hid (Save O w wr∧Moved O O1 w):=⟨h2,h3⟩
  clear h1 h2 h3
  by_cases hM:T'.M=[]
  ·rw [deliv_empty hM] at HC
   have HE:=hid (HD.out.done hM)
   clear hM
   go_wp2_with fail
   refine Calls.mono HC.out ?_
   rintro e w1 ⟨rfl,hT1⟩
   have HT1:=hid hT1
   clear hT1
   go_wp2_with fail
   exact bodyPost_end (v:=.tuple #[]) (by simp [results,Tryz.results106,go_sem]) rfl ⟨rfl,by rw [HE.out];exact To.comp HS.out.1 HS.out.2 HT1.out⟩
  ·obtain ⟨hz,f,hf,hD⟩:=HD.out.step hM
   rw [hz] at HC
   have HD2:=hid hD
   clear hM hz hD
   subst hf
   go_wp2_with fail
   refine Calls.mono HC.out ?_
   rintro e w1 ⟨rfl,hT1⟩
   have HT1:=hid hT1
   clear hT1
   go_wp2_with fail
   go_roundg f
   case measure=>omega
   case rel=>exact ⟨_,HD2,To.comp HS.out.1 HS.out.2 HT1.out⟩
theorem tcalm_any {O:Nat->Prop} {p b m:Nat} {c:Nat->Nat} {ws:Nat->Int} {T:Twn} {w:World} (h:TnIn p b m c ws T O w) (hF:Full ws T) (ok:∀s:Nat,s<3->newOk (s:Int) ws=true):
 Calls Tryz.prog 75 #[.pointer (some ⟨p,0,none⟩)] w fun e w'=>e=.returned (.int .i64 ((calmR 20 0 T).1:Int))∧To (TnIn p b m c ws (calmR 20 0 T).2) O w w':=by
 have HI:=hid h
 have HF:=hid hF
 have HO:=hid ok
 clear h hF ok
 go_enter Tryz.func75,Tryz.ntmps75
 go_wp2_with fail
 go_loopg [3,4] 20 (fun g s3 _ wr=>∃(n:Nat) (T':Twn),g=20 - n∧s3=.int .i64 n∧Hid (Clm ws T n T')∧Hid (To (TnIn p b m c ws T') O w wr))
 case atStart=>exact ⟨0,T,rfl,rfl,clm_start HF.out,To.stay (tn_stands ..) HI.out (Below.refl _ _)⟩
 case round=>
  obtain ⟨n,T',rfl,rfl,HD,HT⟩:=hrel
  obtain ⟨O1,h1,h2,h3⟩:=HT.out
  have HC:=hid (tdrain_any h1 HD.out.full HO.out)
  have HS:Hid (Save O w wr∧Moved O O1 w):=⟨h2,h3⟩
  have HN:Hid (n<20):=HD.out.few HF.out
  have HDr:=hid HD.out.drained
  clear h1 h2 h3
  have HX1:Hid (dueR (drainR 80 T').B=[]->calmR 20 0 T=(n,drainR 80 T')):=fun q=>HD.out.out HN.out q
  have HX2:Hid (dueR (drainR 80 T').B ≠ []->Clm ws T (n+1) (tickR (drainR 80 T'))):=fun q=>HD.out.turn HN.out q
  generalize drainR 80 T'=D at *
  have j0:(n:Int)<20:=by have:=HN.out;omega
  go_wp2_with fail
  refine Calls.mono HC.out ?_
  rintro e w1 ⟨rfl,hT1⟩
  obtain ⟨O2,h1,h2,h3⟩:=hT1
  have HT1:Hid (To (TnIn p b m c ws D) O w w1):=To.comp HS.out.1 HS.out.2 ⟨O2,h1,h2,h3⟩
  have HI1:=hid h1
  have HS1:Hid (Save O w w1∧Moved O O2 w):=by
   refine ⟨HS.out.1.trans h2 (fun j hj hj1=>(HS.out.2 j hj1).elim id (fun q=>by omega)),fun k hk=>?_⟩
   rcases h3 k hk with q | q
   ·exact HS.out.2 k q
   ·exact .inr (Nat.le_trans HS.out.1.size q)
  have c0:w1.cell? ⟨p,0,none⟩=some (.pointer (some ⟨b,0,none⟩)):=h1.c0
  clear h1 h2 h3 HT HC
  have HU:Hid (Calls Tryz.prog 82 #[.pointer (some ⟨b,0,none⟩)] w1 fun e w'=>(∃v,e=.returned v∧w'.ownsRow w1.heap.size 142 6 v (dueR D.B).length (flat6 (dueR D.B)))∧Below w1.heap.size w1 w'):=by
   obtain ⟨Ob,hB,_⟩:=HI1.out.brk
   exact rdue_any Ob D.B b w1 hB HDr.out.1.brk
  have HRm:Hid ((dueR D.B).length<=32):=due_room HDr.out.1.brk
  go_wp2_with fail
  refine Calls.mono HU.out ?_
  rintro e w2 ⟨⟨v,rfl,hv⟩,hb2⟩
  have hsl:=hv
  obtain ⟨ga,cap,rfl,hM,hlen⟩:=mails_of_own hv
  have HB2:=hid hb2
  by_cases hz:dueR D.B=[]
  ·have HE:=hid (HX1.out hz)
   have hz':(((dueR D.B).length:Int) == 0)=true:=by rw [hz];rfl
   clear hsl hv hM hlen hb2 hz c0
   go_wp2_with fail
   go_ret
   exact ⟨by rw [HE.out];rfl,by rw [HE.out];exact HT1.out.next (tn_stands ..) HB2.out⟩
  ·have hz':(((dueR D.B).length:Int) == 0)=false:=by
    rw [beq_eq_false_iff_ne]
    intro q
    exact hz (List.eq_nil_of_length_eq_zero (by omega))
   have hn':((n:Int) == 20)=false:=by rw [beq_eq_false_iff_ne];omega
   have HCl:=hid (HX2.out hz)
   have HTk:Hid (Calls Tryz.prog 107 #[.pointer (some ⟨p,0,none⟩),.slice ga (dueR D.B).length cap] w2 fun e w'=>e=.returned (.tuple #[])∧To (TnIn p b m c ws (tickR D)) O w w'):=
    (tsend_any ga cap (dueR D.B) (HI1.out.next hb2) (by rw [HDr.out.2];simp) hM (by have:=HRm.out;omega) (fun a ha=>by
      subst ha
      obtain ⟨q1,q2⟩:=hsl.lt a.block rfl
      exact ⟨fun q=>by have:=HI1.out.own _ q;omega,q2⟩)).mono (fun e w' z=>⟨z.1,To.comp HS1.out.1 HS1.out.2 (z.2.behind HB2.out)⟩)
   clear hsl hv hM hlen hb2 hz c0
   go_wp2_with fail
   refine Calls.mono HTk.out ?_
   rintro e w3 ⟨rfl,hT3⟩
   have HT3:=hid hT3
   clear hT3
   go_wp2_with fail
   go_roundg (20 - (n+1))
   case measure=>have:=HN.out;omega
   case rel=>exact ⟨n+1,_,rfl,by simp,HCl,HT3⟩
def wldV (f:Nat->Int):Value:=.agg #[.int .i64 (f 0),.int .i64 (f 1),.int .i64 (f 2),.int .i64 (f 3),.int .i64 (f 4),.int .i64 (f 5)]
structure S6 (B:Nat) (w:World) (vs:Nat->Int) (wr:World):Prop where
 zer:∀j:Nat,j<6->wr.cell? ⟨B,j,none⟩=some (.int .i64 0)
 f0:∀k,wr.frozen? ⟨B,k,none⟩=false
 row:∀j:Nat,j<6->wr.cell? ⟨B+1,j,none⟩=some (.int .i64 (vs j))
 f1:∀k,wr.frozen? ⟨B+1,k,none⟩=false
 below:Below B w wr
 lt:B+1<wr.heap.size
theorem S6.next {B:Nat} {w wr wx:World} {vs:Nat->Int} (h:S6 B w vs wr) (hb:Below wr.heap.size wr wx):S6 B w vs wx:=by
 have hlt:=h.lt
 have hsz:=hb.size
 exact ⟨fun j hj=>((bcell hb).1 _ _ (by omega)).trans (h.zer j hj),loose B hb (by omega) h.f0,fun j hj=>((bcell hb).1 _ _ (by omega)).trans (h.row j hj),loose (B+1) hb (by omega) h.f1,after h.below hb (by omega),by omega⟩
theorem S6.set {B:Nat} {w wr:World} {vs:Nat->Int} (h:S6 B w vs wr) (n:Nat) (hn:n<6) (v:Int):S6 B w (upd vs n v) (wr.setCell ⟨B+1,n,none⟩ (.int .i64 v)):=by
 have ho:∀b o,b ≠ B+1->(wr.setCell ⟨B+1,n,none⟩ (.int .i64 v)).cell? ⟨b,o,none⟩=wr.cell? ⟨b,o,none⟩:=fun b o hb=>World.cell?_setCell_other _ _ _ _ (by intro e;simp only [Addr.mk.injEq] at e;omega)
 refine ⟨fun j hj=>(ho _ _ (by omega)).trans (h.zer j hj),by simpa [go_sem] using h.f0,?_,by simpa [go_sem] using h.f1,h.below.setCell (Nat.le_succ _) _,by simpa using h.lt⟩
 intro j hj
 unfold upd
 by_cases e:j=n
 ·subst e
  rw [World.cell?_setCell_same _ _ _ (h.row j hj),if_pos rfl]
 ·rw [World.cell?_setCell_other _ _ _ _ (by intro e';simp only [Addr.mk.injEq] at e';omega),h.row j hj,if_neg e]
theorem S6.congr {B:Nat} {w wr:World} {vs us:Nat->Int} (h:S6 B w vs wr) (he:∀j,j<6->vs j=us j):S6 B w us wr:=⟨h.zer,h.f0,fun j hj=>by rw [<-he j hj];exact h.row j hj,h.f1,h.below,h.lt⟩
theorem S6.begin (w:World) (t:Nat) (vs:Nat->Int):S6 w.heap.size w vs ((w.alloc (.cells #[.int .i64 0,.int .i64 0,.int .i64 0,.int .i64 0,.int .i64 0,.int .i64 0] t)).alloc (.cells #[.int .i64 (vs 0),.int .i64 (vs 1),.int .i64 (vs 2),.int .i64 (vs 3),.int .i64 (vs 4),.int .i64 (vs 5)] t)):=by
 refine ⟨?_,by simp [go_sem],?_,by simp [go_sem],by go_grown,by simp⟩
 ·intro j hj
  rcases six_cases hj with rfl | rfl | rfl | rfl | rfl | rfl <;> simp [go_sem]
 ·intro j hj
  rcases six_cases hj with rfl | rfl | rfl | rfl | rfl | rfl <;> simp [go_sem]
def uptoW (f:Nat->Int) (n:Nat):Nat->Int:=fun j=>if j<n then f j else 0
theorem uptoW_next (f:Nat->Int) (n:Nat):upd (uptoW f n) n (f n)=uptoW f (n+1):=by
 funext j
 unfold upd uptoW
 by_cases e:j=n
 ·subst e;rw [if_pos rfl,if_pos (by omega)]
 ·rw [if_neg e]
  by_cases h:j<n
  ·rw [if_pos h,if_pos (by omega)]
  ·rw [if_neg h,if_neg (by omega)]
theorem idxC (c:Nat->Nat) {k:Nat} (hk:k<3) (W:World):(Instr.index 61 (.agg #[.pointer (some ⟨c 0,0,none⟩),.pointer (some ⟨c 1,0,none⟩),.pointer (some ⟨c 2,0,none⟩)]) (.int .i64 (k:Int))).run Tryz.prog W=.ok (.pointer (some ⟨c k,0,none⟩)) W:=by
 match k,hk with
 | 0,_=>simp [Instr.index,run_underlying Tryz.underlying61,asIntOf,go_sem]
 | 1,_=>simp [Instr.index,run_underlying Tryz.underlying61,asIntOf,go_sem]
 | 2,_=>simp [Instr.index,run_underlying Tryz.underlying61,asIntOf,go_sem]
theorem idxN (a:Nat->Int) {k:Nat} (hk:k<2) (W:World):(Instr.index 109 (cntV a) (.int .i64 (k:Int))).run Tryz.prog W=.ok (.agg #[.int .i64 (a (k * 3)),.int .i64 (a (k * 3+1)),.int .i64 (a (k * 3+2))]) W:=by
 match k,hk with
 | 0,_=>simp [cntV,Instr.index,run_underlying Tryz.underlying109,asIntOf,go_sem]
 | 1,_=>simp [cntV,Instr.index,run_underlying Tryz.underlying109,asIntOf,go_sem]
theorem cnt_val (T:Twn) (k i:Nat) (hi:i<2):cnt6 (T.P k).A (i * 3)=valT T (k * 2+i):=by
 unfold valT
 rw [show (k * 2+i) / 2=k by omega,show (k * 2+i) % 2=i by omega]
 match i,hi with
 | 0,_=>rfl
 | 1,_=>rfl
theorem tworld_any {O:Nat->Prop} {p b m:Nat} {c:Nat->Nat} {ws:Nat->Int} {T:Twn} {w:World} (h:TnIn p b m c ws T O w):
 Calls Tryz.prog 77 #[.pointer (some ⟨p,0,none⟩)] w fun e w'=>e=.returned (wldV (valT T))∧Below w.heap.size w w':=by
 have q7:=h.ptr (s:=0) (by omega)
 have q8:=h.ptr (s:=1) (by omega)
 have q9:=h.ptr (s:=2) (by omega)
 have HI:=hid h
 have hpl:=h.lt
 clear h
 go_enter Tryz.func77,Tryz.ntmps77
 go_wp2_with fail
 go_loopg [4,5,6,7,12] 3 (fun g _ _ _ _ s12 wr=>∃k:Nat,k<=3∧g=3 - k∧s12=.int .i64 k∧S6 w.heap.size w (uptoW (valT T) (k * 2)) wr)
 case atStart=>exact ⟨0,Nat.zero_le _,rfl,rfl,(S6.begin w 40 (fun _=>0)).congr (fun j hj=>by simp [uptoW])⟩
 case round=>
  obtain ⟨k,hk,rfl,rfl,hS⟩:=hrel
  clear q7 q8 q9
  by_cases hlt:k<3
  ·have j1:(k:Int)<3:=by omega
   have j0:(0:Int)<=(k:Int):=by omega
   have hix:=idxC c hlt
   have hw2:Below w.heap.size w wr:=hS.below
   obtain ⟨q,r,Ok,Os,k0,k1,l0,l1,hSh,_⟩:=(HI.out.next hw2).shop hlt
   have HC:=hid (scounts_any Os _ r wr hSh)
   have HK:Hid (k<3):=hlt
   clear hSh hw2 hk hlt
   go_wp2_with fail
   refine Calls.mono HC.out ?_
   rintro e w1 ⟨rfl,hb1⟩
   have hS1:=hS.next hb1
   clear HC hS hb1 k0 k1 l0 l1 hix
   go_wp2_with fail
   go_loopg [6,7,24] 2 (fun g _ _ s24 wx=>∃i:Nat,i<=2∧g=2 - i∧s24=.int .i64 i∧S6 w.heap.size w (uptoW (valT T) (k * 2+i)) wx)
   case atStart=>exact ⟨0,Nat.zero_le _,rfl,rfl,hS1⟩
   case round=>
    obtain ⟨i,hi,rfl,rfl,hX⟩:=hrel
    clear hS1
    by_cases hit:i<2
    ·have i1:(i:Int)<2:=by omega
     have i0:(0:Int)<=(i:Int):=by omega
     have hin:=idxN (cnt6 (T.P k).A) hit
     have hcv:=cnt_val T k i hit
     have HI2:Hid (i<2):=hit
     obtain ⟨n,hn⟩:∃n:Nat,n=k * 2+i:=⟨_,rfl⟩
     have HN:=hid hn
     have hrow:=hX.row n (by have:=HK.out;omega)
     have hn6:(n:Int)<6:=by have:=HK.out;omega
     have hn0:(0:Int)<=(n:Int):=by omega
     have hwr:IntKind.i64.wrap ((k:Int) * 2+(i:Int))=(n:Int):=by
      rw [show (k:Int) * 2+(i:Int)=(n:Int) by omega]
      go_unwrap
     rw [<-hn] at hcv
     have hf1:=hX.f1
     have hlt1:=hX.lt
     have hHX:=hid hX
     clear hi hit hX hn
     go_wp2_with fail
     go_roundg (2 - (i+1))
     case measure=>have:=HI2.out;omega
     case rel=>
      have hq:=hid ((hHX.out.set n (by have:=HK.out;have:=HI2.out;have:=HN.out;omega) (valT T n)).next ((Below.refl _ _).alloc (Nat.le_refl _) (.cells #[.int .i64 (valT T n),.int .i64 (cnt6 (T.P k).A (i * 3+1)),.int .i64 (cnt6 (T.P k).A (i * 3+2))] 108)))
      refine ⟨i+1,by have:=HI2.out;omega,rfl,by simp,?_⟩
      have he:uptoW (valT T) (k * 2+(i+1))=upd (uptoW (valT T) (k * 2+i)) n (valT T n):=by rw [HN.out,uptoW_next];rfl
      rw [he]
      exact hq.out
    ·have i1:¬(i:Int)<2:=by omega
     have hi2:i=2:=by omega
     subst hi2
     have hHX:=hid hX
     clear hX
     go_wp2_with fail
     go_roundg (3 - (k+1))
     case measure=>have:=HK.out;omega
     case rel=>exact ⟨k+1,by have:=HK.out;omega,rfl,by simp,by rw [show (k+1) * 2=k * 2+2 by omega];exact hHX.out⟩
  ·have j1:¬(k:Int)<3:=by omega
   have hk3:k=3:=by omega
   subst hk3
   have hS2:S6 w.heap.size w (valT T) wr:=hS.congr (fun j hj=>by unfold uptoW;rw [if_pos (by omega)])
   clear hS
   have z0:=hS2.zer 0 (by omega)
   have z1:=hS2.zer 1 (by omega)
   have z2:=hS2.zer 2 (by omega)
   have z3:=hS2.zer 3 (by omega)
   have z4:=hS2.zer 4 (by omega)
   have z5:=hS2.zer 5 (by omega)
   have a0:=hS2.row 0 (by omega)
   have a1:=hS2.row 1 (by omega)
   have a2:=hS2.row 2 (by omega)
   have a3:=hS2.row 3 (by omega)
   have a4:=hS2.row 4 (by omega)
   have a5:=hS2.row 5 (by omega)
   have g0:=hS2.f0
   have hb:=hS2.below
   have hl2:=hS2.lt
   clear hS2
   go_wp2_with fail
   exact bodyPost_ret (v:=wldV (valT T)) (by simp [wldV,results,Tryz.results77,go_sem,z0,z1,z2,z3,z4,z5]) rfl ⟨rfl,by go_grown⟩
theorem ser_take {B:Bok} {ws:Nat->Int} {l:List Int} (h:(serR B ws l).2=0):∀k:Nat,(serR B ws (l.take k)).2=0:=by
 induction l generalizing ws with
 | nil=>intro k;simp [serR]
 | cons n r ih=>
   intro k
   cases k with
   | zero=>simp [serR]
   | succ k=>
     rw [List.take_succ_cons]
     unfold serR at h ⊢
     by_cases e:(appW ws (wantsR B n)).2.1=0
     ·rw [if_pos e] at h ⊢
      exact ih h k
     ·rw [if_neg e] at h
      exact absurd h e
theorem ser_next {B:Bok} {ws:Nat->Int} {l:List Int} (h:(serR B ws l).2=0) {k:Nat} {n:Int} (hk:l[k]?=some n):(appW (serR B ws (l.take k)).1 (wantsR B n)).2.1=0∧(serR B ws (l.take (k+1))).1=(appW (serR B ws (l.take k)).1 (wantsR B n)).1:=by
 have h1:=ser_take h (k+1)
 have h0:=ser_take h k
 rw [take_snoc hk,serR_snoc B n _ _ h0] at h1
 rw [take_snoc hk,serR_snoc B n _ _ h0]
 generalize (serR B ws (l.take k)).1=f at h1 ⊢
 unfold serR at h1 ⊢
 by_cases e:(appW f (wantsR B n)).2.1=0
 ·rw [if_pos e];exact ⟨e,rfl⟩
 ·rw [if_neg e] at h1;exact absurd h1 e
theorem box_s6 {w:World} {b:Nat} {x0 x1 x2 x3 x4 x5:Value} (hlt:b<w.heap.size) (h0:w.cell? ⟨b,0,none⟩=some x0) (h1:w.cell? ⟨b,1,none⟩=some x1) (h2:w.cell? ⟨b,2,none⟩=some x2) (h3:w.cell? ⟨b,3,none⟩=some x3) (h4:w.cell? ⟨b,4,none⟩=some x4) (h5:w.cell? ⟨b,5,none⟩=some x5):BoxAt w b [x0,x1,x2,x3,x4,x5]:=by
 refine ⟨hlt,fun j v hj=>?_⟩
 match j,hj with
 | 0,hj=>simp at hj;subst hj;exact h0
 | 1,hj=>simp at hj;subst hj;exact h1
 | 2,hj=>simp at hj;subst hj;exact h2
 | 3,hj=>simp at hj;subst hj;exact h3
 | 4,hj=>simp at hj;subst hj;exact h4
 | 5,hj=>simp at hj;subst hj;exact h5
 | _+6,hj=>simp at hj
theorem box_s2 {w:World} {b:Nat} {x0 x1:Value} (hlt:b<w.heap.size) (h0:w.cell? ⟨b,0,none⟩=some x0) (h1:w.cell? ⟨b,1,none⟩=some x1):BoxAt w b [x0,x1]:=by
 refine ⟨hlt,fun j v hj=>?_⟩
 match j,hj with
 | 0,hj=>simp at hj;subst hj;exact h0
 | 1,hj=>simp at hj;subst hj;exact h1
 | _+2,hj=>simp at hj
theorem S6.put {B:Nat} {w wr:World} {vs:Nat->Int} (h:S6 B w vs wr) (us:Nat->Int):S6 B w us ((((((wr.setCell ⟨B+1,0,none⟩ (.int .i64 (us 0))).setCell ⟨B+1,1,none⟩ (.int .i64 (us 1))).setCell ⟨B+1,2,none⟩ (.int .i64 (us 2))).setCell ⟨B+1,3,none⟩ (.int .i64 (us 3))).setCell ⟨B+1,4,none⟩ (.int .i64 (us 4))).setCell ⟨B+1,5,none⟩ (.int .i64 (us 5))):=by
 refine ((((((h.set 0 (by omega) (us 0)).set 1 (by omega) (us 1)).set 2 (by omega) (us 2)).set 3 (by omega) (us 3)).set 4 (by omega) (us 4)).set 5 (by omega) (us 5)).congr (fun j hj=>?_)
 rcases six_cases hj with rfl | rfl | rfl | rfl | rfl | rfl <;> simp [upd]
theorem save_put {B:Nat} {w wr:World} (h:Save (fun j=>j=B+1) w wr) (us:Nat->Int):Save (fun j=>j=B+1) w ((((((wr.setCell ⟨B+1,0,none⟩ (.int .i64 (us 0))).setCell ⟨B+1,1,none⟩ (.int .i64 (us 1))).setCell ⟨B+1,2,none⟩ (.int .i64 (us 2))).setCell ⟨B+1,3,none⟩ (.int .i64 (us 3))).setCell ⟨B+1,4,none⟩ (.int .i64 (us 4))).setCell ⟨B+1,5,none⟩ (.int .i64 (us 5))):=
 (((((h.setCell (fun _=>rfl) _).setCell (fun _=>rfl) _).setCell (fun _=>rfl) _).setCell (fun _=>rfl) _).setCell (fun _=>rfl) _).setCell (fun _=>rfl) _
theorem tserial_any {O:Nat->Prop} {p b m:Nat} {c:Nat->Nat} {ws:Nat->Int} {T:Twn} {w:World} (h:TnIn p b m c ws T O w) (hF:Full ws T):
 Calls Tryz.prog 78 #[.pointer (some ⟨p,0,none⟩)] w fun e w'=>e=.returned (.tuple #[wldV (curR ws T),.int .i64 0])∧Below w.heap.size w w':=by
 have HI:=hid h
 have HBr:=hid hF.brk
 have HSer:Hid (serR T.B ws T.B.ord=(curR ws T,0)):=hF.town.ser
 have HZ:Hid ((serR T.B ws T.B.ord).2=0):=by show _=_;rw [HSer.out]
 have p1:=h.fr (k:=0) (by omega)
 have p2:=h.fr (k:=1) (by omega)
 have p3:=h.fr (k:=2) (by omega)
 have p4:=h.fr (k:=3) (by omega)
 have p5:=h.fr (k:=4) (by omega)
 have p6:=h.fr (k:=5) (by omega)
 have hpl:=h.lt
 clear h hF
 go_enter Tryz.func78,Tryz.ntmps78
 go_upto_region 2 with fail
 have hS:=S6.begin w 40 ws
 generalize ((w.alloc (.cells #[.int .i64 0,.int .i64 0,.int .i64 0,.int .i64 0,.int .i64 0,.int .i64 0] 40)).alloc (.cells #[.int .i64 (ws 0),.int .i64 (ws 1),.int .i64 (ws 2),.int .i64 (ws 3),.int .i64 (ws 4),.int .i64 (ws 5)] 40))=w1 at hS ⊢
 clear p1 p2 p3 p4 p5 p6
 have c0:w1.cell? ⟨p,0,none⟩=some (.pointer (some ⟨b,0,none⟩)):=(HI.out.next hS.below).c0
 have HD:Hid (Calls Tryz.prog 79 #[.pointer (some ⟨b,0,none⟩)] w1 fun e w'=>(∃v,e=.returned v∧w'.ownsRow w1.heap.size 3 1 v T.B.ord.length (T.B.ord.map (Value.int .i64)))∧Below w1.heap.size w1 w'):=by
  obtain ⟨Ob,hB,_⟩:=(HI.out.next hS.below).brk
  exact rdone_any Ob T.B b w1 hB (by have:=HBr.out.ordLen;omega)
 have HS1:=hid hS
 clear hS
 go_wp2_with fail
 refine Calls.mono HD.out ?_
 rintro e w2 ⟨⟨v,rfl,hv⟩,hb2⟩
 have hsl:=hid hv
 obtain ⟨ga,cap,rfl,hN,_⟩:=nums_of_own hv
 have HNum:=hid hN
 have HS2:=hid (HS1.out.next hb2)
 have HGa:Hid (∀a,ga=some a->w.heap.size+1<a.block∧a.block<w2.heap.size):=fun a ha=>by
  subst ha
  have:=hsl.out.lt a.block rfl
  have:=HS1.out.lt
  omega
 have HOl:Hid (T.B.ord.length<=8):=HBr.out.ordLen
 clear hv hN hb2 c0 hsl
 go_wp2_with fail
 go_loopg [6,7,8,19] T.B.ord.length (fun g _ _ _ s19 wr=>∃k:Nat,k<=T.B.ord.length∧g=T.B.ord.length - k∧s19=.int .i64 k∧Hid (S6 w.heap.size w (serR T.B ws (T.B.ord.take k)).1 wr)∧Hid (Save (fun j=>j=w.heap.size+1) w2 wr))
 case atStart=>exact ⟨0,Nat.zero_le _,rfl,rfl,HS2.out,Save.refl _ _⟩
 case round=>
  obtain ⟨k,hk,rfl,rfl,HS,HSv⟩:=hrel
  by_cases hlt:k<T.B.ord.length
  ·obtain ⟨n,hn⟩:∃n,T.B.ord[k]?=some n:=⟨_,List.getElem?_eq_getElem hlt⟩
   obtain ⟨bg,og,rfl,hbg,hcell⟩:=HNum.out k n hn
   have hga:=HGa.out _ rfl
   have q0:wr.cell? ⟨bg,og+k,none⟩=some (.int .i64 n):=(HSv.out.cell (p:=⟨bg,og+k,none⟩) hga.2 (fun e:bg=w.heap.size+1=>by have:=hga.1;simp only at this;omega)).trans hcell
   obtain ⟨ha,hb⟩:=ser_next HZ.out hn
   have HA:=hid ha
   have HB:=hid hb
   have HK:Hid (k<T.B.ord.length):=hlt
   generalize (serR T.B ws (T.B.ord.take k)).1=vs at *
   have j0:(0:Int)<=(k:Int):=by omega
   have j1:(k:Int)<(T.B.ord.length:Int):=by omega
   have j2:(T.B.ord.length:Int)<=8:=by have:=HOl.out;omega
   have HW:Hid (∀W,Below wr.heap.size wr W->Calls Tryz.prog 110 #[.pointer (some ⟨b,0,none⟩),.int .i64 n] W fun e w'=>(∃v,e=.returned v∧w'.ownsRow W.heap.size 97 2 v (wantsR T.B n).length (flat (wantsR T.B n)))∧Below W.heap.size W w'):=fun W hW=>by
    obtain ⟨Ob,hB,_⟩:=(HI.out.next (after HS.out.below hW (by have:=HS.out.lt;omega))).brk
    exact rwants_any Ob T.B b n W hB HBr.out
   clear hcell hga hn ha hb hk hlt hbg
   go_upto_region 5 with fail
   clear q0
   have hS:=HS.out
   have HP:Hid (∀w',Below wr.heap.size wr w'->w'.cell? ⟨p,0,none⟩=some (.pointer (some ⟨b,0,none⟩))∧w'.cell? ⟨w.heap.size+1,0,none⟩=some (.int .i64 (vs 0))∧w'.cell? ⟨w.heap.size+1,1,none⟩=some (.int .i64 (vs 1))∧w'.cell? ⟨w.heap.size+1,2,none⟩=some (.int .i64 (vs 2))∧w'.cell? ⟨w.heap.size+1,3,none⟩=some (.int .i64 (vs 3))∧w'.cell? ⟨w.heap.size+1,4,none⟩=some (.int .i64 (vs 4))∧w'.cell? ⟨w.heap.size+1,5,none⟩=some (.int .i64 (vs 5))):=fun w' hb=>⟨(HI.out.next (after hS.below hb (by have:=hS.lt;omega))).c0,(hS.next hb).row 0 (by omega),(hS.next hb).row 1 (by omega),(hS.next hb).row 2 (by omega),(hS.next hb).row 3 (by omega),(hS.next hb).row 4 (by omega),(hS.next hb).row 5 (by omega)⟩
   clear hS
   generalize hr:appW vs (wantsR T.B n)=r at HA HB
   go_cut [7,8] (fun s7 s8 wx=>∃nb nf,s7=.pointer (some ⟨nb,0,none⟩)∧s8=.pointer (some ⟨nf,0,none⟩)∧BoxAt wx nb [.int .i64 (r.1 0),.int .i64 (r.1 1),.int .i64 (r.1 2),.int .i64 (r.1 3),.int .i64 (r.1 4),.int .i64 (r.1 5)]∧BoxAt wx nf [.int .i64 r.2.1,.int .i64 r.2.2]∧Below wr.heap.size wr wx)
   case first=>
    have HAp:Hid (∀(W:World) (la:Option Addr) (lc:Nat),WantsAt W la (wantsR T.B n)->Calls Tryz.prog 109 #[.agg #[.int .i64 (vs 0),.int .i64 (vs 1),.int .i64 (vs 2),.int .i64 (vs 3),.int .i64 (vs 4),.int .i64 (vs 5)],.slice la (wantsR T.B n).length lc] W fun e w'=>e=.returned (.tuple #[.agg #[.int .i64 (r.1 0),.int .i64 (r.1 1),.int .i64 (r.1 2),.int .i64 (r.1 3),.int .i64 (r.1 4),.int .i64 (r.1 5)],.agg #[.int .i64 r.2.1,.int .i64 r.2.2]])∧Below W.heap.size W w'):=fun W la lc hW=>by rw [<-hr];exact apply_any vs la _ lc _ W hW rfl
    clear hr HS HSv HNum HGa HA HB HI HBr HSer HZ HS1 HS2 HD hpl
    go_region_held3 (fun w'=>w'.cell? ⟨p,0,none⟩=some (.pointer (some ⟨b,0,none⟩))∧w'.cell? ⟨w.heap.size+1,0,none⟩=some (.int .i64 (vs 0))∧w'.cell? ⟨w.heap.size+1,1,none⟩=some (.int .i64 (vs 1))∧w'.cell? ⟨w.heap.size+1,2,none⟩=some (.int .i64 (vs 2))∧w'.cell? ⟨w.heap.size+1,3,none⟩=some (.int .i64 (vs 3))∧w'.cell? ⟨w.heap.size+1,4,none⟩=some (.int .i64 (vs 4))∧w'.cell? ⟨w.heap.size+1,5,none⟩=some (.int .i64 (vs 5)))
     (first | exact HP.out _ (by go_grown))
     (first | (go_at_call 110;refine (HW.out _ (by go_grown)).mono ?_;rintro e w8 ⟨⟨v8,rfl,hv8⟩,hb8⟩;obtain ⟨ga8,cap8,rfl,hWA8,_⟩:=wants_of_own hv8;have HWA8:=hid hWA8;clear hv8 hWA8;have hw8:Below wr.heap.size wr w8:=after (by go_grown) hb8 (by first | omega | (simp <;> omega));have hz8:wr.heap.size<=w8.heap.size:=hw8.size;have hy8:=hb8.size;(try simp [Nat.add_one_le_iff] at hy8);obtain ⟨hc8,hf8⟩:=bcell hb8;(try (have ec80:∀o,w8.cell? ⟨wr.heap.size,o,none⟩=_:=fun o=>hc8 _ o (by first | omega | (simp;done) | (simp;omega));have ef80:∀o,w8.frozen? ⟨wr.heap.size,o,none⟩=_:=fun o=>hf8 _ o (by first | omega | (simp;done) | (simp;omega))));(try (have ec81:∀o,w8.cell? ⟨wr.heap.size+1,o,none⟩=_:=fun o=>hc8 _ o (by first | omega | (simp;done) | (simp;omega));have ef81:∀o,w8.frozen? ⟨wr.heap.size+1,o,none⟩=_:=fun o=>hf8 _ o (by first | omega | (simp;done) | (simp;omega))));(try (have:wr.heap.size<w8.heap.size:=by omega));(try (have:wr.heap.size<w8.heap.size+1:=by omega));(try (have:wr.heap.size<w8.heap.size+1+1:=by omega));(try (have:¬wr.heap.size=w8.heap.size:=by omega));(try (have:¬w8.heap.size=wr.heap.size:=by omega));(try (have:¬wr.heap.size=w8.heap.size+1:=by omega));(try (have:¬w8.heap.size+1=wr.heap.size:=by omega));(try (have:wr.heap.size+1<w8.heap.size:=by omega));(try (have:wr.heap.size+1<w8.heap.size+1:=by omega));(try (have:wr.heap.size+1<w8.heap.size+1+1:=by omega));(try (have:¬wr.heap.size+1=w8.heap.size:=by omega));(try (have:¬w8.heap.size=wr.heap.size+1:=by omega));(try (have:¬wr.heap.size+1=w8.heap.size+1:=by omega));(try (have:¬w8.heap.size+1=wr.heap.size+1:=by omega));have:w8.heap.size<w8.heap.size+1+1:=by omega) | (go_at_call 109;refine (HAp.out _ _ _ (HWA8.out.below (w':=_) (by go_grown) (Nat.le_refl _))).mono ?_;rintro e w9 ⟨rfl,hb9⟩;have hw9:Below wr.heap.size wr w9:=after (by go_grown) hb9 (by first | omega | (simp <;> omega));have hz9:wr.heap.size<=w9.heap.size:=hw9.size;have hy9:=hb9.size;(try simp [Nat.add_one_le_iff] at hy9);obtain ⟨hc9,hf9⟩:=bcell hb9;(try (have ec90:∀o,w9.cell? ⟨wr.heap.size,o,none⟩=_:=fun o=>hc9 _ o (by first | omega | (simp;done) | (simp;omega));have ef90:∀o,w9.frozen? ⟨wr.heap.size,o,none⟩=_:=fun o=>hf9 _ o (by first | omega | (simp;done) | (simp;omega))));(try (have ec91:∀o,w9.cell? ⟨wr.heap.size+1,o,none⟩=_:=fun o=>hc9 _ o (by first | omega | (simp;done) | (simp;omega));have ef91:∀o,w9.frozen? ⟨wr.heap.size+1,o,none⟩=_:=fun o=>hf9 _ o (by first | omega | (simp;done) | (simp;omega))));(try (have ec92:∀o,w9.cell? ⟨w8.heap.size,o,none⟩=_:=fun o=>hc9 _ o (by first | omega | (simp;done) | (simp;omega));have ef92:∀o,w9.frozen? ⟨w8.heap.size,o,none⟩=_:=fun o=>hf9 _ o (by first | omega | (simp;done) | (simp;omega))));(try (have ec93:∀o,w9.cell? ⟨w8.heap.size+1,o,none⟩=_:=fun o=>hc9 _ o (by first | omega | (simp;done) | (simp;omega));have ef93:∀o,w9.frozen? ⟨w8.heap.size+1,o,none⟩=_:=fun o=>hf9 _ o (by first | omega | (simp;done) | (simp;omega))));(try (have:wr.heap.size<w9.heap.size:=by omega));(try (have:wr.heap.size<w9.heap.size+1:=by omega));(try (have:wr.heap.size<w9.heap.size+1+1:=by omega));(try (have:¬wr.heap.size=w9.heap.size:=by omega));(try (have:¬w9.heap.size=wr.heap.size:=by omega));(try (have:¬wr.heap.size=w9.heap.size+1:=by omega));(try (have:¬w9.heap.size+1=wr.heap.size:=by omega));(try (have:wr.heap.size+1<w9.heap.size:=by omega));(try (have:wr.heap.size+1<w9.heap.size+1:=by omega));(try (have:wr.heap.size+1<w9.heap.size+1+1:=by omega));(try (have:¬wr.heap.size+1=w9.heap.size:=by omega));(try (have:¬w9.heap.size=wr.heap.size+1:=by omega));(try (have:¬wr.heap.size+1=w9.heap.size+1:=by omega));(try (have:¬w9.heap.size+1=wr.heap.size+1:=by omega));(try (have:w8.heap.size<w9.heap.size:=by omega));(try (have:w8.heap.size<w9.heap.size+1:=by omega));(try (have:w8.heap.size<w9.heap.size+1+1:=by omega));(try (have:¬w8.heap.size=w9.heap.size:=by omega));(try (have:¬w9.heap.size=w8.heap.size:=by omega));(try (have:¬w8.heap.size=w9.heap.size+1:=by omega));(try (have:¬w9.heap.size+1=w8.heap.size:=by omega));(try (have:w8.heap.size+1<w9.heap.size:=by omega));(try (have:w8.heap.size+1<w9.heap.size+1:=by omega));(try (have:w8.heap.size+1<w9.heap.size+1+1:=by omega));(try (have:¬w8.heap.size+1=w9.heap.size:=by omega));(try (have:¬w9.heap.size=w8.heap.size+1:=by omega));(try (have:¬w8.heap.size+1=w9.heap.size+1:=by omega));(try (have:¬w9.heap.size+1=w8.heap.size+1:=by omega))))
    all_goals
     clear HP HW HAp
     go_wp2_with fail
     go_meet
     case rel=>
      refine ⟨_,_,rfl,rfl,?_,?_,?_⟩
      ·refine box_s6 ?_ ?_ ?_ ?_ ?_ ?_ ?_
       ·have:=hb9.size
        simp at this ⊢
        try omega
       all_goals simp [go_sem, *]
      ·refine box_s2 ?_ ?_ ?_
       ·have:=hb9.size
        simp at this ⊢
        try omega
       all_goals simp [go_sem, *]
      ·go_grown
   case rest=>
    obtain ⟨nb,nf,rfl,rfl,hN,hF,hb5⟩:=hcut
    have hS5:=HS.out.next hb5
    have HSv5:Hid (Save (fun j=>j=w.heap.size+1) w2 wc):=HSv.out.next hb5
    clear HW HP HS HSv hb5
    have f0:=hF.2 0 _ rfl
    have n0:=hN.2 0 _ rfl
    have n1:=hN.2 1 _ rfl
    have n2:=hN.2 2 _ rfl
    have n3:=hN.2 3 _ rfl
    have n4:=hN.2 4 _ rfl
    have n5:=hN.2 5 _ rfl
    have a0:=hS5.row 0 (by omega)
    have a1:=hS5.row 1 (by omega)
    have a2:=hS5.row 2 (by omega)
    have a3:=hS5.row 3 (by omega)
    have a4:=hS5.row 4 (by omega)
    have a5:=hS5.row 5 (by omega)
    have g1:=hS5.f1
    have hl5:=hS5.lt
    have HS5:=hid hS5
    have hz:(r.2.1 != 0)=false:=by rw [HA.out];rfl
    clear hS5
    go_wp2_with fail
    go_roundg (T.B.ord.length - (k+1))
    case measure=>have:=HK.out;omega
    case rel=>exact ⟨k+1,HK.out,rfl,by simp,by rw [HB.out];exact HS5.out.put r.1,save_put HSv5.out r.1⟩
  ·have j1:¬(k:Int)<(T.B.ord.length:Int):=by omega
   have HE:Hid ((serR T.B ws (T.B.ord.take k)).1=curR ws T):=by
    show _=_
    rw [List.take_of_length_le (by omega),HSer.out]
   have hS2:S6 w.heap.size w (curR ws T) wr:=by have:=HS.out;rw [HE.out] at this;exact this
   clear HS
   have z0:=hS2.zer 0 (by omega)
   have z1:=hS2.zer 1 (by omega)
   have z2:=hS2.zer 2 (by omega)
   have z3:=hS2.zer 3 (by omega)
   have z4:=hS2.zer 4 (by omega)
   have z5:=hS2.zer 5 (by omega)
   have a0:=hS2.row 0 (by omega)
   have a1:=hS2.row 1 (by omega)
   have a2:=hS2.row 2 (by omega)
   have a3:=hS2.row 3 (by omega)
   have a4:=hS2.row 4 (by omega)
   have a5:=hS2.row 5 (by omega)
   have g0:=hS2.f0
   have hb:=hS2.below
   have hl2:=hS2.lt
   clear hS2
   go_wp2_with fail
   exact bodyPost_ret (v:=.tuple #[wldV (curR ws T),.int .i64 0]) (by simp [wldV,results,Tryz.results78,go_sem,z0,z1,z2,z3,z4,z5]) rfl ⟨rfl,by go_grown⟩
def OkT (ws:Nat->Int):Prop:=∀s:Nat,s<3->newOk (s:Int) ws=true
def TNewIs (ws:Nat->Int) (w w':World) (e:Ending):Prop:=(OkT ws->∃p b m c O,e=.returned (.pointer (some ⟨p,0,none⟩))∧TnIn p b m c ws (T00 ws) O w'∧∀k,O k->w.heap.size<=k)∧(¬OkT ws->e=.returned (.pointer none))
theorem tn_new0 {n0 b m:Nat} {ws:Nat->Int} {w2 w3:World} {Ob Om:Nat->Prop} (h1:BrkIn Ob w2 b ⟨[],[]⟩) (h2:∀k,Ob k->n0<=k) (hn:n0<=w2.heap.size) (hb:Below w2.heap.size w2 w3) (h3:MailIn Om w3 m 0 []) (h4:∀k,Om k->w2.heap.size<=k) (t:TypeId):TnNew 0 n0 w3.heap.size b m ws (w3.alloc (.cells #[.pointer (some ⟨b,0,none⟩),.int .i64 (ws 0),.int .i64 (ws 1),.int .i64 (ws 2),.int .i64 (ws 3),.int .i64 (ws 4),.int .i64 (ws 5),.pointer none,.pointer none,.pointer none,.pointer (some ⟨m,0,none⟩)] t)):=by
 have hb4:Below w3.heap.size w3 (w3.alloc (.cells #[.pointer (some ⟨b,0,none⟩),.int .i64 (ws 0),.int .i64 (ws 1),.int .i64 (ws 2),.int .i64 (ws 3),.int .i64 (ws 4),.int .i64 (ws 5),.pointer none,.pointer none,.pointer none,.pointer (some ⟨m,0,none⟩)] t)):=(Below.refl _ _).alloc (Nat.le_refl _) _
 have hz:=hb.size
 have o1:∀k,Ob k->k<w2.heap.size:=h1.own
 have o2:∀k,Om k->k<w3.heap.size:=h3.own
 refine ⟨fun _=>0,fun k=>Ob k∨Om k∨k=w3.heap.size,⟨fun k hk=>?_,fun i=>if i=0 then (fun k=>k=w3.heap.size) else if i=1 then Ob else Om,fun i hi=>?_,fun i hi k hk=>?_,fun i j hi hj hij k hk hk'=>?_⟩,fun k hk=>?_⟩
 ·have:=hb4.size
  rcases hk with q | q | q
  ·have:=o1 k q;omega
  ·have:=o2 k q;omega
  ·subst q;simp
 ·match i,hi with
  | 0,_=>
    refine ⟨fun k (hk:k=w3.heap.size)=>by subst hk;simp,rfl,fun k=>by simp [go_sem],fun j u hj=>?_⟩
    have hj11:j<11:=by have:=(List.getElem?_eq_some_iff.1 hj).1;simpa [vsN] using this
    rw [<-hj]
    match j,hj11 with
    | 0,_=>simp [go_sem,vsN]
    | 1,_=>simp [go_sem,vsN]
    | 2,_=>simp [go_sem,vsN]
    | 3,_=>simp [go_sem,vsN]
    | 4,_=>simp [go_sem,vsN]
    | 5,_=>simp [go_sem,vsN]
    | 6,_=>simp [go_sem,vsN]
    | 7,_=>simp [go_sem,vsN]
    | 8,_=>simp [go_sem,vsN]
    | 9,_=>simp [go_sem,vsN]
    | 10,_=>simp [go_sem,vsN]
  | 1,_=>exact (h1.next hb).next hb4
  | 2,_=>exact h3.next hb4
 ·match i,hi,hk with
  | 0,_,hk=>exact .inr (.inr hk)
  | 1,_,hk=>exact .inl hk
  | 2,_,hk=>exact .inr (.inl hk)
 ·match i,hi,j,hj,hij,hk,hk' with
  | 0,_,0,_,hij,_,_=>exact hij rfl
  | 1,_,1,_,hij,_,_=>exact hij rfl
  | 2,_,2,_,hij,_,_=>exact hij rfl
  | 0,_,1,_,_,hk,hk'=>have a:k=w3.heap.size:=hk;have:=o1 k hk';omega
  | 0,_,2,_,_,hk,hk'=>have a:k=w3.heap.size:=hk;have:=o2 k hk';omega
  | 1,_,0,_,_,hk,hk'=>have a:k=w3.heap.size:=hk';have:=o1 k hk;omega
  | 2,_,0,_,_,hk,hk'=>have a:k=w3.heap.size:=hk';have:=o2 k hk;omega
  | 1,_,2,_,_,hk,hk'=>have:=o1 k hk;have:=h4 k hk';omega
  | 2,_,1,_,_,hk,hk'=>have:=o1 k hk';have:=h4 k hk;omega
 ·rcases hk with q | q | q
  ·exact h2 k q
  ·have:=h4 k q;omega
  ·omega
theorem tnew_any (ws:Nat->Int) (w:World):Calls Tryz.prog 12 #[wldV ws] w fun e w'=>TNewIs ws w w' e∧Below w.heap.size w w':=by
 unfold wldV
 go_enter Tryz.func12,Tryz.ntmps12
 go_upto_region 1 with fail
 have hb1:Below w.heap.size w (w.alloc (.cells #[.int .i64 (ws 0),.int .i64 (ws 1),.int .i64 (ws 2),.int .i64 (ws 3),.int .i64 (ws 4),.int .i64 (ws 5)] 40)):=(Below.refl _ _).alloc (Nat.le_refl _) _
 have hX:BoxAt (w.alloc (.cells #[.int .i64 (ws 0),.int .i64 (ws 1),.int .i64 (ws 2),.int .i64 (ws 3),.int .i64 (ws 4),.int .i64 (ws 5)] 40)) w.heap.size [.int .i64 (ws 0),.int .i64 (ws 1),.int .i64 (ws 2),.int .i64 (ws 3),.int .i64 (ws 4),.int .i64 (ws 5)]:=BoxAt.new w _ _
 generalize (w.alloc (.cells #[.int .i64 (ws 0),.int .i64 (ws 1),.int .i64 (ws 2),.int .i64 (ws 3),.int .i64 (ws 4),.int .i64 (ws 5)] 40))=w1 at hb1 hX ⊢
 have HB1:=hid hb1
 have HX:=hid hX
 clear hb1 hX
 have HK:Hid (∀w',Below w1.heap.size w1 w'->w'.cell? ⟨w.heap.size,0,none⟩=some (.int .i64 (ws 0))∧w'.cell? ⟨w.heap.size,1,none⟩=some (.int .i64 (ws 1))∧w'.cell? ⟨w.heap.size,2,none⟩=some (.int .i64 (ws 2))∧w'.cell? ⟨w.heap.size,3,none⟩=some (.int .i64 (ws 3))∧w'.cell? ⟨w.heap.size,4,none⟩=some (.int .i64 (ws 4))∧w'.cell? ⟨w.heap.size,5,none⟩=some (.int .i64 (ws 5))):=fun w' hb=>⟨(HX.out.next hb).2 0 _ rfl,(HX.out.next hb).2 1 _ rfl,(HX.out.next hb).2 2 _ rfl,(HX.out.next hb).2 3 _ rfl,(HX.out.next hb).2 4 _ rfl,(HX.out.next hb).2 5 _ rfl⟩
 go_region_held3 (fun w'=>w'.cell? ⟨w.heap.size,0,none⟩=some (.int .i64 (ws 0))∧w'.cell? ⟨w.heap.size,1,none⟩=some (.int .i64 (ws 1))∧w'.cell? ⟨w.heap.size,2,none⟩=some (.int .i64 (ws 2))∧w'.cell? ⟨w.heap.size,3,none⟩=some (.int .i64 (ws 3))∧w'.cell? ⟨w.heap.size,4,none⟩=some (.int .i64 (ws 4))∧w'.cell? ⟨w.heap.size,5,none⟩=some (.int .i64 (ws 5)))
  (first | exact HK.out _ (by go_grown))
  (first | (go_at_call 20;refine (rnew_any _).mono ?_;rintro e w8 ⟨⟨b,Ob,rfl,hI8,hO8⟩,hb8⟩;have HI8:=hid hI8;have HO8:=hid hO8;have hw8:Below w1.heap.size w1 w8:=after (by go_grown) hb8 (by first | omega | (simp <;> omega));have hz8:w1.heap.size<=w8.heap.size:=hw8.size;clear hI8 hO8) | (go_at_call 21;refine (pnew_any _).mono ?_;rintro e w9 ⟨⟨m,Om,rfl,hI9,hO9⟩,hb9⟩;have HI9:=hid hI9;have HO9:=hid hO9;have hw9:Below w1.heap.size w1 w9:=after (by go_grown) hb9 (by first | omega | (simp <;> omega));have hz9:w1.heap.size<=w9.heap.size:=hw9.size;clear hI9 hO9))
 have hN:=tn_new0 (n0:=w.heap.size) (ws:=ws) HI8.out (fun k hk=>by have q8:w1.heap.size<=k:=HO8.out k hk;have:=HB1.out.size;omega) (by have:=HB1.out.size;omega) hb9 HI9.out HO9.out 63
 have hb10:Below w9.heap.size w9 (w9.alloc (.cells #[.pointer (some ⟨b,0,none⟩),.int .i64 (ws 0),.int .i64 (ws 1),.int .i64 (ws 2),.int .i64 (ws 3),.int .i64 (ws 4),.int .i64 (ws 5),.pointer none,.pointer none,.pointer none,.pointer (some ⟨m,0,none⟩)] 63)):=(Below.refl _ _).alloc (Nat.le_refl _) _
 have hX2:=(HX.out.next hw9).next hb10
 have hbw:=after HB1.out (after hw9 hb10 hz9) HB1.out.size
 have hlp:w.heap.size<w9.heap.size:=by have:=HX.out.1;omega
 generalize (w9.alloc (.cells #[.pointer (some ⟨b,0,none⟩),.int .i64 (ws 0),.int .i64 (ws 1),.int .i64 (ws 2),.int .i64 (ws 3),.int .i64 (ws 4),.int .i64 (ws 5),.pointer none,.pointer none,.pointer none,.pointer (some ⟨m,0,none⟩)] 63))=w10 at hN hX2 hbw ⊢
 generalize w9.heap.size=p at hN hlp ⊢
 have HN0:=hid hN
 have HX0:=hid hX2
 have HW0:=hid hbw
 clear hb8 hw8 hz8 hb9 hw9 hz9 HI8 HO8 HI9 HO9 hb10 HK HX HB1 hN hX2 hbw
 go_wp2_with fail
 go_loopg [4,5,11] 3 (fun g _ _ s11 wr=>∃k:Nat,k<=3∧g=3 - k∧s11=.int .i64 k∧Hid (∀s:Nat,s<k->newOk (s:Int) ws=true)∧Hid (TnNew k w.heap.size p b m ws wr)∧BoxAt wr w.heap.size [.int .i64 (ws 0),.int .i64 (ws 1),.int .i64 (ws 2),.int .i64 (ws 3),.int .i64 (ws 4),.int .i64 (ws 5)]∧Hid (Below w.heap.size w wr))
 case atStart=>exact ⟨0,Nat.zero_le _,rfl,rfl,fun s hs=>absurd hs (by omega),HN0,HX0.out,HW0⟩
 case round=>
  obtain ⟨k,hk,rfl,rfl,HOk,HN,hX,HW⟩:=hrel
  clear HN0 HX0 HW0
  by_cases hlt:k<3
  ·have j1:(k:Int)<3:=by omega
   have j0:(0:Int)<=(k:Int):=by omega
   have HKn:=hid hlt
   have x0:=hX.2 0 _ rfl
   have x1:=hX.2 1 _ rfl
   have x2:=hX.2 2 _ rfl
   have x3:=hX.2 3 _ rfl
   have x4:=hX.2 4 _ rfl
   have x5:=hX.2 5 _ rfl
   have HC:=hid (cnew_any (k:Int) ws wr)
   have HXr:=hid hX
   clear hk hlt hX
   by_cases hok:newOk (k:Int) ws=true
   ·have HOK:=hid hok
    clear hok
    go_wp2_with fail
    refine Calls.mono HC.out ?_
    rintro e w2 ⟨hN2,hb2⟩
    unfold NewCIs at hN2
    rw [if_pos HOK.out] at hN2
    obtain ⟨q,Oc,rfl,hI,hO⟩:=hN2
    have HN2:=hid (HN.out.clerk HKn.out hb2 hI hO)
    obtain ⟨c',_,hpl,hfz,hcl⟩:=(HN.out.next hb2).cell
    have hX2:=hid (HXr.out.next hb2)
    have HW2:=hid (after HW.out hb2 HW.out.size)
    have hce:∃u,w2.cell? ⟨p,7+k,none⟩=some u:=by
     obtain ⟨u,hu⟩:∃u,(vsN k b m c' ws)[7+k]?=some u:=⟨_,List.getElem?_eq_getElem (by have:=HKn.out;simp [vsN];omega)⟩
     exact ⟨u,hcl _ u hu⟩
    obtain ⟨u,hu⟩:=hce
    clear hI hO hb2 hcl x0 x1 x2 x3 x4 x5 HC
    go_wp2_with fail
    go_roundg (3 - (k+1))
    case measure=>have:=HKn.out;omega
    case rel=>
     refine ⟨k+1,HKn.out,rfl,by simp,fun s hs=>?_,HN2,hX2.out.save ((Save.refl (fun j=>j=p) w2).setCell (p:=⟨p,7+k,none⟩) (fun _=>rfl) _) (by omega),HW2.out.setCell (p:=⟨p,7+k,none⟩) (by show _<=p;omega) _⟩
     by_cases e:s=k
     ·subst e;exact HOK.out
     ·exact HOk.out s (by omega)
   ·have HNo:Hid (¬OkT ws):=fun q=>hok (q k HKn.out)
    have hokf:newOk (k:Int) ws=false:=by simpa using hok
    have HOf:=hid hokf
    clear hok hokf
    go_wp2_with fail
    refine Calls.mono HC.out ?_
    rintro e w2 ⟨hN2,hb2⟩
    unfold NewCIs at hN2
    rw [if_neg (by rw [HOf.out];simp)] at hN2
    subst hN2
    have HW2:=hid (after HW.out hb2 HW.out.size)
    clear hb2 x0 x1 x2 x3 x4 x5 HC
    go_wp2_with fail
    go_ret
    exact ⟨⟨fun q=>absurd q HNo.out,fun _=>rfl⟩,HW2.out⟩
  ·have j1:¬(k:Int)<3:=by omega
   have hk3:k=3:=by omega
   subst hk3
   clear hX
   go_wp2_with fail
   go_ret
   refine ⟨⟨fun _=>?_,fun q=>absurd HOk.out q⟩,HW.out⟩
   obtain ⟨c,O,h1,h2⟩:=HN.out.done
   exact ⟨p,b,m,c,O,rfl,h1,h2⟩
theorem world_tlv {w0 w:World} {Z:Nat->Prop} {p b m:Nat} {c:Nat->Nat} {ws:Nat->Int} {T:Twn} (h:TLv w0 Z w p b m c ws T):Calls Tryz.prog 77 #[.pointer (some ⟨p,0,none⟩)] w fun e w'=>e=.returned (wldV (valT T))∧Below w.heap.size w w':=by
 obtain ⟨O,h1,_⟩:=h.lv.inn
 exact tworld_any h1
theorem serial_tlv {w0 w:World} {Z:Nat->Prop} {p b m:Nat} {c:Nat->Nat} {ws:Nat->Int} {T:Twn} (h:TLv w0 Z w p b m c ws T):Calls Tryz.prog 78 #[.pointer (some ⟨p,0,none⟩)] w fun e w'=>e=.returned (.tuple #[wldV (curR ws T),.int .i64 0])∧Below w.heap.size w w':=by
 obtain ⟨O,h1,_⟩:=h.lv.inn
 exact tserial_any h1 h.full
theorem mail_tlv {w0 w:World} {Z:Nat->Prop} {p b m:Nat} {c:Nat->Nat} {ws:Nat->Int} {T:Twn} (h:TLv w0 Z w p b m c ws T):Calls Tryz.prog 81 #[.pointer (some ⟨p,0,none⟩)] w fun e w'=>(∃ga cap,e=.returned (.slice ga T.M.length cap)∧MailsAt w' ga T.M∧(∀a,ga=some a->w.heap.size<=a.block∧a.block<w'.heap.size)∧T.M.length<=cap)∧Below w.heap.size w w':=by
 obtain ⟨O,h1,_⟩:=h.lv.inn
 exact tmail_any h1 h.rdy.ml
theorem clerk_tlv {w0 w:World} {Z:Nat->Prop} {p b m:Nat} {c:Nat->Nat} {ws:Nat->Int} {T:Twn} (s:Int) (h:TLv w0 Z w p b m c ws T):Calls Tryz.prog 116 #[.pointer (some ⟨p,0,none⟩),.int .i64 s] w fun e w'=>e=.returned (.pointer (clkP c s))∧w'=w:=by
 obtain ⟨O,h1,_⟩:=h.lv.inn
 exact tclerk_any s h1
theorem new_tlv {ws:Nat->Int} (hok:∀s:Nat,s<3->newOk (s:Int) ws=true) (w:World):Calls Tryz.prog 12 #[wldV ws] w fun e w'=>∃p b m c,e=.returned (.pointer (some ⟨p,0,none⟩))∧TLv w (fun k=>k∈([]:List Nat)) w' p b m c ws (T00 ws):=by
 refine (tnew_any ws w).mono ?_
 rintro e w' ⟨h,hb⟩
 obtain ⟨p,b,m,c,O,he,hI,hO⟩:=h.1 hok
 exact ⟨p,b,m,c,he,Lv.new hI hO hb,full_new hok,hok⟩
theorem due_tlv {w0 w:World} {Z:Nat->Prop} {p b m:Nat} {c:Nat->Nat} {ws:Nat->Int} {T:Twn} (h:TLv w0 Z w p b m c ws T):Calls Tryz.prog 82 #[.pointer (some ⟨b,0,none⟩)] w fun e w'=>(∃v,e=.returned v∧w'.ownsRow w.heap.size 142 6 v (dueR T.B).length (flat6 (dueR T.B)))∧Below w.heap.size w w':=by
 obtain ⟨O,h1,_⟩:=h.lv.inn
 obtain ⟨Ob,h2,_⟩:=h1.brk
 exact rdue_any Ob T.B b w h2 h.full.brk
theorem done_tlv {w0 w:World} {Z:Nat->Prop} {p b m:Nat} {c:Nat->Nat} {ws:Nat->Int} {T:Twn} (h:TLv w0 Z w p b m c ws T):Calls Tryz.prog 79 #[.pointer (some ⟨b,0,none⟩)] w fun e w'=>(∃v,e=.returned v∧w'.ownsRow w.heap.size 3 1 v T.B.ord.length (T.B.ord.map (Value.int .i64)))∧Below w.heap.size w w':=by
 obtain ⟨O,h1,_⟩:=h.lv.inn
 obtain ⟨Ob,h2,_⟩:=h1.brk
 exact rdone_any Ob T.B b w h2 (by have:=h.full.brk.ordLen;omega)
theorem state_tlv {w0 w:World} {Z:Nat->Prop} {p b m:Nat} {c:Nat->Nat} {ws:Nat->Int} {T:Twn} (n:Int) (h:TLv w0 Z w p b m c ws T):Calls Tryz.prog 83 #[.pointer (some ⟨b,0,none⟩),.int .i64 n] w fun e w'=>e=.returned (.int .i64 (stR T.B n))∧w'=w:=by
 obtain ⟨O,h1,_⟩:=h.lv.inn
 obtain ⟨Ob,h2,_⟩:=h1.brk
 exact rstate_any Ob T.B b n w h2 h.full.brk.len
theorem shop_tlv {w0 w:World} {Z:Nat->Prop} {p b m:Nat} {c:Nat->Nat} {ws:Nat->Int} {T:Twn} (h:TLv w0 Z w p b m c ws T) {s:Nat} (hs:s<3):∃q r,w.cell? ⟨c s,0,none⟩=some (.pointer (some ⟨q,0,none⟩))∧w.cell? ⟨q,0,none⟩=some (.pointer (some ⟨r,0,none⟩))∧c s<w.heap.size∧q<w.heap.size∧∀W:World,Below w.heap.size w W->
 (Calls Tryz.prog 108 #[.pointer (some ⟨r,0,none⟩)] W fun e w'=>e=.returned (cntV (cnt6 (T.P s).A))∧Below W.heap.size W w')∧
 (Calls Tryz.prog 117 #[.pointer (some ⟨r,0,none⟩)] W fun e w'=>(∃ga cap,e=.returned (.slice ga (T.P s).A.hs.length cap)∧HoldsAt w' ga (T.P s).A.hs∧(∀a,ga=some a->W.heap.size<=a.block∧a.block<w'.heap.size))∧Below W.heap.size W w'):=by
 obtain ⟨O,h1,_⟩:=h.lv.inn
 obtain ⟨q,r,Ok,Os,c0,c1,l0,l1,hS,hK⟩:=h1.shop hs
 have hl:=(h.rdy.shop s hs).2.2.2.1
 exact ⟨q,r,c0,c1,l0,l1,fun W hW=>⟨scounts_any Os _ r W (hS.next hW),sholds_any Os _ r W (hS.next hW) (by omega)⟩⟩
end Go.Proofs.YtbgnajcmhmpjlacGreatDoor
