/- The document's desk tells, and its Market steps. -/
import Derived.Test.YtbgnajcmhmpjlacGreatDoorB7
import Derived.Test.YtbgnajcmhmpjlacGreatDoorB0
set_option maxRecDepth 100000
set_option maxHeartbeats 100000000
namespace Go.Proofs.YtbgnajcmhmpjlacGreatDoor
open Go.RowKit
structure BxIn (r mk:Nat) (l:List UInt8) (O:Nat->Prop) (w:World):Prop where
 own:∀k,O k->k<w.heap.size
 mine:O r
 raw:w.heap[r]?=some (bxO mk l)
theorem bx_stands (r mk:Nat) (l:List UInt8):Stands (BxIn r mk l):=⟨fun h=>h.own,fun h hb hn=>⟨fun k hk=>Nat.lt_of_lt_of_le (h.own k hk) hb.size,h.mine,(hb.block r (h.own r h.mine) (hn r h.mine)).trans h.raw⟩⟩
def EkIn (r mk:Nat) (ws:Nat->Int) (l:List UInt8) (T:Twn) (O:Nat->Prop) (w:World):Prop:=Pr (BxIn r mk l) (MkIn mk ws T) O w
theorem ek_stands (r mk:Nat) (ws:Nat->Int) (l:List UInt8) (T:Twn):Stands (EkIn r mk ws l T):=pr_stands (bx_stands ..) (mk_stands ..)
structure ELv (w0:World) (Z:Nat->Prop) (w:World) (r mk:Nat) (ws:Nat->Int) (l:List UInt8) (T:Twn):Prop where
 lv:Lv (EkIn r mk ws l T) w0 Z w
 full:DFull ws T
 ok:OkT ws
theorem ELv.next {w0 w w1:World} {Z:Nat->Prop} {r mk:Nat} {ws:Nat->Int} {l:List UInt8} {T:Twn} (h:ELv w0 Z w r mk ws l T) (hb:Below w.heap.size w w1):ELv w0 Z w1 r mk ws l T:=⟨h.lv.next (ek_stands ..) hb,h.full,h.ok⟩
theorem ELv.more {w0 w w1:World} {Z Z':Nat->Prop} {r mk:Nat} {ws:Nat->Int} {l:List UInt8} {T:Twn} (h:ELv w0 Z w r mk ws l T) (hb:Below w.heap.size w w1) (hZ:∀k,Z' k->Z k∨(w.heap.size<=k∧k<w1.heap.size)):ELv w0 Z' w1 r mk ws l T:=⟨h.lv.more (ek_stands ..) hb hZ,h.full,h.ok⟩
theorem ELv.less {w0 w:World} {Z Z':Nat->Prop} {r mk:Nat} {ws:Nat->Int} {l:List UInt8} {T:Twn} (h:ELv w0 Z w r mk ws l T) (hZ:∀k,Z' k->Z k):ELv w0 Z' w r mk ws l T:=⟨h.lv.less hZ,h.full,h.ok⟩
theorem ELv.below {w0 w:World} {Z:Nat->Prop} {r mk:Nat} {ws:Nat->Int} {l:List UInt8} {T:Twn} (h:ELv w0 Z w r mk ws l T):Below w0.heap.size w0 w:=h.lv.below
theorem ELv.bx {w0 w:World} {Z:Nat->Prop} {r mk:Nat} {ws:Nat->Int} {l:List UInt8} {T:Twn} (h:ELv w0 Z w r mk ws l T):w.heap[r]?=some (bxO mk l)∧w0.heap.size<=r∧¬Z r∧∀w' l',w'.heap[r]?=some (bxO mk l')->Save (fun k=>k=r) w w'->ELv w0 Z w' r mk ws l' T∧Save (fun k=>¬Z k) w w':=by
 obtain ⟨O,h1,h2⟩:=h.lv.inn
 obtain ⟨OA,a1,a2,a3⟩:=Pr.left (bx_stands r mk l) (mk_stands mk ws T) h1
 refine ⟨a1.raw,(h2 r (a2 r a1.mine)).1,(h2 r (a2 r a1.mine)).2,fun w' l' hr hs=>?_⟩
 obtain ⟨k1,k2⟩:=h.lv.step h2 (a3 w' _ (bx_stands r mk l') ⟨OA,⟨fun k hk=>Nat.lt_of_lt_of_le (a1.own k hk) hs.size,a1.mine,hr⟩,hs.mono (fun j _ e=>by rw [e];exact a1.mine),.refl _ _⟩)
 exact ⟨⟨k1,h.full,h.ok⟩,k2⟩
theorem Pr.right2 {A B:(Nat->Prop)->World->Prop} (hA:Stands A) {O:Nat->Prop} {w:World} (h:Pr A B O w):∃OA OB,A OA w∧B OB w∧(∀k,OA k->O k)∧(∀k,OA k->OB k->False)∧∀(w':World) (B':(Nat->Prop)->World->Prop),Stands B'->To B' OB w w'->To (Pr A B') O w w':=by
 obtain ⟨Q,h1,h2,h3⟩:=h.raw
 have x0:A (Q 0) w:=h1 0 (by omega)
 have x1:B (Q 1) w:=h1 1 (by omega)
 have dj:∀k,Q 0 k->Q 1 k->False:=fun k a b=>h3 0 1 (by omega) (by omega) (by omega) k a b
 refine ⟨Q 0,Q 1,x0,x1,h2 0 (by omega),dj,fun w' B' hB' ⟨O1,b1,b2,b3⟩=>?_⟩
 have dj2:∀k,Q 0 k->O1 k->False:=fun k a b=>(b3 k b).elim (dj k a) (fun q=>by have:=h.own k (h2 0 (by omega) k a);omega)
 refine ⟨fun k=>O k∨O1 k,⟨fun k hk=>hk.elim (fun q=>Nat.lt_of_lt_of_le (h.own k q) b2.size) (hB'.own b1 k),fun i=>if i=0 then Q 0 else O1,fun i hi=>?_,fun i hi k hk=>?_,fun i j hi hj hij k hk hk'=>?_⟩,b2.mono (fun j _ hj=>h2 1 (by omega) j hj),fun k hk=>?_⟩
 ·match i,hi with
  | 0,_=>exact hA.save x0 b2 (fun k a b=>dj k a b)
  | 1,_=>exact b1
 ·match i,hi,hk with
  | 0,_,hk=>exact .inl (h2 0 (by omega) k hk)
  | 1,_,hk=>exact .inr hk
 ·match i,hi,j,hj,hij,hk,hk' with
  | 0,_,1,_,_,hk,hk'=>exact dj2 k hk hk'
  | 1,_,0,_,_,hk,hk'=>exact dj2 k hk' hk
  | 0,_,0,_,hij,_,_=>exact hij rfl
  | 1,_,1,_,hij,_,_=>exact hij rfl
 ·exact hk.elim .inl (fun q=>(b3 k q).imp (fun a=>h2 1 (by omega) k a) id)
theorem ELv.mkt {w0 w:World} {Z:Nat->Prop} {r mk:Nat} {ws:Nat->Int} {l:List UInt8} {T:Twn} (h:ELv w0 Z w r mk ws l T):∃O,MkIn mk ws T O w∧(∀k,O k->k ≠ r)∧∀w' T',DFull ws T'->To (MkIn mk ws T') O w w'->ELv w0 Z w' r mk ws l T'∧Save (fun k=>¬Z k) w w':=by
 obtain ⟨O,h1,h2⟩:=h.lv.inn
 obtain ⟨OA,OB,x0,x1,x2,x3,x4⟩:=Pr.right2 (bx_stands r mk l) h1
 refine ⟨OB,x1,fun k hk e=>x3 k (by rw [e];exact x0.mine) hk,fun w' T' hF ht=>?_⟩
 obtain ⟨k1,k2⟩:=h.lv.step h2 (x4 w' _ (mk_stands mk ws T') ht)
 exact ⟨⟨k1,hF,h.ok⟩,k2⟩
theorem enew_elv (w:World):Calls Tryz.prog 8 #[] w fun e w'=>∃r mk,e=.returned (.pointer (some ⟨r,0,none⟩))∧ELv w (fun k=>k∈([]:List Nat)) w' r mk w50 [] (T00 w50):=by
 go_enter Tryz.func8,Tryz.ntmps8
 go_wp2_with fail
 go_loopg [2] 6 (fun g i wr=>∃k:Nat,k<=6∧g=6 - k∧i=.int .i64 k∧NSt w.heap.size w k wr)
 case atStart=>
  refine ⟨0,by omega,rfl,rfl,fun j hj=>?_,by simp [go_sem],by go_grown,by simp⟩
  have:j=0∨j=1∨j=2∨j=3∨j=4∨j=5:=by omega
  rcases this with rfl | rfl | rfl | rfl | rfl | rfl <;> simp [go_sem]
 case round=>
  obtain ⟨k,hk,rfl,rfl,hN⟩:=hrel
  have HN:=hid hN
  by_cases hlt:k<6
  ·have r0:=hN.row k hlt
   have f0:=hN.f0 k
   have j0:(0:Int)<=(k:Int):=by omega
   have j1:(k:Int)<6:=by omega
   clear hN
   go_wp2_with fail
   go_roundg (6 - (k+1))
   case measure=>omega
   case rel=>exact ⟨k+1,by omega,rfl,by simp,HN.out.set⟩
  ·obtain rfl:k=6:=by omega
   have r0:wr.cell? ⟨w.heap.size,0,none⟩=some (.int .i64 50):=hN.row 0 (by omega)
   have r1:wr.cell? ⟨w.heap.size,1,none⟩=some (.int .i64 50):=hN.row 1 (by omega)
   have r2:wr.cell? ⟨w.heap.size,2,none⟩=some (.int .i64 50):=hN.row 2 (by omega)
   have r3:wr.cell? ⟨w.heap.size,3,none⟩=some (.int .i64 50):=hN.row 3 (by omega)
   have r4:wr.cell? ⟨w.heap.size,4,none⟩=some (.int .i64 50):=hN.row 4 (by omega)
   have r5:wr.cell? ⟨w.heap.size,5,none⟩=some (.int .i64 50):=hN.row 5 (by omega)
   have HC:Calls Tryz.prog 13 #[.agg #[.int .i64 50,.int .i64 50,.int .i64 50,.int .i64 50,.int .i64 50,.int .i64 50]] wr fun e w'=>∃pm,e=.returned (.pointer (some ⟨pm,0,none⟩))∧Lv (MkIn pm w50 (T00 w50)) wr (fun k=>k∈([]:List Nat)) w'∧Below wr.heap.size wr w':=mnew_lv ok50 wr
   clear hN
   go_wp2_with (go_at_call 13;refine Calls.mono HC ?_;rintro e w1 ⟨mk,rfl,hT,_⟩;have HT:=hid hT;clear hT)
   go_ret
   have hb2:Below w1.heap.size w1 (w1.alloc (bxO mk [])):=by go_grown
   have hA:BxIn w1.heap.size mk [] (fun k=>k=w1.heap.size) (w1.alloc (bxO mk [])):=⟨fun k hk=>by subst hk;simp,rfl,heap_alloc_new w1 _⟩
   refine ⟨w1.heap.size,mk,rfl,⟨?_,dfull_new,ok50⟩⟩
   exact Pr.new2 (bx_stands ..) (mk_stands ..) (Lv.since HN.out.below HT.out) hb2 hA (fun k hk=>by subst hk;exact Nat.le_refl _)
def isB (wd:ByteArray) (m:Nat) (x:ByteArray) (many:Int):Bool:=(wd.toList == x.toList) && decide ((m:Int)=many)
theorem eis_any {w:World} {lb nb bl ol n m lc nc:Nat} {na:Option Addr} {wd:ByteArray} (hl:w.cell? ⟨lb,0,none⟩=some (.slice (some ⟨bl,ol,none⟩) (n+1) lc)) (h0:w.cell? ⟨bl,ol,none⟩=some (.string wd)) (hn:w.cell? ⟨nb,0,none⟩=some (.slice na m nc)) (x:ByteArray) (many:Int):
 Calls Tryz.prog 36 #[.string x,.int .i64 many,.pointer (some ⟨lb,0,none⟩),.pointer (some ⟨nb,0,none⟩)] w fun e w'=>e=.returned (.bool (isB wd m x many))∧w'=w:=by
 have j0:(0:Int)<(n:Int)+1:=by omega
 by_cases h1:(wd.toList == x.toList)=true
 ·by_cases h2:(m:Int)=many
  ·have HE:Hid (isB wd m x many=true):=by show isB wd m x many=true;unfold isB;rw [h1,h2];simp
   go_enter Tryz.func36,Tryz.ntmps36
   go_wp2_with fail
   go_ret
   exact ⟨by rw [HE.out];rfl,rfl⟩
  ·have HE:Hid (isB wd m x many=false):=by show isB wd m x many=false;unfold isB;simp [h2]
   have h2':((m:Int) == many)=false:=by simpa using h2
   clear h2
   go_enter Tryz.func36,Tryz.ntmps36
   go_wp2_with fail
   go_ret
   exact ⟨by rw [HE.out];rfl,rfl⟩
 ·have h1':(wd.toList == x.toList)=false:=by simpa using h1
  have HE:Hid (isB wd m x many=false):=by show isB wd m x many=false;unfold isB;rw [h1'];rfl
  clear h1
  go_enter Tryz.func36,Tryz.ntmps36
  go_wp2_with fail
  go_ret
  exact ⟨by rw [HE.out];rfl,rfl⟩
structure LSt (w:World) (Bl Bn:Nat) (ga:Option Addr) (n cap:Nat) (xs:List ByteArray) (k:Nat) (ns:List Int) (v:Value) (wr:World):Prop where
 bw:Below w.heap.size w wr
 lo:w.heap.size<=Bl
 ln:Bl<Bn
 lt:Bn<wr.heap.size
 cl:wr.cell? ⟨Bl,0,none⟩=some (.slice ga n cap)
 cn:wr.cell? ⟨Bn,0,none⟩=some v
 fz:wr.frozen? ⟨Bn,0,none⟩=false
 st:StrsAt wr ga xs
 sb:∀a,ga=some a->a.block<Bl
 row:wr.ownsRow (Bn+1) 3 1 v k (ns.map (Value.int .i64))
theorem LSt.next {w:World} {Bl Bn n cap k:Nat} {ga:Option Addr} {xs:List ByteArray} {ns:List Int} {v:Value} {wr w':World} (h:LSt w Bl Bn ga n cap xs k ns v wr) (hb:Below wr.heap.size wr w'):LSt w Bl Bn ga n cap xs k ns v w':=by
 have h1:=h.lt
 have h2:=h.ln
 exact ⟨after h.bw hb h.bw.size,h.lo,h.ln,Nat.lt_of_lt_of_le h.lt hb.size,((bcell hb).1 _ _ (by show Bl<_;omega)).trans h.cl,((bcell hb).1 _ _ h.lt).trans h.cn,((bcell hb).2 _ _ h.lt).trans h.fz,h.st.below hb,h.sb,own_next h.row hb⟩
theorem LSt.put {w:World} {Bl Bn n cap k k':Nat} {ga:Option Addr} {xs:List ByteArray} {ns ns':List Int} {v v':Value} {wr w':World} (h:LSt w Bl Bn ga n cap xs k ns v wr) (hb:Below (Bn+1) wr w') (hr:w'.ownsRow (Bn+1) 3 1 v' k' (ns'.map (Value.int .i64))):LSt w Bl Bn ga n cap xs k' ns' v' (w'.setCell ⟨Bn,0,none⟩ v'):=by
 have h1:=h.lt
 have h2:=h.ln
 have h3:=h.lo
 have c0:w'.cell? ⟨Bn,0,none⟩=some v:=(hb.cell (p:=⟨Bn,0,none⟩) (by show Bn<_;omega)).trans h.cn
 refine ⟨(h.bw.trans (hb.mono (by omega))).setCell (by show _<=Bn;omega) _,h.lo,h.ln,by simpa using Nat.lt_of_lt_of_le h.lt hb.size,?_,World.cell?_setCell_same _ _ _ c0,?_,?_,h.sb,?_⟩
 ·rw [World.cell?_setCell_other _ _ _ _ (by intro e;simp only [Addr.mk.injEq] at e;omega)]
  exact (hb.cell (p:=⟨Bl,0,none⟩) (by show Bl<_;omega)).trans h.cl
 ·rw [show (w'.setCell ⟨Bn,0,none⟩ v').frozen? ⟨Bn,0,none⟩=w'.frozen? ⟨Bn,0,none⟩ by simp [go_sem]]
  exact (hb.frozen (p:=⟨Bn,0,none⟩) (by show Bn<_;omega)).trans h.fz
 ·intro j x hj
  obtain ⟨b,o,e,hb1,hc⟩:=h.st j x hj
  have hbl:=h.sb _ e
  refine ⟨b,o,e,by simpa using Nat.lt_of_lt_of_le hb1 hb.size,?_⟩
  rw [World.cell?_setCell_other _ _ _ _ (by intro e';simp only [Addr.mk.injEq] at e';simp only at hbl;omega)]
  exact (hb.cell (p:=⟨b,o+j,none⟩) (by simp only at hbl;show b<_;omega)).trans hc
 ·exact ownsRow_setCell_below hr (Nat.lt_succ_self Bn) _
theorem esay_elv {w0 w:World} {Z:Nat->Prop} {r mk:Nat} {ws:Nat->Int} {l:List UInt8} {T:Twn} (x:List UInt8) (h:ELv w0 Z w r mk ws l T) (hx:x.length<=1000) (hR:Room (l.length+2000)):
 Calls Tryz.prog 35 #[.pointer (some ⟨r,0,none⟩),.string (bs x)] w fun e w'=>e=.returned (.tuple #[])∧ELv w0 Z w' r mk ws (l++(x++[10])) T∧Save (fun k=>¬Z k) w w':=by
 obtain ⟨h1,_,_,h4⟩:=h.bx
 refine (esay_any x h1 (hR.le (by omega))).mono ?_
 rintro e w' ⟨rfl,k1,k2⟩
 rw [List.append_assoc] at k1
 exact ⟨rfl,h4 w' _ k1 k2⟩
theorem esay_elv2 {w0 w:World} {Z:Nat->Prop} {r mk:Nat} {ws:Nat->Int} {l:List UInt8} {T:Twn} (x:List UInt8) (h:ELv w0 Z w r mk ws l T) (hx:x.length<=1000) (hR:Room (l.length+2000)):
 Calls Tryz.prog 35 #[.pointer (some ⟨r,0,none⟩),.string (bs x)] w fun e w'=>e=.returned (.tuple #[])∧ELv w0 Z w' r mk ws (l++(x++[10])) T∧Save (fun k=>¬Z k) w w'∧Save (fun k=>k=r) w w':=by
 obtain ⟨h1,_,_,h4⟩:=h.bx
 refine (esay_any x h1 (hR.le (by omega))).mono ?_
 rintro e w' ⟨rfl,k1,k2⟩
 rw [List.append_assoc] at k1
 exact ⟨rfl,(h4 w' _ k1 k2).1,(h4 w' _ k1 k2).2,k2⟩
theorem elist_elv {w0 w:World} {Z:Nat->Prop} {r mk:Nat} {ws:Nat->Int} {l:List UInt8} {T:Twn} (x:List UInt8) (ns:List Int) {la:Option Addr} {lc:Nat} (ht:Tied w0) (h:ELv w0 Z w r mk ws l T) (hn:NumsAt w la ns) (hs:∀n∈ns,Sm n) (hl:ns.length<100) (hx:x.length<100) (hR:Room (l.length+2000)):
 Calls Tryz.prog 40 #[.pointer (some ⟨r,0,none⟩),.string (bs x),.slice la ns.length lc] w fun e w'=>e=.returned (.tuple #[])∧ELv w0 Z w' r mk ws (l++sayN x ns) T∧Save (fun k=>¬Z k) w w'∧Save (fun k=>k=r) w w':=by
 obtain ⟨h1,_,_,h4⟩:=h.bx
 refine (elist_any x ns (ht.below h.below) h1 hn hs hl hx hR).mono ?_
 rintro e w' ⟨rfl,k1,k2⟩
 exact ⟨rfl,(h4 w' _ k1 k2).1,(h4 w' _ k1 k2).2,k2⟩
theorem emails_elv {w0 w:World} {Z:Nat->Prop} {r mk:Nat} {ws:Nat->Int} {l:List UInt8} {T:Twn} (ms:List Ml) {ga:Option Addr} {gc:Nat} (ht:Tied w0) (h:ELv w0 Z w r mk ws l T) (hm:MailsAt w ga ms) (hz:∀a,ga=some a->a.block ≠ r) (hs:∀x∈ms,MTell x) (hl:ms.length<=40) (hR:Room (l.length+5000)):
 Calls Tryz.prog 43 #[.pointer (some ⟨r,0,none⟩),.slice ga ms.length gc] w fun e w'=>e=.returned (.tuple #[])∧ELv w0 Z w' r mk ws (l++sayMails ms) T∧Save (fun k=>¬Z k) w w':=by
 obtain ⟨h1,h2,_,h4⟩:=h.bx
 refine (emails_any ms h1 hm hz hs hl hR (fun W hW=>ht.below (h.below.trans (hW.below (fun k hk e=>by omega) h.below.size)))).mono ?_
 rintro e w' ⟨rfl,k1,k2⟩
 exact ⟨rfl,h4 w' _ k1 k2⟩
theorem estep_elv {w0 w:World} {Z:Nat->Prop} {r mk:Nat} {ws:Nat->Int} {l:List UInt8} {T:Twn} (x:TSp) {sa:Option Addr} {sc:Nat} (h:ELv w0 Z w r mk ws l T) (hx:WantsAt w sa x.w):
 Calls Tryz.prog 37 #[.pointer (some ⟨mk,0,none⟩),.agg #[.int .i64 x.kind,.int .i64 x.n,.slice sa x.w.length sc]] w fun e w'=>e=.returned (.int .i64 (townR T x).1)∧ELv w0 Z w' r mk ws l (townR T x).2∧Save (fun k=>¬Z k) w w':=by
 obtain ⟨O,h1,_,h3⟩:=h.mkt
 refine (mstep_any x h1 (h.full.full.rdy h.ok) hx).mono ?_
 rintro e w' ⟨rfl,k1⟩
 exact ⟨rfl,h3 w' _ (h.full.step x) k1⟩
theorem ecalm_elv {w0 w:World} {Z:Nat->Prop} {r mk:Nat} {ws:Nat->Int} {l:List UInt8} {T:Twn} (h:ELv w0 Z w r mk ws l T):
 Calls Tryz.prog 38 #[.pointer (some ⟨mk,0,none⟩)] w fun e w'=>e=.returned (.int .i64 ((calmR 20 0 T).1:Int))∧ELv w0 Z w' r mk ws l (calmR 20 0 T).2∧Save (fun k=>¬Z k) w w':=by
 obtain ⟨O,h1,_,h3⟩:=h.mkt
 refine (mcalm_any h1 h.full.full h.ok).mono ?_
 rintro e w' ⟨rfl,k1⟩
 exact ⟨rfl,h3 w' _ h.full.calm k1⟩
theorem isB_eq (wd:ByteArray) (m:Nat) (x:ByteArray) (many:Int):isB wd m x many=((wd.data.toList == x.data.toList) && decide ((m:Int)=many)):=by
 unfold isB
 rw [ByteArray.toList_eq,ByteArray.toList_eq]
theorem isB_no {wd:ByteArray} {m:Nat} {x:ByteArray} {n:Nat} (h:¬(wd=x∧m=n)):isB wd m x (n:Int)=false:=by
 rw [isB_eq,Bool.and_eq_false_iff]
 by_cases e:m=n
 ·refine .inl (beq_eq_false_iff_ne.2 (fun e'=>h ⟨?_,e⟩))
  rw [ba_eq e']
 ·exact .inr (decide_eq_false (fun e'=>e (by omega)))
theorem MkIn.bagc2 {p:Nat} {ws:Nat->Int} {T:Twn} {O:Nat->Prop} {w:World} (h:MkIn p ws T O w):∃ga cap,w.cell? ⟨p,11,none⟩=some (.slice ga T.M.length cap)∧MailsAt w ga T.M∧∀a,ga=some a->O a.block:=by
 obtain ⟨OM,hM,hO,_⟩:=h.bag
 obtain ⟨mv,h1,h2,h4⟩:=hM.raw
 obtain ⟨ga,cap,rfl,h3,_⟩:=mails_of_own h2
 exact ⟨ga,cap,h1,h3,fun a ha=>hO _ (h4 a.block (by rw [ha];rfl))⟩
structure XSt (W:World) (Bx:Nat) (v:Value) (k:Nat) (ps:List (Int × Int)) (wr:World):Prop where
 bw:Below Bx W wr
 lt:Bx<wr.heap.size
 c0:wr.cell? ⟨Bx,0,none⟩=some (.int .i64 1)
 c1:wr.cell? ⟨Bx,1,none⟩=some (.int .i64 0)
 c2:wr.cell? ⟨Bx,2,none⟩=some v
 fz:∀j,wr.frozen? ⟨Bx,j,none⟩=false
 row:wr.ownsRow (Bx+1) 97 2 v k (flat ps)
theorem XSt.put {W:World} {Bx:Nat} {v v':Value} {k k':Nat} {ps ps':List (Int × Int)} {wr w':World} (h:XSt W Bx v k ps wr) (hb:Below (Bx+1) wr w') (hr:w'.ownsRow (Bx+1) 97 2 v' k' (flat ps')):XSt W Bx v' k' ps' (w'.setCell ⟨Bx,2,none⟩ v'):=by
 have e:∀j,w'.cell? ⟨Bx,j,none⟩=wr.cell? ⟨Bx,j,none⟩:=fun j=>hb.cell (p:=⟨Bx,j,none⟩) (Nat.lt_succ_self Bx)
 have o:∀j v0,j ≠ 2->wr.cell? ⟨Bx,j,none⟩=some v0->(w'.setCell ⟨Bx,2,none⟩ v').cell? ⟨Bx,j,none⟩=some v0:=fun j v0 hj hc=>by
  rw [World.cell?_setCell_other _ _ _ _ (by intro e;simp only [Addr.mk.injEq] at e;omega),e j]
  exact hc
 refine ⟨(h.bw.trans (hb.mono (by omega))).setCell (Nat.le_refl _) _,by simpa using Nat.lt_of_lt_of_le h.lt hb.size,o 0 _ (by omega) h.c0,o 1 _ (by omega) h.c1,World.cell?_setCell_same _ _ _ ((e 2).trans h.c2),fun j=>?_,ownsRow_setCell_below hr (Nat.lt_succ_self Bx) _⟩
 rw [show (w'.setCell ⟨Bx,2,none⟩ v').frozen? ⟨Bx,j,none⟩=w'.frozen? ⟨Bx,j,none⟩ by simp [go_sem]]
 exact (hb.frozen (p:=⟨Bx,j,none⟩) (Nat.lt_succ_self Bx)).trans (h.fz j)
structure HSt (r q qb:Nat) (ga:Option Addr) (cap:Nat) (hs:List H3) (wr:World):Prop where
 lq:q<wr.heap.size
 lb:qb<wr.heap.size
 nq:q ≠ r
 nb:qb ≠ r
 ng:∀a,ga=some a->a.block ≠ r
 c0:wr.cell? ⟨q,0,none⟩=some (.pointer (some ⟨qb,0,none⟩))
 c3:wr.cell? ⟨qb,3,none⟩=some (.slice ga hs.length cap)
 hat:HoldsAt wr ga hs
theorem HSt.save {r q qb cap:Nat} {ga:Option Addr} {hs:List H3} {wr w':World} (h:HSt r q qb ga cap hs wr) (hb:Save (fun k=>k=r) wr w'):HSt r q qb ga cap hs w':=by
 refine ⟨Nat.lt_of_lt_of_le h.lq hb.size,Nat.lt_of_lt_of_le h.lb hb.size,h.nq,h.nb,h.ng,(hb.cell (p:=⟨q,0,none⟩) h.lq h.nq).trans h.c0,(hb.cell (p:=⟨qb,3,none⟩) h.lb h.nb).trans h.c3,?_⟩
 intro k a c d hk
 obtain ⟨b,off,e,hlt,h0,h1,h2⟩:=h.hat k a c d hk
 have hn:b ≠ r:=h.ng _ e
 have hc:∀o,w'.cell? ⟨b,o,none⟩=wr.cell? ⟨b,o,none⟩:=fun o=>hb.cell (p:=⟨b,o,none⟩) hlt hn
 exact ⟨b,off,e,Nat.lt_of_lt_of_le hlt hb.size,(hc _).trans h0,(hc _).trans h1,(hc _).trans h2⟩
theorem HSt.next {r q qb cap:Nat} {ga:Option Addr} {hs:List H3} {wr w':World} (h:HSt r q qb ga cap hs wr) (hb:Below wr.heap.size wr w'):HSt r q qb ga cap hs w':=h.save (Save.of_below hb)
theorem ELv.pen {w0 w:World} {Z:Nat->Prop} {r mk:Nat} {ws:Nat->Int} {l:List UInt8} {T:Twn} (h:ELv w0 Z w r mk ws l T) {s:Nat} (hs:s<3):∃q qb ga cap,w.cell? ⟨mk,8+s,none⟩=some (.pointer (some ⟨q,0,none⟩))∧HSt r q qb ga cap (T.P s).A.hs w∧∀W,Below w.heap.size w W->Calls Tryz.prog 45 #[.pointer (some ⟨qb,0,none⟩)] W fun e w'=>e=.returned (cntV (cnt6 (T.P s).A))∧Below W.heap.size W w':=by
 obtain ⟨O,h1,h2,_⟩:=h.mkt
 obtain ⟨OP,q,p1,p2,p3,_,_⟩:=h1.pen hs
 obtain ⟨Os,qb,rv,b1,b2,b3,_,_,_⟩:=p2.raw
 obtain ⟨hv,ov,dv,r1,r2,_,_,r5,_⟩:=b2.raw
 obtain ⟨ga,cap,rfl,ha,_⟩:=holds_of_own r2
 have hG:=h.full.full.shop hs
 exact ⟨q,qb,ga,cap,p1,⟨b1.lt,r1.lt,h2 _ (p3 _ p2.mine),h2 _ (p3 _ (b3 _ b2.mine)),fun a e=>h2 _ (p3 _ (b3 _ (r5 _ (by rw [e];rfl)))),b1.c0,r1.c3,ha⟩,fun W hW=>bcounts_any Os (T.P s).A qb W (b2.next hW) hG.2.1 (by have:=hG.2.2.2.1;omega)⟩
theorem three_elv {w0 w W:World} {Z:Nat->Prop} {r mk g:Nat} {ws:Nat->Int} {l:List UInt8} {T:Twn} (x:List UInt8) (n0 n1 n2:Int) (ht:Tied w0) (h:ELv w0 Z w r mk ws l T) (hW:Below w.heap.size w W) (hg:g<W.heap.size) (a0:W.cell? ⟨g,0,none⟩=some (.int .i64 n0)) (a1:W.cell? ⟨g,1,none⟩=some (.int .i64 n1)) (a2:W.cell? ⟨g,2,none⟩=some (.int .i64 n2)) (hx:x.length<100) (m0:Sm n0) (m1:Sm n1) (m2:Sm n2) (hR:Room (l.length+2000)):
 Calls Tryz.prog 40 #[.pointer (some ⟨r,0,none⟩),.string (bs x),.slice (some ⟨g,0,none⟩) 3 3] W fun e w'=>e=.returned (.tuple #[])∧ELv w0 Z w' r mk ws (l++sayN x [n0,n1,n2]) T∧Save (fun k=>¬Z k) w w'∧Save (fun k=>k=r) w w':=by
 refine (elist_elv x [n0,n1,n2] (lc:=3) ht (h.next hW) (nums_row hg (fun k n hk=>?_)) (fun n hn=>?_) (by simp) hx hR).mono ?_
 ·match k,hk with
  | 0,hk=>simp at hk;subst hk;exact a0
  | 1,hk=>simp at hk;subst hk;exact a1
  | 2,hk=>simp at hk;subst hk;exact a2
  | k+3,hk=>simp at hk
 ·simp only [List.mem_cons,List.mem_nil_iff,or_false] at hn
  rcases hn with e | e | e <;> rw [e]
  ·exact m0
  ·exact m1
  ·exact m2
 ·rintro e w' ⟨rfl,k1,k2,k3⟩
  exact ⟨rfl,k1,(Save.of_below hW).trans k2 (fun _ _ hj=>hj),(Save.of_below hW).trans k3 (fun _ _ hj=>hj)⟩
theorem sayN_one (w:List UInt8) (n:Int):sayN w [n]=(w++[32])++Lib.itoa n++[10]:=by
 rw [sayN_flat]
 simp [numF]
theorem say_word (w:List UInt8):say [w]=w++[10]:=by
 unfold say
 simp
end Go.Proofs.YtbgnajcmhmpjlacGreatDoor
