/- The document's desk hears a line: the first switch, all but begin. -/
import Derived.Test.YtbgnajcmhmpjlacGreatDoorH3
set_option maxRecDepth 100000
set_option maxHeartbeats 100000000
namespace Go.Proofs.YtbgnajcmhmpjlacGreatDoor
open Go.RowKit
theorem line_odd (w0 w:World) (Z:Nat->Prop) (r mk:Nat) (ws:Nat->Int) (l:List UInt8) (T:Twn) (s:ByteArray) (LR:List UInt8 × Twn) (wd:ByteArray) (ns:List Int) (k Bl Bn bl ol cap:Nat) (na:Option Addr) (nc:Nat) (W:World) (Bx:Nat) (u7 u8 u29 u30 u31 u32 u33 u34 u35 u36 u37 u38 u39 u40 u41 u42 u43 u44 u45 u46 u47 u48 u49 u50 u51 u52 u53 u54 u55:Value) (h:LX w0 w Z r mk ws l T LR wd ns k Bl Bn bl ol cap na nc W Bx) (eb:wd=⟨#[98,101,103,105,110]⟩) (ek:¬k % 2=0):line2.a w0 w Z r mk ws l T s LR wd ns k Bl Bn bl ol cap na nc W Bx u7 u8 u29 u30 u31 u32 u33 u34 u35 u36 u37 u38 u39 u40 u41 u42 u43 u44 u45 u46 u47 u48 u49 u50 u51 u52 u53 u54 u55:=by
 have HT:=hid h.ht
 have HD:=hid h.hd
 have HR:=hid h.hr
 have HObe:=hid h.ob
 have HYl:=hid h.yl
 have HNl:=hid h.nl
 have HBW:=hid h.bw
 have HNx:=hid h.nx
 have HXo:=hid h.xo
 have HR2:Hid (Room (l.length+2000)):=h.hr.le (by omega)
 have c0:=h.c0
 have c1:=h.c1
 have y0:=h.y0
 have x0:=h.x0
 have x1:=h.x1
 have x2:=h.x2
 have xf:=h.xf
 have hBx:=h.bx
 have HNo:Hid (NoStep wd k):=⟨fun q=>ek q.2,fun q=>by rw [eb] at q;exact absurd q.1 (by decide),fun q=>by rw [eb] at q;exact absurd q.1 (by decide),fun q=>by rw [eb] at q;exact absurd q.1 (by decide),fun q=>by rw [eb] at q;exact absurd q.1 (by decide),fun q=>by rw [eb] at q;exact absurd q.1 (by decide),fun q=>by rw [eb] at q;exact absurd q.1 (by decide),fun q=>by rw [eb] at q;exact absurd q.1 (by decide)⟩
 have f1:(wd.toList == [98,101,103,105,110])=true:=by rw [eb,ByteArray.toList_eq];decide
 have b_tick:isB wd k ⟨#[116,105,99,107]⟩ 0=false:=isB_no (fun q=>by rw [eb] at q;exact absurd q.1 (by decide))
 have b_broker:isB wd k ⟨#[98,114,111,107,101,114]⟩ 0=false:=isB_no (fun q=>by rw [eb] at q;exact absurd q.1 (by decide))
 have b_deliver:isB wd k ⟨#[100,101,108,105,118,101,114]⟩ 1=false:=isB_no (fun q=>by rw [eb] at q;exact absurd q.1 (by decide))
 have b_lose:isB wd k ⟨#[108,111,115,101]⟩ 1=false:=isB_no (fun q=>by rw [eb] at q;exact absurd q.1 (by decide))
 have b_double:isB wd k ⟨#[100,111,117,98,108,101]⟩ 1=false:=isB_no (fun q=>by rw [eb] at q;exact absurd q.1 (by decide))
 have b_quit:isB wd k ⟨#[113,117,105,116]⟩ 1=false:=isB_no (fun q=>by rw [eb] at q;exact absurd q.1 (by decide))
 have b_shop:isB wd k ⟨#[115,104,111,112]⟩ 1=false:=isB_no (fun q=>by rw [eb] at q;exact absurd q.1 (by decide))
 have j3:¬(k:Int).tmod 2=0:=by rw [Int.tmod_eq_emod_of_nonneg (by omega)];omega
 have j4:((k:Int).tmod 2 == 0)=false:=by simpa using j3
 clear eb h
 unfold line2
 dsimp -zeta only
 intro Q1 J1 K2 b1 b2
 go_wp2_with (go_at_call 36;refine Calls.mono (eis_any c0 y0 c1 _ _) ?_;rintro e w5 ⟨rfl,hw5⟩;subst w5)
 go_meet
 case rel=>exact .inr ⟨rfl,HNo.out⟩
theorem line_first (w0 w:World) (Z:Nat->Prop) (r mk:Nat) (ws:Nat->Int) (l:List UInt8) (T:Twn) (s:ByteArray) (LR:List UInt8 × Twn) (wd:ByteArray) (ns:List Int) (k Bl Bn bl ol cap:Nat) (na:Option Addr) (nc:Nat) (W:World) (Bx:Nat) (u7 u8 u29 u30 u31 u32 u33 u34 u35 u36 u37 u38 u39 u40 u41 u42 u43 u44 u45 u46 u47 u48 u49 u50 u51 u52 u53 u54 u55:Value) (h:LX w0 w Z r mk ws l T LR wd ns k Bl Bn bl ol cap na nc W Bx) (eb:¬wd=⟨#[98,101,103,105,110]⟩):line2.a w0 w Z r mk ws l T s LR wd ns k Bl Bn bl ol cap na nc W Bx u7 u8 u29 u30 u31 u32 u33 u34 u35 u36 u37 u38 u39 u40 u41 u42 u43 u44 u45 u46 u47 u48 u49 u50 u51 u52 u53 u54 u55:=by
 have HT:=hid h.ht
 have HD:=hid h.hd
 have HR:=hid h.hr
 have HObe:=hid h.ob
 have HYl:=hid h.yl
 have HNl:=hid h.nl
 have HBW:=hid h.bw
 have HNx:=hid h.nx
 have HXo:=hid h.xo
 have HR2:Hid (Room (l.length+2000)):=h.hr.le (by omega)
 have c0:=h.c0
 have c1:=h.c1
 have y0:=h.y0
 have x0:=h.x0
 have x1:=h.x1
 have x2:=h.x2
 have xf:=h.xf
 have hBx:=h.bx
 have HX:=hid h
 have f1:(wd.toList == [98,101,103,105,110])=false:=not_word eb
 have HEb:=hid eb
 clear eb h
 unfold line2
 dsimp -zeta only
 intro Q1 J1 K2 b1 b2
 go_upto_region 18 with fail
 clear f1
 by_cases e_tick:wd=⟨#[116,105,99,107]⟩∧k=0
 ·have HE1:=hid e_tick
  clear e_tick
  obtain rfl:ns=[]:=List.eq_nil_of_length_eq_zero (by have:=HE1.out.2;have:=HNl.out;omega)
  have HO:Hid (obeyR ws T wd.data.toList []=some (stepW T ⟨2,0,[]⟩)):=by show _=_;rw [HE1.out.1];unfold obeyR;rw [if_neg (by decide)];show aloneR ws T _=_;unfold aloneR;rw [if_pos (by decide)]
  have b_tick:isB wd k ⟨#[116,105,99,107]⟩ 0=true:=by rw [isB_eq,HE1.out.1,HE1.out.2];decide
  go_wp2_with (go_at_call 36;refine Calls.mono (eis_any c0 y0 c1 _ _) ?_;rintro e w5 ⟨rfl,hw5⟩;subst w5)
  go_meet
  case rel=>exact HX.out.put1 2 (by decide) HO.out
 have n_tick:isB wd k ⟨#[116,105,99,107]⟩ 0=false:=isB_no e_tick
 have HN_tick:=hid e_tick
 clear e_tick
 go_upto_region 20 with (go_at_call 36;refine Calls.mono (eis_any c0 y0 c1 _ _) ?_;rintro e w5 ⟨rfl,hw5⟩;subst w5)
 clear n_tick
 by_cases e_broker:wd=⟨#[98,114,111,107,101,114]⟩∧k=0
 ·have HE1:=hid e_broker
  clear e_broker
  obtain rfl:ns=[]:=List.eq_nil_of_length_eq_zero (by have:=HE1.out.2;have:=HNl.out;omega)
  have HO:Hid (obeyR ws T wd.data.toList []=some (stepW T ⟨8,0,[]⟩)):=by show _=_;rw [HE1.out.1];unfold obeyR;rw [if_neg (by decide)];show aloneR ws T _=_;unfold aloneR;rw [if_neg (by decide),if_pos (by decide)]
  have b_broker:isB wd k ⟨#[98,114,111,107,101,114]⟩ 0=true:=by rw [isB_eq,HE1.out.1,HE1.out.2];decide
  go_wp2_with (go_at_call 36;refine Calls.mono (eis_any c0 y0 c1 _ _) ?_;rintro e w5 ⟨rfl,hw5⟩;subst w5)
  go_meet
  case rel=>exact HX.out.put1 8 (by decide) HO.out
 have n_broker:isB wd k ⟨#[98,114,111,107,101,114]⟩ 0=false:=isB_no e_broker
 have HN_broker:=hid e_broker
 clear e_broker
 go_upto_region 22 with (go_at_call 36;refine Calls.mono (eis_any c0 y0 c1 _ _) ?_;rintro e w5 ⟨rfl,hw5⟩;subst w5)
 clear n_broker
 by_cases e_deliver:wd=⟨#[100,101,108,105,118,101,114]⟩∧k=1
 ·have HE1:=hid e_deliver
  clear e_deliver
  obtain ⟨n0,rfl⟩:∃n0,ns=[n0]:=List.length_eq_one_iff.1 (by have:=HE1.out.2;have:=HNl.out;omega)
  have HO:Hid (obeyR ws T wd.data.toList [n0]=some (stepW T ⟨3,n0,[]⟩)):=by show _=_;rw [HE1.out.1];unfold obeyR;rw [if_neg (by decide)];show withR T _ n0=_;unfold withR;rw [if_pos (by decide)]
  have b_deliver:isB wd k ⟨#[100,101,108,105,118,101,114]⟩ 1=true:=by rw [isB_eq,HE1.out.1,HE1.out.2];decide
  obtain ⟨bn,on,hna,hbn,yn'⟩:=HNx.out 0 n0 rfl
  have yn:W.cell? ⟨bn,on,none⟩=some (.int .i64 n0):=yn'
  clear yn'
  have hbnx:bn<Bx:=(HXo.out.2.2.2.2.1 _ hna).2
  have hbnw:w.heap.size<=bn:=(HXo.out.2.2.2.2.1 _ hna).1
  subst hna
  have hk0:0<k:=by have:=HE1.out.2;omega
  have HKq:Hid (∀w',Below Bx W w'->w'.cell? ⟨Bn,0,none⟩=some (.slice (some ⟨bn,on,none⟩) k nc)∧w'.cell? ⟨bn,on,none⟩=some (.int .i64 n0)):=fun w' hb'=>⟨(hb'.cell (p:=⟨Bn,0,none⟩) HXo.out.2.2.1).trans c1,(hb'.cell (p:=⟨bn,on,none⟩) hbnx).trans yn⟩
  go_upto_region 23 with (go_at_call 36;refine Calls.mono (eis_any c0 y0 c1 _ _) ?_;rintro e w5 ⟨rfl,hw5⟩;subst w5)
  go_region_held3 (fun w'=>w'.cell? ⟨Bn,0,none⟩=some (.slice (some ⟨bn,on,none⟩) k nc)∧w'.cell? ⟨bn,on,none⟩=some (.int .i64 n0))
   (first | exact HKq.out _ (by go_grown))
   (first | fail)
  clear HKq
  go_wp2_with fail
  go_meet
  case rel=>exact HX.out.put2 3 n0 (by decide) HO.out
 have n_deliver:isB wd k ⟨#[100,101,108,105,118,101,114]⟩ 1=false:=isB_no e_deliver
 have HN_deliver:=hid e_deliver
 clear e_deliver
 go_upto_region 24 with (go_at_call 36;refine Calls.mono (eis_any c0 y0 c1 _ _) ?_;rintro e w5 ⟨rfl,hw5⟩;subst w5)
 clear n_deliver
 by_cases e_lose:wd=⟨#[108,111,115,101]⟩∧k=1
 ·have HE1:=hid e_lose
  clear e_lose
  obtain ⟨n0,rfl⟩:∃n0,ns=[n0]:=List.length_eq_one_iff.1 (by have:=HE1.out.2;have:=HNl.out;omega)
  have HO:Hid (obeyR ws T wd.data.toList [n0]=some (stepW T ⟨4,n0,[]⟩)):=by show _=_;rw [HE1.out.1];unfold obeyR;rw [if_neg (by decide)];show withR T _ n0=_;unfold withR;rw [if_neg (by decide),if_pos (by decide)]
  have b_lose:isB wd k ⟨#[108,111,115,101]⟩ 1=true:=by rw [isB_eq,HE1.out.1,HE1.out.2];decide
  obtain ⟨bn,on,hna,hbn,yn'⟩:=HNx.out 0 n0 rfl
  have yn:W.cell? ⟨bn,on,none⟩=some (.int .i64 n0):=yn'
  clear yn'
  have hbnx:bn<Bx:=(HXo.out.2.2.2.2.1 _ hna).2
  have hbnw:w.heap.size<=bn:=(HXo.out.2.2.2.2.1 _ hna).1
  subst hna
  have hk0:0<k:=by have:=HE1.out.2;omega
  have HKq:Hid (∀w',Below Bx W w'->w'.cell? ⟨Bn,0,none⟩=some (.slice (some ⟨bn,on,none⟩) k nc)∧w'.cell? ⟨bn,on,none⟩=some (.int .i64 n0)):=fun w' hb'=>⟨(hb'.cell (p:=⟨Bn,0,none⟩) HXo.out.2.2.1).trans c1,(hb'.cell (p:=⟨bn,on,none⟩) hbnx).trans yn⟩
  go_upto_region 25 with (go_at_call 36;refine Calls.mono (eis_any c0 y0 c1 _ _) ?_;rintro e w5 ⟨rfl,hw5⟩;subst w5)
  go_region_held3 (fun w'=>w'.cell? ⟨Bn,0,none⟩=some (.slice (some ⟨bn,on,none⟩) k nc)∧w'.cell? ⟨bn,on,none⟩=some (.int .i64 n0))
   (first | exact HKq.out _ (by go_grown))
   (first | fail)
  clear HKq
  go_wp2_with fail
  go_meet
  case rel=>exact HX.out.put2 4 n0 (by decide) HO.out
 have n_lose:isB wd k ⟨#[108,111,115,101]⟩ 1=false:=isB_no e_lose
 have HN_lose:=hid e_lose
 clear e_lose
 go_upto_region 26 with (go_at_call 36;refine Calls.mono (eis_any c0 y0 c1 _ _) ?_;rintro e w5 ⟨rfl,hw5⟩;subst w5)
 clear n_lose
 by_cases e_double:wd=⟨#[100,111,117,98,108,101]⟩∧k=1
 ·have HE1:=hid e_double
  clear e_double
  obtain ⟨n0,rfl⟩:∃n0,ns=[n0]:=List.length_eq_one_iff.1 (by have:=HE1.out.2;have:=HNl.out;omega)
  have HO:Hid (obeyR ws T wd.data.toList [n0]=some (stepW T ⟨5,n0,[]⟩)):=by show _=_;rw [HE1.out.1];unfold obeyR;rw [if_neg (by decide)];show withR T _ n0=_;unfold withR;rw [if_neg (by decide),if_neg (by decide),if_pos (by decide)]
  have b_double:isB wd k ⟨#[100,111,117,98,108,101]⟩ 1=true:=by rw [isB_eq,HE1.out.1,HE1.out.2];decide
  obtain ⟨bn,on,hna,hbn,yn'⟩:=HNx.out 0 n0 rfl
  have yn:W.cell? ⟨bn,on,none⟩=some (.int .i64 n0):=yn'
  clear yn'
  have hbnx:bn<Bx:=(HXo.out.2.2.2.2.1 _ hna).2
  have hbnw:w.heap.size<=bn:=(HXo.out.2.2.2.2.1 _ hna).1
  subst hna
  have hk0:0<k:=by have:=HE1.out.2;omega
  have HKq:Hid (∀w',Below Bx W w'->w'.cell? ⟨Bn,0,none⟩=some (.slice (some ⟨bn,on,none⟩) k nc)∧w'.cell? ⟨bn,on,none⟩=some (.int .i64 n0)):=fun w' hb'=>⟨(hb'.cell (p:=⟨Bn,0,none⟩) HXo.out.2.2.1).trans c1,(hb'.cell (p:=⟨bn,on,none⟩) hbnx).trans yn⟩
  go_upto_region 27 with (go_at_call 36;refine Calls.mono (eis_any c0 y0 c1 _ _) ?_;rintro e w5 ⟨rfl,hw5⟩;subst w5)
  go_region_held3 (fun w'=>w'.cell? ⟨Bn,0,none⟩=some (.slice (some ⟨bn,on,none⟩) k nc)∧w'.cell? ⟨bn,on,none⟩=some (.int .i64 n0))
   (first | exact HKq.out _ (by go_grown))
   (first | fail)
  clear HKq
  go_wp2_with fail
  go_meet
  case rel=>exact HX.out.put2 5 n0 (by decide) HO.out
 have n_double:isB wd k ⟨#[100,111,117,98,108,101]⟩ 1=false:=isB_no e_double
 have HN_double:=hid e_double
 clear e_double
 go_upto_region 28 with (go_at_call 36;refine Calls.mono (eis_any c0 y0 c1 _ _) ?_;rintro e w5 ⟨rfl,hw5⟩;subst w5)
 clear n_double
 by_cases e_quit:wd=⟨#[113,117,105,116]⟩∧k=1
 ·have HE1:=hid e_quit
  clear e_quit
  obtain ⟨n0,rfl⟩:∃n0,ns=[n0]:=List.length_eq_one_iff.1 (by have:=HE1.out.2;have:=HNl.out;omega)
  have HO:Hid (obeyR ws T wd.data.toList [n0]=some (stepW T ⟨6,n0,[]⟩)):=by show _=_;rw [HE1.out.1];unfold obeyR;rw [if_neg (by decide)];show withR T _ n0=_;unfold withR;rw [if_neg (by decide),if_neg (by decide),if_neg (by decide),if_pos (by decide)]
  have b_quit:isB wd k ⟨#[113,117,105,116]⟩ 1=true:=by rw [isB_eq,HE1.out.1,HE1.out.2];decide
  obtain ⟨bn,on,hna,hbn,yn'⟩:=HNx.out 0 n0 rfl
  have yn:W.cell? ⟨bn,on,none⟩=some (.int .i64 n0):=yn'
  clear yn'
  have hbnx:bn<Bx:=(HXo.out.2.2.2.2.1 _ hna).2
  have hbnw:w.heap.size<=bn:=(HXo.out.2.2.2.2.1 _ hna).1
  subst hna
  have hk0:0<k:=by have:=HE1.out.2;omega
  have HKq:Hid (∀w',Below Bx W w'->w'.cell? ⟨Bn,0,none⟩=some (.slice (some ⟨bn,on,none⟩) k nc)∧w'.cell? ⟨bn,on,none⟩=some (.int .i64 n0)):=fun w' hb'=>⟨(hb'.cell (p:=⟨Bn,0,none⟩) HXo.out.2.2.1).trans c1,(hb'.cell (p:=⟨bn,on,none⟩) hbnx).trans yn⟩
  go_upto_region 29 with (go_at_call 36;refine Calls.mono (eis_any c0 y0 c1 _ _) ?_;rintro e w5 ⟨rfl,hw5⟩;subst w5)
  go_region_held3 (fun w'=>w'.cell? ⟨Bn,0,none⟩=some (.slice (some ⟨bn,on,none⟩) k nc)∧w'.cell? ⟨bn,on,none⟩=some (.int .i64 n0))
   (first | exact HKq.out _ (by go_grown))
   (first | fail)
  clear HKq
  go_wp2_with fail
  go_meet
  case rel=>exact HX.out.put2 6 n0 (by decide) HO.out
 have n_quit:isB wd k ⟨#[113,117,105,116]⟩ 1=false:=isB_no e_quit
 have HN_quit:=hid e_quit
 clear e_quit
 go_upto_region 30 with (go_at_call 36;refine Calls.mono (eis_any c0 y0 c1 _ _) ?_;rintro e w5 ⟨rfl,hw5⟩;subst w5)
 clear n_quit
 by_cases e_shop:wd=⟨#[115,104,111,112]⟩∧k=1
 ·have HE1:=hid e_shop
  clear e_shop
  obtain ⟨n0,rfl⟩:∃n0,ns=[n0]:=List.length_eq_one_iff.1 (by have:=HE1.out.2;have:=HNl.out;omega)
  have HO:Hid (obeyR ws T wd.data.toList [n0]=some (stepW T ⟨7,n0,[]⟩)):=by show _=_;rw [HE1.out.1];unfold obeyR;rw [if_neg (by decide)];show withR T _ n0=_;unfold withR;rw [if_neg (by decide),if_neg (by decide),if_neg (by decide),if_neg (by decide),if_pos (by decide)]
  have b_shop:isB wd k ⟨#[115,104,111,112]⟩ 1=true:=by rw [isB_eq,HE1.out.1,HE1.out.2];decide
  obtain ⟨bn,on,hna,hbn,yn'⟩:=HNx.out 0 n0 rfl
  have yn:W.cell? ⟨bn,on,none⟩=some (.int .i64 n0):=yn'
  clear yn'
  have hbnx:bn<Bx:=(HXo.out.2.2.2.2.1 _ hna).2
  have hbnw:w.heap.size<=bn:=(HXo.out.2.2.2.2.1 _ hna).1
  subst hna
  have hk0:0<k:=by have:=HE1.out.2;omega
  have HKq:Hid (∀w',Below Bx W w'->w'.cell? ⟨Bn,0,none⟩=some (.slice (some ⟨bn,on,none⟩) k nc)∧w'.cell? ⟨bn,on,none⟩=some (.int .i64 n0)):=fun w' hb'=>⟨(hb'.cell (p:=⟨Bn,0,none⟩) HXo.out.2.2.1).trans c1,(hb'.cell (p:=⟨bn,on,none⟩) hbnx).trans yn⟩
  go_upto_region 31 with (go_at_call 36;refine Calls.mono (eis_any c0 y0 c1 _ _) ?_;rintro e w5 ⟨rfl,hw5⟩;subst w5)
  go_region_held3 (fun w'=>w'.cell? ⟨Bn,0,none⟩=some (.slice (some ⟨bn,on,none⟩) k nc)∧w'.cell? ⟨bn,on,none⟩=some (.int .i64 n0))
   (first | exact HKq.out _ (by go_grown))
   (first | fail)
  clear HKq
  go_wp2_with fail
  go_meet
  case rel=>exact HX.out.put2 7 n0 (by decide) HO.out
 have n_shop:isB wd k ⟨#[115,104,111,112]⟩ 1=false:=isB_no e_shop
 have HN_shop:=hid e_shop
 clear e_shop
 go_wp2_with (go_at_call 36;refine Calls.mono (eis_any c0 y0 c1 _ _) ?_;rintro e w5 ⟨rfl,hw5⟩;subst w5)
 go_meet
 case rel=>exact .inr ⟨rfl,fun q=>HEb.out q.1,HN_tick.out,HN_broker.out,HN_deliver.out,HN_lose.out,HN_double.out,HN_quit.out,HN_shop.out⟩
end Go.Proofs.YtbgnajcmhmpjlacGreatDoor
