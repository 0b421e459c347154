import Derived.Test.YthlccadnojnkaaaGreatZn64
set_option maxHeartbeats 8000000
set_option maxRecDepth 100000
namespace Go.Proofs.YthlccadnojnkaaaGreat
open Go.Proofs.Tryz
open Go Go.RowKit Go.Proofs Co Co.S
theorem sF{w:World}{g:Nat}{t:TypeId}{a0 a1 a2 a3 a4 a5 a6 a7 a8 a9:Value}(h:w.heap[g]?=some (.cells #[a0,a1,a2,a3,a4,a5,a6,a7,a8,a9] t)):((((((((((w.setCell ⟨g,0,none⟩ a5).setCell ⟨g,1,none⟩ a6).setCell ⟨g,2,none⟩ a7).setCell ⟨g,3,none⟩ a8).setCell ⟨g,4,none⟩ a9).setCell ⟨g,5,none⟩ a0).setCell ⟨g,6,none⟩ a1).setCell ⟨g,7,none⟩ a2).setCell ⟨g,8,none⟩ a3).setCell ⟨g,9,none⟩ a4).heap[g]?=some (.cells #[a5,a6,a7,a8,a9,a0,a1,a2,a3,a4] t)/\w.grownBy ((((((((((w.setCell ⟨g,0,none⟩ a5).setCell ⟨g,1,none⟩ a6).setCell ⟨g,2,none⟩ a7).setCell ⟨g,3,none⟩ a8).setCell ⟨g,4,none⟩ a9).setCell ⟨g,5,none⟩ a0).setCell ⟨g,6,none⟩ a1).setCell ⟨g,7,none⟩ a2).setCell ⟨g,8,none⟩ a3).setCell ⟨g,9,none⟩ a4) (some g):=
 ⟨y9 _ g 9 #[a5,a6,a7,a8,a9,a0,a1,a2,a3,a9] t a4 (y9 _ g 8 #[a5,a6,a7,a8,a9,a0,a1,a2,a8,a9] t a3 (y9 _ g 7 #[a5,a6,a7,a8,a9,a0,a1,a7,a8,a9] t a2 (y9 _ g 6 #[a5,a6,a7,a8,a9,a0,a6,a7,a8,a9] t a1 (y9 _ g 5 #[a5,a6,a7,a8,a9,a5,a6,a7,a8,a9] t a0 (y9 _ g 4 #[a5,a6,a7,a8,a4,a5,a6,a7,a8,a9] t a9 (y9 _ g 3 #[a5,a6,a7,a3,a4,a5,a6,a7,a8,a9] t a8 (y9 _ g 2 #[a5,a6,a2,a3,a4,a5,a6,a7,a8,a9] t a7 (y9 _ g 1 #[a5,a1,a2,a3,a4,a5,a6,a7,a8,a9] t a6 (y9 _ g 0 #[a0,a1,a2,a3,a4,a5,a6,a7,a8,a9] t a5 h))))))))),aP (aP (aP (aP (aP (aP (aP (aP (aP (aP (cK w (some g)) 0 a5) 1 a6) 2 a7) 3 a8) 4 a9) 5 a0) 6 a1) 7 a2) 8 a3) 9 a4⟩
theorem qK{w w2:World}{g:Nat}{o:Obj}(h:w2.heap[g]?=some o/\w.grownBy w2 (some g)):w2.drew.heap[g]?=some o/\w.grownBy w2.drew (some g):=⟨h.1,⟨h.2.os,h.2.tape,h.2.output,h.2.size,h.2.block⟩⟩
abbrev dA:cx:=⟨2,ap,0,e0,[]⟩
abbrev dB:cx:=⟨2,an,0,e0,[]⟩
abbrev Bq:Array Value:=#[.int .i64 2,.string an,.int .i64 0,.string e0,.slice none 0 0,.int .i64 2,.string ap,.int .i64 0,.string e0,.slice none 0 0]
theorem C':ir dA:=cM (by decide) (by decide) (by decide) (by decide)
theorem BZ:ir dB:=cM (by decide) (by decide) (by decide) (by decide)
theorem Jj:dn Lz [lB,lA]=(0,0,e0,0,e0):=by kernel_rfl
theorem FP:(ak (pre 4) Lz [lB,lA]).rows=lR:=by kernel_rfl
theorem Fs:(ak (pre 4) Lz [lB,lA]).ids=[0,0]:=by kernel_rfl
theorem BP:∀x∈lR,dw 1 x:=fun x a=>by
 have h:x=(1,[(0,[(1,9,e0),(0,0,e0)])])∨x=(1,[(0,[(1,1,e0),(2,0,bx),(0,0,e0),(1,9,e0)])])∨x=(0,[])∨x=(0,[]):=(by simpa using a);rcases h with rfl|rfl|rfl|rfl
 ·exact⟨by decide,by decide⟩
 ·exact⟨by decide,by decide⟩
 ·exact⟨by decide,by decide⟩
 ·exact⟨by decide,by decide⟩
theorem Jz:dn lR [dB,dA]=(0,0,e0,0,e0):=by kernel_rfl
theorem EN:dn lR [dA,dB]=(0,0,e0,0,e0):=by kernel_rfl
theorem C5:dn lR [dB]=(9,1,ap,0,an):=by kernel_rfl
theorem yY(turn gone:Bool)(W:World):Calls prog 10 #[.bool turn,.bool gone] W fun e w=>e=.returned (.bool true)/\Below W.heap.size W w:=by
 have a9:=eI W;go_enter func10,ntmps10;go_upto_region 4 with (go_at_call 21;refine a9.mono ?_;rintro e w0⟨rfl,a1⟩;have H0:=aa a1;clear a9 a1);have a2:=cP w0;go_upto_region 5 with (go_at_call 13;refine a2.mono ?_;rintro e w1⟨d,b,ps,rfl,hP⟩;have HA:=aa (ab hP.Ac (hP.bel H0.out (fun q U=>z9 U H0.out.size)));clear a2 hP);have b8:=dN 1 w1
 go_upto_region 6 with (first|(go_at_call 27;(with_reducible refine b8.mono ?_);rintro e w2⟨rfl,a1⟩;have H2:=aa a1;have c0:=oJ bx w2;clear b8 a1)|(go_at_call 28;refine c0.mono ?_;rintro e w3⟨rfl,c4⟩;have H3:=aa (aB H2.out c4);have c5:=dN 9 w3;clear c0 c4)|(go_at_call 27;(with_reducible refine c5.mono ?_);rintro e w4⟨rfl,c6⟩;have H4:=aa (aB H3.out c6);have c7:=dN 9 (w4.alloc (.cells Bg 32));clear c5 c6)|(go_at_call 27;(with_reducible refine c7.mono ?_);rintro e w6⟨rfl,c8⟩;have H6:=aa c8;clear c7 c8))
 obtain⟨b0,a6,V,a7,a8⟩:=Dx H4.out H6.out;obtain⟨wO,b1⟩:=ag ((w6.alloc (.cells t6 32)).alloc (.cells (Ap w4.heap.size w6.heap.size) 29));obtain⟨g,hg⟩:=ag (w6.heap.size+1);rw[b1]at b0 a6 V a7 a8;rw[hg]at a6 V
 try rw[b1]
 try rw[hg]
 have d0:w1.heap.size<=g:=(by have h1:=H4.out.size;have h2:=H6.out.size;rw[zj]at h2;omega);have a3:w4.heap.size≠g:=(by have h2:=H6.out.size;rw[zj]at h2;omega);have a4:w6.heap.size≠g:=(by omega);obtain⟨g1,b2⟩:=ag w4.heap.size;obtain⟨g2,b3⟩:=ag w6.heap.size;rw[b2]at V a7 a3;rw[b3]at V a8 a4
 try rw[b2]
 try rw[b3]
 have S:=aa (ab b0 (ab a6 (ab V (ab a7 (ab a8 (ab d0 (ab a3 a4)))))));clear b0 a6 V a7 a8 b1 hg d0 a3 a4 b2 b3;cases turn
 ·have H7:=aa (ab S.1 S.2.1);obtain⟨w7,rfl⟩:∃y,y=wO:=⟨_,rfl⟩
  have f:Calls prog 24 #[.pointer (some ⟨d,0,none⟩),.slice (some ⟨g,0,none⟩) 2 2] w7 fun e w=>∃d2 p c,e=.returned (.tuple #[.pointer (some ⟨d2,0,none⟩),.slice p 2 c,bj 0 0 e0 0 e0])/\kt w d2 lR/\Ro w w7.heap.size (.slice p 2 c) [0,0]/\Below w7.heap.size w7 w:=
   (bN (HA.1.later H7.1) H7.2 cD (by decide) (fun o z=>by rcases List.mem_cons.1 z with rfl|z;exact BQ;rw[List.mem_singleton.1 z];exact Ct)).mono (fun e w h=>cF h (by rw[Eb]) DH Ds rfl)
  go_upto_region 9 with (go_at_call 24;refine f.mono ?_;rintro e w8⟨x,p1,c1,rfl,hX,_,a5⟩;have H8:=aa (ab hX a5);clear f hX a5);have b9:=aD w8 (.cells zF 39);have X:=z7 w8 (.cells zF 39);obtain⟨Y,J⟩:=ag (w8.alloc (.cells zF 39));obtain⟨F1,L⟩:=ag w8.heap.size;rw[J]at b9 X;rw[L]at X
  try rw[J]
  try rw[L]
  have H9:=aa (ab (H8.1.later b9) (ab X (aB H7.1 (aB H8.2 b9))));have y0:=aA X 0;have yl:=aC X;clear b9 X J L;go_upto_region 11 with fail;clear y0 yl;have M:=aD Y (.cells Bq 29);have A:=z7 Y (.cells Bq 29);obtain⟨Z,r⟩:=ag (Y.alloc (.cells Bq 29));obtain⟨m,hm⟩:=ag Y.heap.size;rw[r]at M A;rw[hm]at A;have k:=aa (ab M (ab A (ab r hm)));clear M A r hm;go_upto_region 12 with fail
  try rw[k.2.2.1]
  try rw[k.2.2.2]
  have l:ga (fun q=>q<Z.heap.size) Z (.slice (some ⟨m,0,none⟩) 2 2) [dB,dA]:=ga.of (base:=Y.heap.size) (fJ (v1:=.slice none 0 0) (v2:=.slice none 0 0) k.2.1 rfl (xy k.2.2.2) ac.nil ac.nil) (fun q _ U=>U);have s:=aa (ab k.1 l);clear l;obtain⟨b4,rfl⟩:∃y,y=Z:=⟨_,rfl⟩;have f:=(bN (H9.1.later s.1) s.2 BP (by decide) (fun o z=>by rcases List.mem_cons.1 z with rfl|z;exact BZ;rw[List.mem_singleton.1 z];exact C')).mono (fun e w h=>cF h (by rw[Jz]) rfl rfl rfl);go_upto_region 15 with (go_at_call 24;refine f.mono ?_;rintro e B⟨y,p2,c2,rfl,_,_,H⟩;have b5:=aa H;clear f H);have N:=aD B (.cells zF 39);have E:=z7 B (.cells zF 39);obtain⟨t,u⟩:=ag (B.alloc (.cells zF 39));obtain⟨F2,O⟩:=ag B.heap.size;rw[u]at N E;rw[O]at E
  try rw[u]
  try rw[O]
  have F:=aa (ab (aB b5.out N) E);clear N E u O;have l:ga (fun q=>q<t.heap.size) t (.slice (some ⟨m,0,none⟩) 1 2) [dB]:=(s.2.later F.1).part (c2:=2) 0 1 (by decide)
  have f:Calls prog 24 #[.pointer (some ⟨x,0,none⟩),.slice (some ⟨m,0,none⟩) 1 2] t fun e w=>e=.returned (.tuple #[.pointer none,.slice none 0 0,bj 9 1 ap 0 an])/\Below t.heap.size t w:=
   (bN ((H9.1.later s.1).later F.1) l BP (by decide) (fun o z=>by rw[List.mem_singleton.1 z];exact BZ)).mono (fun e w h=>dF h C5 (by decide))
  clear l;go_upto_region 19 with (go_at_call 24;refine f.mono ?_;rintro e G⟨rfl,I⟩;have b6:=aa I;clear f I);have P:=aD G (.cells #[.int .i64 9,.int .i64 1,.string ap,.int .i64 0,.string an] 39);have j:=z7 G (.cells #[.int .i64 9,.int .i64 1,.string ap,.int .i64 0,.string an] 39);obtain⟨d6,v⟩:=ag (G.alloc (.cells #[.int .i64 9,.int .i64 1,.string ap,.int .i64 0,.string an] 39));obtain⟨F3,Q⟩:=ag G.heap.size;rw[v]at P j;rw[Q]at j
  try rw[v]
  try rw[Q]
  have a:=aB b6.out P;have kf:=aE a F.2;have a0:=aA kf 0;have al:=aC kf;have f0:=aA j 0;have f1:=aA j 1;have f2:=aA j 2;have f4:=aA j 4;have fl:=aC j;have HZ:=aa (aB HA.2 (aB H9.2.2 (aB s.1 (aB F.1 a))));clear a kf P j v Q;go_wp2_with fail;go_ret;exact⟨rfl,HZ.out⟩
 go_upto_region 7 with fail
 go_cut []from 39 to 49 (fun wx=>wx.heap[g]?=some (.cells #[.int .i64 1,.string an,.int .i64 0,.string e0,.slice (some ⟨g2,0,none⟩) 2 2,.int .i64 1,.string ap,.int .i64 0,.string e0,.slice (some ⟨g1,0,none⟩) 4 4] 29)/\wO.grownBy wx (some g))
 case first =>
  have n:=S.2.2.1;have d7:=aA n 0;have d8:=aA n 1;have d9:=aA n 2;have e1:=aA n 3;have e2:=aA n 4;have e3:=aA n 5;have e4:=aA n 6;have e5:=aA n 7;have e6:=aA n 8;have e7:=aA n 9;have zf:=(fun i=>zo wO g i _ _ n);have zl:=aC n;clear n
  go_region_law fail
  all_goals
   go_wp2_with fail;go_meet
   first
   | exact qK (sF S.2.2.1)
   | exact sF S.2.2.1
 obtain⟨k7,R⟩:=hcut;obtain⟨w7,rfl⟩:∃y,y=wc:=⟨_,rfl⟩;have b7:Below w1.heap.size w1 _:=aT S.1 (zm _) R S.2.2.2.2.2.1;have d1:=S.2.2.2.1.of (fun q U=>R.block q (ac.lt S.2.2.2.1 q U).2 (fun e=>by cases e;cases U;exact S.2.2.2.2.2.2.1 rfl));have d3:=S.2.2.2.2.1.of (fun q U=>R.block q (ac.lt S.2.2.2.2.1 q U).2 (fun e=>by cases e;cases U;exact S.2.2.2.2.2.2.2 rfl));have l:ga (fun q=>q<w7.heap.size) w7 (.slice (some ⟨g,0,none⟩) 2 2) [lB,lA]:=ga.of (base:=w1.heap.size) (fJ (v1:=.slice (some ⟨g2,0,none⟩) 2 2) (v2:=.slice (some ⟨g1,0,none⟩) 4 4) k7 rfl S.2.2.2.2.2.1 d3 d1) (fun q _ U=>U);have H7:=aa (ab b7 l);clear R k7 b7 d1 d3 l
 have f:Calls prog 24 #[.pointer (some ⟨d,0,none⟩),.slice (some ⟨g,0,none⟩) 2 2] w7 fun e w=>∃d2 p c,e=.returned (.tuple #[.pointer (some ⟨d2,0,none⟩),.slice p 2 c,bj 0 0 e0 0 e0])/\kt w d2 lR/\Ro w w7.heap.size (.slice p 2 c) [0,0]/\Below w7.heap.size w7 w:=
  (bN (HA.1.later H7.1) H7.2 cD (by decide) (fun o z=>by rcases List.mem_cons.1 z with rfl|z;exact Ct;rw[List.mem_singleton.1 z];exact BQ)).mono (fun e w h=>cF h (by rw[Jj]) FP Fs rfl)
 go_upto_region 9 with (go_at_call 24;refine f.mono ?_;rintro e w8⟨x,p1,c1,rfl,hX,_,a5⟩;have H8:=aa (ab hX a5);clear f hX a5);have b9:=aD w8 (.cells zF 39);have X:=z7 w8 (.cells zF 39);obtain⟨Y,J⟩:=ag (w8.alloc (.cells zF 39));obtain⟨F1,L⟩:=ag w8.heap.size;rw[J]at b9 X;rw[L]at X
 try rw[J]
 try rw[L]
 have H9:=aa (ab (H8.1.later b9) (ab X (aB H7.1 (aB H8.2 b9))));have y0:=aA X 0;have yl:=aC X;clear b9 X J L;go_upto_region 11 with fail;clear y0 yl;have M:=aD Y (.cells Bq 29);have A:=z7 Y (.cells Bq 29);obtain⟨Z,r⟩:=ag (Y.alloc (.cells Bq 29));obtain⟨m,hm⟩:=ag Y.heap.size;rw[r]at M A;rw[hm]at A;have k:=aa (ab M (ab A (ab r hm)));clear M A r hm;go_upto_region 12 with fail
 try rw[k.2.2.1]
 try rw[k.2.2.2]
 go_upto_region 13 with fail
 go_cut []from 67 to 77 (fun wx=>wx.heap[m]?=some (.cells #[.int .i64 2,.string ap,.int .i64 0,.string e0,.slice none 0 0,.int .i64 2,.string an,.int .i64 0,.string e0,.slice none 0 0] 29)/\Z.grownBy wx (some m))
 case first =>
  have n:=k.2.1;have d7:=aA n 0;have d8:=aA n 1;have d9:=aA n 2;have e1:=aA n 3;have e2:=aA n 4;have e3:=aA n 5;have e4:=aA n 6;have e5:=aA n 7;have e6:=aA n 8;have e7:=aA n 9;have zf:=(fun i=>zo Z m i _ _ n);have zl:=aC n;clear n
  go_region_law fail
  all_goals
   go_wp2_with fail;go_meet
   first
   | exact qK (sF k.2.1)
   | exact sF k.2.1
 obtain⟨d4,R⟩:=hcut;obtain⟨b4,rfl⟩:∃y,y=wc:=⟨_,rfl⟩;have d5:Below Y.heap.size Y _:=aT k.1 (zm _) R (xy k.2.2.2);have l:ga (fun q=>q<b4.heap.size) b4 (.slice (some ⟨m,0,none⟩) 2 2) [dA,dB]:=ga.of (base:=Y.heap.size) (fJ (v1:=.slice none 0 0) (v2:=.slice none 0 0) d4 rfl (xy k.2.2.2) ac.nil ac.nil) (fun q _ U=>U);have s:=aa (ab d5 l);clear R d4 d5 l;have f:=(bN (H9.1.later s.1) s.2 BP (by decide) (fun o z=>by rcases List.mem_cons.1 z with rfl|z;exact C';rw[List.mem_singleton.1 z];exact BZ)).mono (fun e w h=>cF h (by rw[EN]) rfl rfl rfl);go_upto_region 15 with (go_at_call 24;refine f.mono ?_;rintro e B⟨y,p2,c2,rfl,_,_,H⟩;have b5:=aa H;clear f H);have N:=aD B (.cells zF 39);have E:=z7 B (.cells zF 39);obtain⟨t,u⟩:=ag (B.alloc (.cells zF 39));obtain⟨F2,O⟩:=ag B.heap.size;rw[u]at N E;rw[O]at E
 try rw[u]
 try rw[O]
 have F:=aa (ab (aB b5.out N) E);clear N E u O;have l:ga (fun q=>q<t.heap.size) t (.slice (some ⟨m,5,none⟩) 1 1) [dB]:=(s.2.later F.1).part (c2:=1) 1 1 (by decide)
 have f:Calls prog 24 #[.pointer (some ⟨x,0,none⟩),.slice (some ⟨m,5,none⟩) 1 1] t fun e w=>e=.returned (.tuple #[.pointer none,.slice none 0 0,bj 9 1 ap 0 an])/\Below t.heap.size t w:=
  (bN ((H9.1.later s.1).later F.1) l BP (by decide) (fun o z=>by rw[List.mem_singleton.1 z];exact BZ)).mono (fun e w h=>dF h C5 (by decide))
 clear l;go_upto_region 19 with (go_at_call 24;refine f.mono ?_;rintro e G⟨rfl,I⟩;have b6:=aa I;clear f I);have P:=aD G (.cells #[.int .i64 9,.int .i64 1,.string ap,.int .i64 0,.string an] 39);have j:=z7 G (.cells #[.int .i64 9,.int .i64 1,.string ap,.int .i64 0,.string an] 39);obtain⟨d6,v⟩:=ag (G.alloc (.cells #[.int .i64 9,.int .i64 1,.string ap,.int .i64 0,.string an] 39));obtain⟨F3,Q⟩:=ag G.heap.size;rw[v]at P j;rw[Q]at j
 try rw[v]
 try rw[Q]
 have a:=aB b6.out P;have kf:=aE a F.2;have a0:=aA kf 0;have al:=aC kf;have f0:=aA j 0;have f1:=aA j 1;have f2:=aA j 2;have f4:=aA j 4;have fl:=aC j;have HZ:=aa (aB HA.2 (aB H9.2.2 (aB s.1 (aB F.1 a))));clear a kf P j v Q;go_wp2_with fail;go_ret;exact⟨rfl,HZ.out⟩
