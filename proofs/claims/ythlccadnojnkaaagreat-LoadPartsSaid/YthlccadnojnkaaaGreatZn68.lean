import Derived.Test.YthlccadnojnkaaaGreatZn65
set_option maxHeartbeats 8000000
set_option maxRecDepth 100000
namespace Go.Proofs.YthlccadnojnkaaaGreat
open Go.Proofs.Tryz
open Go Go.RowKit Go.Proofs Co Co.S
section
variable {ts:List T}
theorem vR:∀{a b:List cx} {L:List PT} {k:Nat} {ids:List Int},(dt ts L k ids a).err=0->dt ts L k ids (a++b)=dt ts (dt ts L k ids a).rows (k+a.length) (dt ts L k ids a).ids b
 | [],b,L,k,ids,_=>by rw[dt];rfl
 | o::a,b,L,k,ids,h=>by
  rw[dt]at h;rw[ui,dt,dt];by_cases c:(py ts L o).2=0
  ·rw[zv c]at h ⊢;rw[zv c,vR h,xe,show k+1+a.length=k+(a.length+1)by omega]
  ·rw[zq c]at h;exact absurd h c
theorem qJ:∀{l:List cx} {L:List PT} {k k':Nat} {ids ids':List Int},(dt ts L k ids l).rows=(dt ts L k' ids' l).rows/\(dt ts L k ids l).err=(dt ts L k' ids' l).err
 | [],L,k,k',ids,ids'=>by rw[dt,dt];exact⟨rfl,rfl⟩
 | o::l,L,k,k',ids,ids'=>by
  rw[dt,dt];by_cases a:(py ts L o).2=0
  ·rw[zv a,zv a];exact qJ
  ·rw[zq a,zq a];exact⟨rfl,rfl⟩
theorem iQ{L:List PT}{l:List cx}(h0:0<l.length)(h1:l.length<=40):ak ts L l=dt ts L 0 [] l:=by
 unfold ak;rw[zq (by omega)]
end
theorem yW{L:List PT}{l:List cx}{a:Nat}(ha:1<=a)(hb:a<l.length)(hl:l.length<=20)(h1:(dn L (l.take a)).1=0)(h2:(dn (ak (pre 4) L (l.take a)).rows (l.drop a)).1=0):(dn L l).1=0/\(ak (pre 4) L l).rows=(ak (pre 4) (ak (pre 4) L (l.take a)).rows (l.drop a)).rows:=by
 obtain⟨d,_⟩:=oN h1;obtain⟨b,c⟩:=oN h2;have e:ak (pre 4) L (l.take a)=dt (pre 4) L 0 [] (l.take a):=iQ (by rw[we];omega) (by rw[we];omega);rw[e]at d b c ⊢;have f:ak (pre 4) (dt (pre 4) L 0 [] (l.take a)).rows (l.drop a)=dt (pre 4) (dt (pre 4) L 0 [] (l.take a)).rows 0 [] (l.drop a):=iQ (by rw[ua];omega) (by rw[ua];omega);rw[f]at b c ⊢
 have g:ak (pre 4) L l=dt (pre 4) (dt (pre 4) L 0 [] (l.take a)).rows (0+(l.take a).length) (dt (pre 4) L 0 [] (l.take a)).ids (l.drop a):=by
  rw[iQ (by omega) (by omega),<-vR d,uo]
 obtain⟨h,i⟩:=qJ (ts:=pre 4) (l:=l.drop a) (L:=(dt (pre 4) L 0 [] (l.take a)).rows) (k:=0+(l.take a).length) (k':=0) (ids:=(dt (pre 4) L 0 [] (l.take a)).ids) (ids':=[]);unfold dn;rw[g,h,i,zv b,zv c];exact⟨rfl,rfl⟩
theorem Hj{W:World}{p:Option Addr}{c:Nat}{L:List cx}(M:Nat)(hM:M<=1000)(h:qi W p L)(hL:L.length<=maxLen):Calls prog 23 #[.slice p L.length c,.int .i64 (M:Int)] W fun e a=>∃g n k,e=.returned (.slice g n k)/\(((L.take M).map fe).length=n/\n<=k/\k<=maxLen/\(0<n->∃b,g=some ⟨b,0,none⟩))/\ga (fun q=>q<a.heap.size) a (.slice g n k) ((L.take M).map fe)/\Below W.heap.size W a:=by
 refine(C9 M hM h hL).mono ?_;rintro e a⟨s,rfl,d,i⟩;have j:=ga.of d (fun q _ l=>l);obtain⟨sv,_,f,_⟩:=d;obtain⟨g,k,rfl,m,o⟩:=f.isslice;refine⟨g,_,k,rfl,⟨rfl,m,o,fun r=>?_⟩,j,i⟩;obtain⟨b,t,e,_,_⟩:=ac.slice f r;cases e;exact⟨b,rfl⟩
theorem yX{q po:Option Addr}{cq co:Nat}{LL:List (List cx)}{M:List cx}{a2:Int}(W:World)(hB:si W q LL)(hm:LL.length<=maxLen)(hM:qi W po M)(hMm:M.length<=maxLen)(hid:∀o∈M,kj o.id):Calls prog 9 #[.slice q LL.length cq,.slice po M.length co,.int .i64 a2] W fun e w'=>e=.returned (.bool true)/\Below W.heap.size W w':=by
 have c0:=eI W;have HX:=aa hB;have HL:=aa (fun(w:World) (hw:Below W.heap.size W w)=>iP (cq:=cq) (N:=6) (HX.out.later hw) hm (by decide));have c8:=aa (fun(w:World) (hw:Below W.heap.size W w)=>Hj (c:=co) 20 (by decide) (iN hM hw) hMm);have d0:=yB hid 20;have X:((M.take 20).map fe).length<=20:=(by rw[yh,we];omega);obtain⟨s,c5⟩:=ag ((M.take 20).map fe);rw[c5]at c8 d0 X;have HO:=aa (ab d0 X);obtain⟨n,hn⟩:=ag LL.length;obtain⟨n2,f5⟩:=ag M.length;rw[hn]at HL ⊢;rw[f5]at c8 ⊢;clear hn f5 hB hm hM hMm hid d0 X c5;go_enter func9,ntmps9;go_upto_region 4 with (go_at_call 21;refine c0.mono ?_;rintro e w4⟨rfl,f6⟩;have H4:=aa f6;clear c0 f6);have hl:Calls prog 22 #[.slice q n cq,.int .i64 6] w4 _:=HL.out w4 H4.out;go_upto_region 5 with (go_at_call 22;refine hl.mono ?_;rintro e w5⟨d,b,L,rfl,hA,hN,hs,_,f7⟩;have H5:=aa (ab hA (ab hN (ab hs (aB H4.out f7))));clear hl hA hN hs f7);have hO:Calls prog 23 #[.slice po n2 co,.int .i64 20] w5 _:=c8.out w5 H5.2.2.2;go_upto_region 8 with (go_at_call 23;refine hO.mono ?_;rintro e w6⟨p6,n6,k6,rfl,f8,hK,d1⟩;have v:=aa (ab hK (ab d1 (ab (aB H5.2.2.2 d1) f8)));clear hO hK d1 f8);by_cases i0:a2<1
 ·go_wp2_with fail;go_ret;exact⟨rfl,v.2.2.1⟩
 by_cases i1:a2≥(n6:Int)
 ·go_wp2_with fail;go_ret;exact⟨rfl,v.2.2.1⟩
 obtain⟨a,rfl⟩:∃a:Nat,a2=(a:Int):=⟨a2.toNat,by omega⟩;have g7:a<n6:=(by omega);have f9:1<=a:=(by omega);obtain⟨g,rfl⟩:=v.2.2.2.2.2.2 (by omega);have g8:=v.2.2.2.2.1;have i2:(k6:Int)<=9223372036854775807:=(by have:=v.2.2.2.2.2.1;unfold maxLen at this;omega);have i3:(a:Int)<=(k6:Int):=(by omega);have h5:(a:Int)<=(n6:Int):=(by omega);have h6:(n6:Int)<=(k6:Int):=(by omega);have i4:k6≠a:=(by omega);have A:(s.take a).length<=20:=(by rw[we];have:=HO.2;omega);have B:(s.drop a).length<=20:=(by rw[ua];have:=HO.2;omega);have g0:=v.2.2.2.1;have d2:=aa (fun h1 h2=>yW (L:=L) (l:=s) f9 (by rw[g0];exact g7) HO.2 h1 h2)
 have g1:Hid (∀w,Below w6.heap.size w6 w->ga (fun q=>q<w.heap.size) w (.slice (some ⟨g,0,none⟩) a k6) (s.take a)):=aa (fun w hw=>by
  have:=(v.1.later hw).part (c2:=k6) 0 a (by omega)
  rw[ym,Nat.zero_mul]at this;exact this)
 have g2:Hid (∀w,Below w6.heap.size w6 w->ga (fun q=>q<w.heap.size) w (.slice (some ⟨g,a*5,none⟩) (n6-a) (k6-a)) (s.drop a)):=aa (fun w hw=>by
  have:=(v.1.later hw).part (c2:=k6-a) a (n6-a) (by omega)
  rw[yy (by rw[ua];omega)]at this;have e:(some (⟨g,0,none⟩:Addr)).map (fun x=>(⟨x.block,x.off+a*5,none⟩:Addr))=some ⟨g,a*5,none⟩:=(by simp);rw[e]at this;exact this)
 have Y:∀o∈s.take a,ir o:=(fun o ho=>HO.1 o (ue ho));have Z:∀o∈s.drop a,ir o:=(fun o ho=>HO.1 o (List.mem_of_mem_drop ho));obtain⟨l1,g3⟩:=ag (s.take a);obtain⟨l2,g4⟩:=ag (s.drop a);rw[g3]at d2 g1 Y A;rw[g4]at d2 g2 Z B;have HK:=aa (ab Y (ab Z (ab A B)));have j:=bN (H5.1.later v.2.1) (g1.out w6 (zb _ _)) H5.2.2.1 (by have:=HK.2.2.1;omega) HK.1;clear f9 g8 g0 Y Z A B g3 g4;by_cases h1:(dn L l1).1=0
 ·obtain⟨R1,b4⟩:=ag ((ak (pre 4) L l1).rows)
  have a1:∀x∈R1,dw 272 x:=fun x hx=>by
   rw[<-b4]at hx;exact(eV H5.2.2.1 x hx).mono (by have:=HK.2.2.1;omega)
  have d3:=d2.out h1;rw[b4]at d3;have k:=j.mono (fun e w' h=>cF h h1 b4 rfl rfl);have d4:=aa (ab a1 d3);clear j a1 d3 h1 b4;go_upto_region 11 with (go_at_call 24;refine k.mono ?_;rintro e E⟨x,p1,c1,rfl,hX,_,a3⟩;have H7:=aa (ab hX a3);clear k hX a3);have b8:=aD E (.cells zF 39);have V:=z7 E (.cells zF 39);obtain⟨w8,G⟩:=ag (E.alloc (.cells zF 39));obtain⟨F,hF⟩:=ag E.heap.size;rw[G]at b8 V;rw[hF]at V
  try rw[G]
  try rw[hF]
  have O:=aa (ab (aB H7.2 b8) (ab V (ab b8 hF)));have y0:=aA V 0;have yl:=aC V;clear b8 V G hF;go_upto_region 13 with fail;clear y0 yl;have j:=bN (H7.1.later O.2.2.1) (g2.out w8 O.1) d4.1 (by have:=HK.2.2.2;omega) HK.2.1;have h7:((n6-a:Nat):Int)=(n6:Int)-(a:Int):=(by omega);by_cases h2:(dn R1 l2).1=0
  ·obtain⟨R2,b5⟩:=ag ((ak (pre 4) R1 l2).rows)
   have a4:∀x∈R2,dw 292 x:=fun x hx=>by
    rw[<-b5]at hx;exact(eV d4.1 x hx).mono (by have:=HK.2.2.2;omega)
   obtain⟨h3,d5⟩:=d4.2 h2;rw[b5]at d5;have k:=j.mono (fun e w' h=>vN h h2 b5 rfl rfl);have R:=aa (ab a4 (ab h3 d5));clear j a4 h2 b5 h3 d5;go_upto_region 14 with (go_at_call 24;refine k.mono ?_;rintro e w9⟨y,p2,c2,rfl,hY,_,H⟩;have H9:=aa (ab hY H);have f:=aE H O.2.1;have z0:=aA f 0;have z1:=aA f 1;have z2:=aA f 2;have a5:=aA f 3;have z4:=aA f 4;have zf:=fun i=>zo w9 F i _ _ f;have zl:=aC f;clear k hY H f);clear z0 z1 z2 a5 z4 zf zl;have U:=aE H9.2 O.2.1;have r:=gS U (.int .i64 0) (.int .i64 0) (.string e0) (.int .i64 0) (.string e0);have d6:=aW w9 F (.int .i64 0) (.int .i64 0) (.string e0) (.int .i64 0) (.string e0);have I:Below E.heap.size E _:=aT (aB O.2.2.1 H9.2) (zm _) d6 (xy O.2.2.2);have d7:=yU U d6;obtain⟨d8,p⟩:=ag (((((w9.setCell ⟨F,0,none⟩ (.int .i64 0)).setCell ⟨F,1,none⟩ (.int .i64 0)).setCell ⟨F,2,none⟩ (.string e0)).setCell ⟨F,3,none⟩ (.int .i64 0)).setCell ⟨F,4,none⟩ (.string e0));rw[p]at r I d7;rw[p];have t:=aa (ab r (ab I d7));have y0:=aA r 0;have yl:=aC r;clear U r d6 I d7 p;have P:=H7.2.trans (t.2.1.mono H7.2.size);have h8:=aa P;have k:=(bN ((H5.1.later v.2.1).later P) (v.1.later P) H5.2.2.1 (by have:=HO.2;omega) HO.1).mono (fun e w' h=>vN h R.2.1 R.2.2 rfl rfl);go_upto_region 16 with fail;clear y0 yl P;go_upto_region 17 with (go_at_call 24;refine k.mono ?_;rintro e d9⟨z,p3,c3,rfl,hZ,_,a6⟩;have b6:=aa (ab hZ a6);have f:=aE a6 t.1;have z0:=aA f 0;have z1:=aA f 1;have z2:=aA f 2;have a5:=aA f 3;have z4:=aA f 4;have zf:=fun i=>zo d9 F i _ _ f;have zl:=aC f;clear k hZ a6 f);clear z0 z1 z2 a5 z4 zf zl;have a7:=aE b6.2 t.1;have e6:=gS a7 (.int .i64 0) (.int .i64 0) (.string e0) (.int .i64 0) (.string e0);have e7:=aW d9 F (.int .i64 0) (.int .i64 0) (.string e0) (.int .i64 0) (.string e0);have e8:Below E.heap.size E _:=aT (t.2.1.trans (b6.2.mono t.2.1.size)) (zm _) e7 (xy O.2.2.2);have e9:=yU a7 e7;have i5:F<w8.heap.size:=aC O.2.1;have h9:F<d8.heap.size:=aC t.1;have f1:=b6.1 _ (e9.mono (T1:=fun q=>q<d8.heap.size) (fun q _ hq=>by have hq:q=F:=hq;show q<_;omega));have f2:=H9.1 _ (((t.2.2.trans (Tn.of_below (S:=fun _=>False) b6.2) (fun _ _ h=>h) (fun _ _ h=>h.elim)).trans e9 (fun _ _ h=>h) (fun _ _ h=>h)).mono (T1:=fun q=>q<w8.heap.size) (fun q _ hq=>by have hq:q=F:=hq;show q<_;omega));obtain⟨i6,a8⟩:=ag (((((d9.setCell ⟨F,0,none⟩ (.int .i64 0)).setCell ⟨F,1,none⟩ (.int .i64 0)).setCell ⟨F,2,none⟩ (.string e0)).setCell ⟨F,3,none⟩ (.int .i64 0)).setCell ⟨F,4,none⟩ (.string e0));rw[a8]at e6 e8 f1 f2;rw[a8];have Q:=H7.2.trans (e8.mono H7.2.size);have b7:=aa (ab e6 (ab Q (ab f1 f2)));clear a7 e6 e7 e8 e9 a8 f1 f2;have g5:=(kR ((H5.2.1.later v.2.1).later Q) (v.1.later Q) H5.2.2.1 (by have:=HO.2;omega) HO.1).mono (fun e w' h=>cF h R.2.1 R.2.2 rfl rfl);clear Q;go_upto_region 18 with (go_at_call 26;refine g5.mono ?_;rintro e b9⟨u,p4,c4,rfl,hU,_,c6⟩;have f3:=aa (ab hU c6);clear g5 hU c6);have a9:=aD b9 (.cells zF 39);have b0:=z7 b9 (.cells zF 39);obtain⟨i7,b1⟩:=ag (b9.alloc (.cells zF 39));obtain⟨F2,f4⟩:=ag b9.heap.size;rw[b1]at a9 b0;rw[f4]at b0
   try rw[b1]
   try rw[f4]
   have m:=aB f3.2 a9;have f:=aE m b7.1;have a0:=aA f 0;have al:=aC f;have f0:=aA b0 0;have fl:=aC b0;have a1:=(BK (b7.2.2.1.later m) (f3.1.later a9)).same R.1 (by decide);have HY:=aa (BK (b7.2.2.2.later m) (f3.1.later a9));have g6:=aa (aB (aB v.2.2.1 b7.2.1) m);clear m f a9 b0 b1 f4
   go_wp2_with (first|(go_at_call 25;(with_reducible refine a1.mono ?_);rintro e i8⟨rfl,b2⟩;have g9:=aa b2;have a4:=(HY.out.later b2).same R.1 (by decide);clear a1 b2)|(go_at_call 25;(with_reducible refine a4.mono ?_);rintro e i9⟨rfl,c7⟩;have h0:=aa (aB g9.out c7);clear a4 c7))
   go_ret;exact⟨rfl,aB g6.out h0.out⟩
  obtain⟨⟨e1,e2,e3,e4,e5⟩,J⟩:∃x,dn R1 l2=x:=⟨_,rfl⟩;have b3:e1≠0:=(by rw[J]at h2;exact h2);have h4:(e1 != 0)=true:=(by simp[b3]);have k:=j.mono (fun e w' h=>dF h J b3);clear j h2 J;go_upto_region 14 with (go_at_call 24;refine k.mono ?_;rintro e w9⟨rfl,H⟩;have H9:=aa H;have f:=aE H O.2.1;have z0:=aA f 0;have z1:=aA f 1;have z2:=aA f 2;have a5:=aA f 3;have z4:=aA f 4;have zf:=fun i=>zo w9 F i _ _ f;have zl:=aC f;clear k H f);clear z0 z1 z2 a5 z4 zf zl;have U:=aE H9.out O.2.1;have r:=gS U (.int .i64 e1) (.int .i64 e2) (.string e3) (.int .i64 e4) (.string e5);have I:Below E.heap.size E _:=aT (aB O.2.2.1 H9.out) (zm _) (aW w9 F (.int .i64 e1) (.int .i64 e2) (.string e3) (.int .i64 e4) (.string e5)) (xy O.2.2.2);obtain⟨d8,p⟩:=ag (((((w9.setCell ⟨F,0,none⟩ (.int .i64 e1)).setCell ⟨F,1,none⟩ (.int .i64 e2)).setCell ⟨F,2,none⟩ (.string e3)).setCell ⟨F,3,none⟩ (.int .i64 e4)).setCell ⟨F,4,none⟩ (.string e5));rw[p]at r I;rw[p];have t:=aa (H7.2.trans (I.mono H7.2.size));have y0:=aA r 0;have yl:=aC r;clear U r I p;go_wp2_with fail;go_ret;exact⟨rfl,aB v.2.2.1 t.out⟩
 obtain⟨⟨e1,e2,e3,e4,e5⟩,J⟩:∃x,dn L l1=x:=⟨_,rfl⟩;have b3:e1≠0:=(by rw[J]at h1;exact h1);have h4:(e1 != 0)=true:=(by simp[b3]);have k:=j.mono (fun e w' h=>dF h J b3);clear j h1 J;go_upto_region 11 with (go_at_call 24;refine k.mono ?_;rintro e E⟨rfl,a3⟩;have H7:=aa a3;clear k a3);have b8:=aD E (.cells #[.int .i64 e1,.int .i64 e2,.string e3,.int .i64 e4,.string e5] 39);have V:=z7 E (.cells #[.int .i64 e1,.int .i64 e2,.string e3,.int .i64 e4,.string e5] 39);obtain⟨w8,G⟩:=ag (E.alloc (.cells #[.int .i64 e1,.int .i64 e2,.string e3,.int .i64 e4,.string e5] 39));obtain⟨F,hF⟩:=ag E.heap.size;rw[G]at b8 V;rw[hF]at V
 try rw[G]
 try rw[hF]
 have O:=aa (aB H7.out b8);have y0:=aA V 0;have yl:=aC V;clear b8 V G hF;go_wp2_with fail;go_ret;exact⟨rfl,aB v.2.2.1 O.out⟩
end Go.Proofs.YthlccadnojnkaaaGreat
namespace Go.Proofs.YthlccadnojnkaaaGreat
open Go.Proofs.Tryz
open Go Go.ChangeShapes Go.WideShapes Go.ChangeAt Go.RowKit
open Go.ChangeMaps (open_string shut_string)
theorem kU(os:Os)(started:os.Started)(H:Type)(enc:TypeId×Value->H):ReturnsInHanded {} Tryz.checked os 9 .any (Rows.loadPartsSpec.pre6 enc prog Tryz.f9 Rows.loadPartsRow.domain false) (Rows.loadPartsSpec.post enc prog Tryz.f9 false true false false):=by
 refine returnsInHanded_of_change (C:=Tryz.checked) own started (by kernel_rfl) func9
  (ChangeSpec.witness6 (enc:=enc) (C:=Tryz.checked) false ⟨#[],#[.slice none 0 0,.slice none 0 0,.int .i64 0],[]⟩ 8 (by kernel_rfl) (by kernel_rfl) (by kernel_rfl) (by kernel_rfl)) ?_
 intro W c args I gs g b w _ _;have a:∀(j:Nat) t v,Tryz.f9.params[j]?=some t->args[j]?=some v->Value.okWide prog W .any c t v:=b;have i:=w;obtain⟨p,q,d,J,rfl,L,M⟩:=w;have y:DataW.TrodAll enc prog W 0 (fun _=>true) true Tryz.f9.params.toList args.toList I p:=d;rw[Tryz.params9]at y a;obtain⟨v0,N,d0,O,P,q0,k,rfl,rfl,z,r0⟩:=trodAll_cons y;obtain⟨v1,Q,d1,R,S,q1,rfl,rfl,rfl,A,r1⟩:=trodAll_cons r0;obtain⟨v2,U,d2,V,X,q2,rfl,rfl,rfl,B,Y⟩:=trodAll_cons r1;obtain⟨rfl,rfl,rfl⟩:=trodAll_nil Y;obtain rfl:args=#[v0,v1,v2]:=(by cases args;simp_all);obtain⟨rfl,rfl⟩:=trodVars_none J;have E:=z;have l:∀x∈P,x.block<W.heap.size:=(by obtain⟨m,f⟩:=E;exact DataW.trod_lt m _ _ _ f);obtain⟨Z,L0,c0,rfl,s0,n⟩:=fK (okWide_slice underlying49 (a 0 49 v0 rfl rfl)) z;have F:=A;have o:∀x∈S,x.block<W.heap.size:=(by obtain⟨m,f⟩:=F;exact DataW.trod_lt m _ _ _ f);obtain⟨a0,L1,c1,rfl,s1,r,s⟩:=vQ (okWide_slice underlying35 (a 1 35 v1 rfl rfl)) A;have G:=B;have u:∀x∈X,x.block<W.heap.size:=(by obtain⟨m,f⟩:=G;exact DataW.trod_lt m _ _ _ f);obtain⟨a2,rfl,_,_,w2⟩:=open_int underlying3 (a 2 3 v2 rfl rfl) B;clear d b;refine(yX W s0 n s1 r s).mono fun e W'⟨he,bel⟩=>?_
 subst he;exact⟨_,rfl,_,_,_,[],_,[],i,trodAll_mk1 (shut_bool underlying4 _),(trodAll_cons_mk (Below.trod bP (by kernel_rfl) (wj (by kernel_rfl)) E bel l) (trodAll_cons_mk (Below.trod bP (by kernel_rfl) (wj (by kernel_rfl)) F bel o) (trodAll_cons_mk (Below.trod bP (by kernel_rfl) (wj (by kernel_rfl)) G bel u) trodAll_mk0))),rfl,bel.frame _,fun h=>by cases h⟩
theorem loadParts_holds:Rows.LoadPartsSaid:=
 OpenClaim.holds_of_wide 9 Tryz.f9 rfl rfl rfl rfl rfl rfl rfl ⟨rfl,rfl,rfl,rfl,rfl⟩ rfl rfl rfl rfl rfl (by kernel_rfl) func9 (by kernel_rfl)
  (wj (by kernel_rfl)) (by unfold Func.isWrapper;first | (rw[zv (by decide +kernel)];kernel_rfl) | (rw[zq (by decide +kernel)];exact⟨rfl,rfl⟩))
  (fun os a H b _=>kU os a H b)
