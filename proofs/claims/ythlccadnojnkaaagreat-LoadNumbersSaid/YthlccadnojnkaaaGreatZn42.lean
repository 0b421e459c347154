import Derived.Test.YthlccadnojnkaaaGreatZn41
set_option maxHeartbeats 8000000
set_option maxRecDepth 100000
namespace Go.Proofs.YthlccadnojnkaaaGreat
open Go.Proofs.Tryz
open Go Go.RowKit Go.Proofs Co Co.S Par
structure JR (W:World) (A:List R1) (E:Nat->Value) (l:Nat->Bool) (vs:Nat->Value) (w:World):Prop where
 bel:Below W.heap.size W w
 ev:∀j,j≠4->l j=true->vs j=E j
 v4:l 4=true->∃p n c,vs 4=.agg #[.slice p n c]/\Vm w (.slice p n c) (ou A)
section
variable {W w w':World}{A:List R1}{E:Nat->Value}{l:Nat->Bool}{vs:Nat->Value}
theorem JR.up(h:JR W A E l vs w)(i:Nat)(hi:i≠4):JR W A E (fq l i) (fk vs i (E i)) w:=by
 refine⟨h.bel,fun j b a=>?_,fun a=>?_⟩
 ·by_cases e:j=i
  ·subst e;rw[aS]
  rw[aJ e];rw[aI e]at a;exact h.ev j b a
 rw[aI (fun e=>hi e.symm)]at a;rw[aJ (fun e=>hi e.symm)];exact h.v4 a
theorem JR.on(h:JR W A E l vs w)(hb:Below w.heap.size w w'):JR W A E l vs w':=by
 refine⟨aB h.bel hb,h.ev,fun a=>?_⟩;obtain⟨p,n,c,e,b⟩:=h.v4 a;exact⟨p,n,c,e,b.later hb⟩
theorem JR.live(h:JR W A E l vs w){p:Option Addr}{n c:Nat}(hv:Vm w' (.slice p n c) (ou A))(hb:Below w.heap.size w w'):JR W A E (fq l 4) (fk vs 4 (.agg #[.slice p n c])) w':=by
 refine⟨aB h.bel hb,fun j a b=>?_,fun _=>⟨p,n,c,aS,hv⟩⟩;rw[aJ a];rw[aI a]at b;exact h.ev j a b
theorem kL{v:Value}(hv:Vm w v (ou A))(hs:A.Pairwise (fun a b=>a.1<b.1)):Calls prog 53 #[.agg #[v]] w fun e g=>e=.returned (.int .i64 (A.length:Int))/\Below w.heap.size w g:=by
 have c:=DU hv;obtain⟨l,_,d,f⟩:=hv;rw[<-f.els d,jG d f hs,yh]at c;exact c
end
theorem F9{W0:World}{d b:Nat}{ts:List T}{st:List DT}{tt:List RT}{O Ob:Nat->Nat}{i:NI}(hD:Dd W0 d ts st O)(hN:ew W0 b ts tt i Ob){t:Nat}(ht:t<ts.length)(ht':t<st.length)(htt:t<tt.length)(he:st[t].2=bo tt[t])(hsz:ts[t].nm.size<=maxLen)(h0:0<ts[t].cols.length)(hc1:ts[t].cols.length<=1000)(hAl:tt[t].A.length<=100000)(hm8:ts.length<=8):Calls prog 59 #[.pointer (some ⟨d,0,none⟩),.pointer (some ⟨b,0,none⟩),.int .i64 (t:Int),.string ts[t].nm] W0 fun e w'=>e=.returned (.bool true)/\Below W0.heap.size W0 w':=by
 have z:=hD.table ht hsz ht';obtain⟨lab,B,_⟩:=hD.tab t ht ht';have hy:tt[t]?=some tt[t]:=z6 htt;have v:=hN.ok ht hy;obtain⟨⟨gs,cs,go,co,gn,cn,pc,f6,pd,f7⟩,e2,_,_,_,_,_,hR⟩:=hN.reads ht hy;obtain⟨y,a0⟩:=ag (tt[t]);obtain⟨⟨tb,nx,A⟩,a1⟩:∃s,st[t]=s:=⟨_,rfl⟩;rw[a0]at he v hR hAl;rw[a1]at he B z;dsimp only at he B z;obtain⟨rfl,rfl⟩:nx=y.nx/\A=y.A:=(by cases he;exact⟨rfl,rfl⟩);obtain⟨x,a2⟩:=ag ts.length;have f8:(t:Int)<(x:Int):=(by omega);have f9:t<x:=(by omega);have f4:(x:Int)<=8:=(by omega);obtain⟨A,Y⟩:=ag y.A;obtain⟨nx,P⟩:=ag y.nx;rw[Y]at hAl;rw[Y,P]at B;have E:=v.len;rw[Y]at E;obtain⟨nm,a3⟩:=ag (ts[t].nm);obtain⟨nc,Q⟩:=ag (ts[t].cols.length);rw[Q]at E;obtain⟨na,H⟩:=ag A.length;have f5:(na:Int)<=100000:=(by omega);obtain⟨pr,cr,J,_,_⟩:=v.rows.isslice;rw[Y,H]at J
 have F:Hid (∀w,Below W0.heap.size W0 w->True/\w.cell? ⟨b,1,none⟩=some (.slice (some ⟨go,0,none⟩) x co)/\w.cell? ⟨b,2,none⟩=some (.slice (some ⟨gn,0,none⟩) x cn)/\w.cell? ⟨go,t,none⟩=some (.slice pr na cr)/\w.cell? ⟨gn,t,none⟩=some (.int .i64 (nx:Int))/\True/\b<w.heap.size/\go<w.heap.size/\gn<w.heap.size):=aa (fun w G=>by
  have k:=hR w G;rw[<-a2,<-J,<-P];exact⟨trivial,k.b1,k.b2,k.o0,k.n0,trivial,k.bl,k.ol,k.nl⟩)
 have a4:Hid (∀k (M:k<A.length),∃gr gv cv,pr=some ⟨gr,0,none⟩/\∀w,Below W0.heap.size W0 w->w.cell? ⟨gr,k*2,none⟩=some (.int .i64 A[k].1)/\w.cell? ⟨gr,k*2+1,none⟩=some (.slice (some ⟨gv,0,none⟩) nc cv)/\ac w 0 32 3 (.slice (some ⟨gv,0,none⟩) nc cv) nc (cells3 A[k].2)/\gr<w.heap.size):=aa (fun k M=>by
  subst Y;have b3:k<y.vs.length:=(by rw[v.n];exact M);have L:=v.vals k M b3;rw[E _ (z8 M)]at L;obtain⟨gv,cv,r5,_,_⟩:=L.slice (by omega);rw[r5]at L;obtain⟨gr,g0,r1,_,_⟩:=v.rows.slice (by omega);have a5:=v.rows;rw[r1]at a5;rw[J,H]at r1;cases r1;obtain⟨q1,q2⟩:=dI v.n M;rw[r5]at q2;refine⟨gr,gv,cv,rfl,fun w G=>?_⟩;have R:=a5.later G;exact⟨R.cell q1,R.cell q2,L.later G,(ac.lt R gr rfl).2⟩)
 have HL:Hid (∀w,Below W0.heap.size W0 w->Calls prog 52 #[.pointer (some ⟨tb,0,none⟩)] w (ta (ou A) w)):=aa (fun w G=>fD (B.later G));have b4:Hid (∀w,Below W0.heap.size W0 w->Calls prog 30 #[.pointer (some ⟨tb,0,none⟩)] w fun e w'=>e=.returned (.int .i64 (nx:Int))/\w'=w):=aa (fun w G=>qZ (B.later G))
 have b5:Hid (∀w (p:Option Addr) (n c:Nat),Vm w (.slice p n c) (ou A)->Calls prog 53 #[.agg #[.slice p n c]] w fun e Z=>e=.returned (.int .i64 (na:Int))/\Below w.heap.size w Z):=aa (fun w p n c hv=>by
  have:=kL hv B.srt
  rw[H]at this;exact this)
 have b6:Hid (∀w,Below W0.heap.size W0 w->∀k (M:k<A.length),Calls prog 84 #[.pointer (some ⟨tb,0,none⟩),.int .i64 A[k].1] w fun e w'=>∃g c,e=.returned (.tuple #[.slice (some ⟨g,0,none⟩) nc c,.bool true])/\ac w' w.heap.size 32 3 (.slice (some ⟨g,0,none⟩) nc c) nc (cells3 A[k].2)/\Below w.heap.size w w'):=aa (fun w G k M=>by
  refine(fC (B.later G) (z8 M) hc1 h0).mono ?_;rintro e w'⟨g,c,rfl,_,hr,b7⟩;rw[Q]at hr ⊢;exact⟨g,c,rfl,hr,b7⟩)
 have HN:=aa (ab H E);rw[a3]at z ⊢;clear hD B hN hy v e2 hR a0 a1 Y P he hsz h0 hc1 hAl J E a3 Q H a2 hm8 ht ht' htt;go_enter func59,ntmps59;go_upto_region 2 with (go_at_call 29;refine z.mono ?_;rintro e Z⟨rfl,hw⟩;subst Z;clear z);refine ay 28 (JR W0 A (fun b8=>[.pointer (some ⟨tb,0,none⟩),.bool false,.bool false,.pointer (some ⟨tb,0,none⟩),undef,.int .i64 (na:Int),.pointer (some ⟨b,0,none⟩),.pointer (some ⟨b,0,none⟩),.pointer (some ⟨b,1,none⟩),.slice (some ⟨go,0,none⟩) x co,.int .i64 (t:Int),.pointer (some ⟨go,t,none⟩),.slice pr na cr,.int .i64 (na:Int),.bool false,.bool false,.bool false,.pointer (some ⟨tb,0,none⟩),.int .i64 (nx:Int),.pointer (some ⟨b,0,none⟩),.pointer (some ⟨b,0,none⟩),.pointer (some ⟨b,2,none⟩),.slice (some ⟨gn,0,none⟩) x cn,.int .i64 (t:Int),.pointer (some ⟨gn,t,none⟩),.int .i64 (nx:Int),.bool false,.bool false].getD b8 undef)) ?A ?hm ?hB ?hA ?hJ ?hop ?hT
 case hm=>kernel_rfl
 case hB=>kernel_rfl
 case hA =>
  intro vs;simp only[am,ai,Act.put,cy,db,bt,cp,dc,da,bu];rfl
 case hJ =>
  intro vs;exact⟨aF W0,fun _ _ h=>(by cases h),fun h=>(by cases h)⟩
 case hop =>
  simp only[ce,ze,br,yu];and_intros<;>intro l vs w a hl f m
  ·have o:=aa a;clear a f m;simp only[af];go_simp;all_goals exact o.out.up 0 (by decide)
  ·have o:=aa a;have d0:vs 0=.pointer (some ⟨tb,0,none⟩):=a.ev 0 (by decide) (f 0 (by kernel_rfl));clear a f m;simp only[af,d0];go_simp;all_goals exact o.out.up 1 (by decide)
  ·have o:=aa a;have d1:vs 1=.bool false:=a.ev 1 (by decide) (f 1 (by kernel_rfl));clear a f m;simp only[af,d1];go_simp;all_goals exact o.out.up 2 (by decide)
  ·have o:=aa a;have u:vs 2=.bool false:=a.ev 2 (by decide) (f 2 (by kernel_rfl));clear a f m;simp only[af,u];go_simp;all_goals exact o.out.up 3 (by decide)
  ·have o:=aa a;have d3:vs 3=.pointer (some ⟨tb,0,none⟩):=a.ev 3 (by decide) (f 3 (by kernel_rfl));have u:vs 2=.bool false:=a.ev 2 (by decide) (f 2 (by kernel_rfl));have hc:=HL.out w a.bel;clear a f m;simp only[af,d3,u];go_simp;refine hc.mono ?_;rintro e y2⟨p9,n9,c9,rfl,b9,S⟩;exact⟨_,rfl,o.out.live b9 S⟩
  ·have o:=aa a;have u:vs 2=.bool false:=a.ev 2 (by decide) (f 2 (by kernel_rfl));obtain⟨pp,nn,cc,d4,hc⟩:=a.v4 (f 4 (by kernel_rfl));clear a f m;simp only[af,u,d4];go_simp;refine(b5.out w _ _ _ hc).mono ?_;rintro e y2⟨rfl,S⟩;exact⟨_,rfl,(o.out.on S).up 5 (by decide)⟩
  ·have o:=aa a;have u:vs 2=.bool false:=a.ev 2 (by decide) (f 2 (by kernel_rfl));clear a f m;simp only[af,u];go_simp;all_goals exact o.out.up 6 (by decide)
  ·have o:=aa a;have d6:vs 6=.pointer (some ⟨b,0,none⟩):=a.ev 6 (by decide) (f 6 (by kernel_rfl));have u:vs 2=.bool false:=a.ev 2 (by decide) (f 2 (by kernel_rfl));have zl:=(F.out w a.bel).2.2.2.2.2.2.1;clear a f m;simp only[af,d6,u];go_simp;all_goals exact o.out.up 7 (by decide)
  ·have o:=aa a;have d7:vs 7=.pointer (some ⟨b,0,none⟩):=a.ev 7 (by decide) (f 7 (by kernel_rfl));have u:vs 2=.bool false:=a.ev 2 (by decide) (f 2 (by kernel_rfl));have zl:=(F.out w a.bel).2.2.2.2.2.2.1;clear a f m;simp only[af,d7,u];go_simp;all_goals exact o.out.up 8 (by decide)
  ·have o:=aa a;have d8:vs 8=.pointer (some ⟨b,1,none⟩):=a.ev 8 (by decide) (f 8 (by kernel_rfl));have u:vs 2=.bool false:=a.ev 2 (by decide) (f 2 (by kernel_rfl));have k0:=(F.out w a.bel).2.1;clear a f m;simp only[af,d8,u];go_simp;all_goals exact o.out.up 9 (by decide)
  ·have o:=aa a;have u:vs 2=.bool false:=a.ev 2 (by decide) (f 2 (by kernel_rfl));clear a f m;simp only[af,u];go_simp;all_goals exact o.out.up 10 (by decide)
  ·have o:=aa a;have d9:vs 9=.slice (some ⟨go,0,none⟩) x co:=a.ev 9 (by decide) (f 9 (by kernel_rfl));have c0:vs 10=.int .i64 (t:Int):=a.ev 10 (by decide) (f 10 (by kernel_rfl));have u:vs 2=.bool false:=a.ev 2 (by decide) (f 2 (by kernel_rfl));clear a f m;simp only[af,d9,c0,u];go_simp;all_goals exact o.out.up 11 (by decide)
  ·have o:=aa a;have c1:vs 11=.pointer (some ⟨go,t,none⟩):=a.ev 11 (by decide) (f 11 (by kernel_rfl));have u:vs 2=.bool false:=a.ev 2 (by decide) (f 2 (by kernel_rfl));have k0:=(F.out w a.bel).2.2.2.1;have zl:=(F.out w a.bel).2.2.2.2.2.2.2.1;clear a f m;simp only[af,c1,u];go_simp;all_goals exact o.out.up 12 (by decide)
  ·have o:=aa a;have c4:vs 12=.slice pr na cr:=a.ev 12 (by decide) (f 12 (by kernel_rfl));have u:vs 2=.bool false:=a.ev 2 (by decide) (f 2 (by kernel_rfl));clear a f m;simp only[af,c4,u];go_simp;all_goals exact o.out.up 13 (by decide)
  ·have o:=aa a;have d5:vs 5=.int .i64 (na:Int):=a.ev 5 (by decide) (f 5 (by kernel_rfl));have c5:vs 13=.int .i64 (na:Int):=a.ev 13 (by decide) (f 13 (by kernel_rfl));have u:vs 2=.bool false:=a.ev 2 (by decide) (f 2 (by kernel_rfl));clear a f m;simp only[af,d5,c5,u];go_simp;all_goals exact o.out.up 14 (by decide)
  ·have o:=aa a;have u:vs 2=.bool false:=a.ev 2 (by decide) (f 2 (by kernel_rfl));have c6:vs 14=.bool false:=a.ev 14 (by decide) (f 14 (by kernel_rfl));clear a f m;simp only[af,u,c6];go_simp;all_goals exact o.out.up 15 (by decide)
  ·have o:=aa a;have c7:vs 15=.bool false:=a.ev 15 (by decide) (f 15 (by kernel_rfl));clear a f m;simp only[af,c7];go_simp;all_goals exact o.out.up 16 (by decide)
  ·have o:=aa a;have r:vs 16=.bool false:=a.ev 16 (by decide) (f 16 (by kernel_rfl));clear a f m;simp only[af,r];go_simp;all_goals exact o.out.up 17 (by decide)
  ·have o:=aa a;have c8:vs 17=.pointer (some ⟨tb,0,none⟩):=a.ev 17 (by decide) (f 17 (by kernel_rfl));have r:vs 16=.bool false:=a.ev 16 (by decide) (f 16 (by kernel_rfl));have hc:=b4.out w a.bel;clear a f m;simp only[af,c8,r];go_simp;refine hc.mono ?_;rintro e y2⟨rfl,rfl⟩;exact⟨_,rfl,o.out.up 18 (by decide)⟩
  ·have o:=aa a;have r:vs 16=.bool false:=a.ev 16 (by decide) (f 16 (by kernel_rfl));clear a f m;simp only[af,r];go_simp;all_goals exact o.out.up 19 (by decide)
  ·have o:=aa a;have e1:vs 19=.pointer (some ⟨b,0,none⟩):=a.ev 19 (by decide) (f 19 (by kernel_rfl));have r:vs 16=.bool false:=a.ev 16 (by decide) (f 16 (by kernel_rfl));have zl:=(F.out w a.bel).2.2.2.2.2.2.1;clear a f m;simp only[af,e1,r];go_simp;all_goals exact o.out.up 20 (by decide)
  ·have o:=aa a;have e3:vs 20=.pointer (some ⟨b,0,none⟩):=a.ev 20 (by decide) (f 20 (by kernel_rfl));have r:vs 16=.bool false:=a.ev 16 (by decide) (f 16 (by kernel_rfl));have zl:=(F.out w a.bel).2.2.2.2.2.2.1;clear a f m;simp only[af,e3,r];go_simp;all_goals exact o.out.up 21 (by decide)
  ·have o:=aa a;have e4:vs 21=.pointer (some ⟨b,2,none⟩):=a.ev 21 (by decide) (f 21 (by kernel_rfl));have r:vs 16=.bool false:=a.ev 16 (by decide) (f 16 (by kernel_rfl));have k0:=(F.out w a.bel).2.2.1;clear a f m;simp only[af,e4,r];go_simp;all_goals exact o.out.up 22 (by decide)
  ·have o:=aa a;have r:vs 16=.bool false:=a.ev 16 (by decide) (f 16 (by kernel_rfl));clear a f m;simp only[af,r];go_simp;all_goals exact o.out.up 23 (by decide)
  ·have o:=aa a;have e5:vs 22=.slice (some ⟨gn,0,none⟩) x cn:=a.ev 22 (by decide) (f 22 (by kernel_rfl));have e6:vs 23=.int .i64 (t:Int):=a.ev 23 (by decide) (f 23 (by kernel_rfl));have r:vs 16=.bool false:=a.ev 16 (by decide) (f 16 (by kernel_rfl));clear a f m;simp only[af,e5,e6,r];go_simp;all_goals exact o.out.up 24 (by decide)
  ·have o:=aa a;have e7:vs 24=.pointer (some ⟨gn,t,none⟩):=a.ev 24 (by decide) (f 24 (by kernel_rfl));have r:vs 16=.bool false:=a.ev 16 (by decide) (f 16 (by kernel_rfl));have k0:=(F.out w a.bel).2.2.2.2.1;have zl:=(F.out w a.bel).2.2.2.2.2.2.2.2;clear a f m;simp only[af,e7,r];go_simp;all_goals exact o.out.up 25 (by decide)
  ·have o:=aa a;have e8:vs 18=.int .i64 (nx:Int):=a.ev 18 (by decide) (f 18 (by kernel_rfl));have e9:vs 25=.int .i64 (nx:Int):=a.ev 25 (by decide) (f 25 (by kernel_rfl));have r:vs 16=.bool false:=a.ev 16 (by decide) (f 16 (by kernel_rfl));clear a f m;simp only[af,e8,e9,r];go_simp;all_goals exact o.out.up 26 (by decide)
  have o:=aa a;have r:vs 16=.bool false:=a.ev 16 (by decide) (f 16 (by kernel_rfl));have f0:vs 26=.bool false:=a.ev 26 (by decide) (f 26 (by kernel_rfl));clear a f m;simp only[af,r,f0];go_simp;all_goals exact o.out.up 27 (by decide)
 intro l vs w1 hl a;simp only[cw,yq];have a6:vs 27=.bool false:=a.ev 27 (by decide) (hl 27 (by decide));simp only[a6];have f1:=aa a.bel;clear a hl a6;go_wp2_with fail;go_loopg [10] (na+1) (fun gh jv w=>∃(j:Nat),jv=.int .i64 (j:Int)/\j<=na/\na+1<=j+gh/\Below W0.heap.size W0 w)
 case atStart=>exact⟨0,rfl,zh _,by omega,f1.out⟩
 obtain⟨j,rfl,hj,hg,U⟩:=hrel;obtain⟨_,x1,_,x2,_,_,xl,xo,_⟩:=F.out wr U;by_cases f2:j<na
 ·have g1:(j:Int)<(na:Int):=(by omega);have V:j<A.length:=(by rw[HN.1];exact f2);obtain⟨gr,gv,cv,rfl,I⟩:=a4.out j V;obtain⟨q1,q2,q3,q4⟩:=I wr U;have W:=b6.out wr U j V;obtain⟨aj,a7⟩:=ag (A[j].1);have X:A[j].2.length=nc:=HN.2 _ (z8 V)
  have HQ:Hid (∀w,Below W0.heap.size W0 w->w.cell? ⟨gr,j*2+1,none⟩=some (.slice (some ⟨gv,0,none⟩) nc cv)/\gr<w.heap.size/\eb (fun q=>(Value.slice (some ⟨gv,0,none⟩) nc cv).ownBlock=some q) w (.slice (some ⟨gv,0,none⟩) nc cv) A[j].2):=aa (fun w G=>by
   obtain⟨_,r2,r3,r4⟩:=I w G;exact⟨r2,r4,eb.jk r3 X⟩)
  have f3:=aa X;have HB:=aa U;rw[a7]at q1 W;clear I q2 q3 X a7 U;go_upto_region 8 with (go_at_call 84;refine W.mono ?_;rintro e Z⟨g2,c2,rfl,a8,a9⟩;have H2:=aa (ab a8 (aB HB.out a9));clear W a8 a9);clear q1 q4 x1 x2 xl xo;obtain⟨_,x1,_,x2,_,_,xl,xo,_⟩:=F.out Z H2.2;obtain⟨r2,r4,r5⟩:=HQ.out Z H2.2;have N:=It (eb.jk H2.1 f3.out) r5;clear r5;go_wp2_with (go_at_call 95;refine N.mono ?_;rintro e w3⟨rfl,b0⟩;have H3:=aa (aB H2.2 b0);clear N b0);go_roundg (na-j)
  case measure=>omega
  exact⟨j+1,rfl,by omega,by omega,H3.out⟩
 obtain rfl:j=na:=(by omega);have HB:=aa U;clear U;go_wp2_with fail;go_ret;exact⟨rfl,HB.out⟩
end Go.Proofs.YthlccadnojnkaaaGreat
namespace Go.Proofs.YthlccadnojnkaaaGreat
open Go.Proofs.Tryz
open Go Go.RowKit Go.Proofs Co Co.S Par
theorem KF{u:cx}(h:kj u.id):ir (fe u):=by
 refine⟨h,?_,?_,fun x a=>?_,?_⟩
 ·exact zw (sI 20 u.tbl) (by unfold maxLen;omega)
 ·exact zw (sI 20 u.col) (by unfold maxLen;omega)
 ·have a:x∈(qx 7 u.vals):=a;unfold qx at a;have b:=ue a;obtain⟨y,_,rfl⟩:=List.mem_map.1 b;exact zw (sI 20 y.2.2) (by unfold maxLen;omega)
 exact zw (ET 7 u.vals) (by omega)
theorem yB{L:List cx}(h:∀o∈L,kj o.id)(M:Nat):∀o∈(L.take M).map fe,ir o:=fun o a=>by
 obtain⟨u,b,rfl⟩:=List.mem_map.1 a;exact KF (h u (ue b))
theorem iN{W w:World}{p:Option Addr}{L:List cx}(h:qi W p L)(hb:Below W.heap.size W w):qi w p L:=fun j i=>by
 obtain⟨b,f,k,e,c,c0,c1,c2,c3,c4,g,l,m,n⟩:=h j i;have r:=hb.block b c;have d:∀(o:Nat) (v:Value),W.cell? ⟨b,o,none⟩=some v->w.cell? ⟨b,o,none⟩=some v:=(fun o v g=>(za (a:=⟨b,o,none⟩) r).trans g);exact⟨b,f,k,e,z9 c hb.size,d _ _ c0,d _ _ c1,d _ _ c2,d _ _ c3,d _ _ c4,(g.later hb).mono (fun q _ s=>z9 s hb.size),l,m,n⟩
abbrev Lz:List PT:=List.replicate 4 (0,[])
theorem cD:∀x∈Lz,dw 0 x:=fun x a=>by
 obtain rfl:=List.eq_of_mem_replicate a;exact⟨zm _,zm _⟩
theorem cL:∀t∈pre 4,0<t.cols.length/\t.cols.length<=1000:=fun t a=>⟨(iM t a).1,by have:=(iM t a).2;omega⟩
structure AO (W:World) (d b:Nat) (ts:List T) (L:List PT):Prop where
 dd:∃st O,Dd W d ts st O/\st.map (·.2)=L
 nn:∃tt i O,ew W b ts tt i O/\tt.map bo=L
theorem AO.later{W w:World}{d b:Nat}{ts:List T}{L:List PT}(h:AO W d b ts L)(hb:Below W.heap.size W w):AO w d b ts L:=by
 obtain⟨⟨a,O,c,e⟩,⟨f,i,g,j,k⟩⟩:=h;exact⟨⟨a,O,c.later hb,e⟩,⟨f,i,g,j.later hb,k⟩⟩
section
variable {W:World}{d b:Nat}{L:List PT}{m:Nat}
theorem D2{tt:List RT}(h:tt.map bo=L)(hs:∀x∈L,dw m x)(hm:m<=590):∀y∈tt,y.A.length<=100000:=fun y c=>by
 have d:bo y∈L:=(by rw[<-h];exact uq c);obtain⟨a,b⟩:=hs _ d;have a:y.nx<=m:=a;have b:y.A.length<=y.nx:=b;omega
end
def aq(p:Nat->Bool)(n:Nat):Option Nat:=(List.range n).find? p
theorem aV{p:Nat->Bool}{n:Nat}(h:∀j,j<n->p j=false):aq p n=none:=by
 unfold aq;rw[ud];intro j a;rw[h j (List.mem_range.1 a)];decide
theorem aZ{p:Nat->Bool}{n k:Nat}(hk:k<n)(h:p k=true)(h0:∀j,j<k->p j=false):aq p n=some k:=by
 unfold aq;rw[List.find?_range_eq_some];exact⟨h,List.mem_range.2 hk,fun j a=>by rw[h0 j a];rfl⟩
theorem dZ{p:Nat->Bool}{n k:Nat}(h:aq p n=some k):k<n/\p k=true/\∀j,j<k->p j=false:=by
 unfold aq at h;rw[List.find?_range_eq_some]at h;obtain⟨a,b,c⟩:=h;exact⟨List.mem_range.1 b,a,fun j d=>by simpa using c j d⟩
def ur(t:T)(x:ByteArray)(r:List T3):T3:=r.getD (gx t.cols x).toNat z3
def ar(t:T)(x:ByteArray)(a b:List T3):Bool:=decide (ur t x a=ur t x b)
def mx(t:T)(k:Nat):C:=t.cols.getD k ⟨e0,0,false,e0⟩
def eh(t:T)(r:List T3)(k:Nat):Bool:=(mx t k).mu&&decide ((r.getD k z3).1=0)
def jd(t:T)(r:List T3)(B:List (List T3)):Bool:=decide (t.key≠e0)&&B.any (fun a=>ar t t.key r a)
def iw(ts:List T)(As:List (List R1))(t:T)(r:List T3)(k:Nat):Bool:=decide ((mx t k).tgt≠e0)&&(decide ((r.getD k z3).1≠0)&&(bg ts As (mx t k).tgt (r.getD k z3)).isNone)
def dh(t:T)(d:D)(r:List T3)(B:List (List T3)):Bool:=B.any (fun a=>d.left.all (fun x=>ar t x r a)&&!ar t d.right r a)
def fg(ts:List T)(As:List (List R1))(t:T)(r:List T3)(B:List (List T3)):Int×ByteArray:=
 match aq (eh t r) t.cols.length with
 | some k=>(7,(mx t k).nm)
 | none=>if jd t r B=true then(8,t.key)else
  match aq (iw ts As t r) t.cols.length with
  | some k=>(9,(mx t k).nm)
  | none=>match aq (fun k=>dh t (t.deps.getD k ⟨[],e0⟩) r B) t.deps.length with
   | some k=>(10,(t.deps.getD k ⟨[],e0⟩).right)
   | none=>(0,e0)
def bk(A:List R1)(i:Nat):List (List T3):=(A.take i).map (·.2)
def rowAt(A:List R1)(i:Nat):R1:=A.getD i (0,[])
def firstT(l:List T3)(i:Nat):Bool:=decide ((l.getD i z3).1=2)&&(List.range i).all fun j=>decide (l.getD j z3≠l.getD i z3)
def fy(A:List R1)(c:Nat):Nat:=((List.range A.length).filter (firstT (A.map fun a=>a.2.getD c z3))).length
def ge(ts:List T)(As:List (List R1))(t:T)(A:List R1)(i:Nat):Bool:=decide ((fg ts As t (rowAt A i).2 (bk A i)).1≠0)
def jp(t:T)(A:List R1):Int×Int×ByteArray:=
 if 64<A.length then(5,0,e0)else
  match aq (fun c=>decide (40<fy A c)) t.cols.length with
  | some c=>(5,0,(mx t c).nm)
  | none=>(0,0,e0)
def gk(ts:List T)(As:List (List R1))(t:T)(A:List R1):Int×Int×ByteArray:=
 match aq (ge ts As t A) A.length with
 | some i=>((fg ts As t (rowAt A i).2 (bk A i)).1,(rowAt A i).1,(fg ts As t (rowAt A i).2 (bk A i)).2)
 | none=>(0,0,e0)
def lj(ts:List T)(As:List (List R1))(t:T)(A:List R1):Int×Int×ByteArray:=if (jp t A).1=0 then gk ts As t A else jp t A
def bm(ts:List T)(As:List (List R1))(j:Nat):Int×Int×ByteArray:=lj ts As (ts.getD j ⟨e0,[],e0,[]⟩) (As.getD j [])
def au(ts:List T)(As:List (List R1)):Int×ByteArray×Int×ByteArray:=
 match aq (fun j=>decide ((bm ts As j).1≠0)) ts.length with
 | some j=>((bm ts As j).1,(ts.getD j ⟨e0,[],e0,[]⟩).nm,(bm ts As j).2.1,(bm ts As j).2.2)
 | none=>(0,e0,0,e0)
def ny(A:List R1)(c:Nat):List T3:=A.map fun a=>a.2.getD c z3
def kx(l:List T3)(i:Nat):Bool:=decide ((l.getD i z3).1=2)&&(List.range i).all fun j=>decide (l.getD j z3≠l.getD i z3)
def gy(l:List T3)(n:Nat):List Nat:=(List.range n).filter (kx l)
theorem rN(l:List T3)(n:Nat):(gy l (n+1)).length=(gy l n).length+if kx l n=true then 1 else 0:=by
 unfold gy;rw[List.range_succ,List.filter_append,y8];cases h:kx l n <;> simp[h]
theorem eA{l:List T3}{i:Nat}:kx l i=true↔(l.getD i z3).1=2/\∀j,j<i->l.getD j z3≠l.getD i z3:=by
 unfold kx;rw[zx,xp,decide_eq_true_iff];constructor
 ·rintro⟨a,b⟩;exact⟨a,fun j c=>wj (b j (List.mem_range.2 c))⟩
 rintro⟨a,b⟩;exact⟨a,fun j c=>xd (b j (List.mem_range.1 c))⟩
theorem dE{l:List T3}{i:Nat}(h:i<l.length):l.getD i z3=l[i]:=by
 rw[zu,z6 h];rfl
theorem EA{x y:T3}(hx:x.2.1=0/\x.2.2.size<=12)(hy:y.2.1=0/\y.2.2.size<=12)(h1:x.1=2)(h2:y.1=2)(e:wd x.2.2=wd y.2.2):x=y:=by
 obtain⟨k,n,s⟩:=x;obtain⟨a,b,c⟩:=y
 have:=Hf hx.2 hy.2 e
 simp only at h1 h2 hx hy this;rw[h1,h2,hx.1,hy.1,this]
theorem yC{l:List T3}(hv:∀x∈l,x.1=2->x.2.1=0/\x.2.2.size<=12):∃m:List (K 12),m.length=(gy l l.length).length/\m.Nodup/\∀s,s∈m↔∃x∈l,x.1=2/\wd x.2.2=s:=by
 refine⟨(gy l l.length).map (fun i=>wd (l.getD i z3).2.2),yh _,?_,fun s=>⟨fun v=>?_,?_⟩⟩
 ·have w:(gy l l.length).Pairwise (fun a b=>a≠b):=List.Pairwise.filter _ List.nodup_range;unfold List.Nodup;rw[List.pairwise_map];refine w.imp_of_mem (fun{i j} d g hne e=>hne ?_);obtain⟨c,k⟩:=List.mem_filter.1 d;obtain⟨f,p⟩:=List.mem_filter.1 g;have c:=List.mem_range.1 c;have f:=List.mem_range.1 f;obtain⟨u,y⟩:=eA.1 k;obtain⟨b1,b2⟩:=eA.1 p;have z:l.getD i z3∈l:=(by rw[dE c];exact z8 c);have A:l.getD j z3∈l:=(by rw[dE f];exact z8 f);have n:=EA (hv _ z u) (hv _ A b1) u b1 e;rcases Nat.lt_trichotomy i j with h|h|h
  ·exact absurd n (b2 i h)
  ·exact h
  exact absurd n.symm (y j h)
 ·obtain⟨i,d,rfl⟩:=List.mem_map.1 v;obtain⟨c,k⟩:=List.mem_filter.1 d;have c:=List.mem_range.1 c;exact⟨l.getD i z3,by rw[dE c];exact z8 c,(eA.1 k).1,rfl⟩
 rintro⟨x,B,E,rfl⟩
 have q:∃i,i<l.length/\l.getD i z3=x:=by
  obtain⟨i,d,rfl⟩:=xz B;exact⟨i,d,dE d⟩
 have o:∃i,(i<l.length/\l.getD i z3=x)/\∀j,j<i->¬ (j<l.length/\l.getD j z3=x):=by
  obtain⟨i,d⟩:=q
  induction i using Nat.strongRecOn with
  | ind i ih =>
   by_cases h:∃j,j<i/\j<l.length/\l.getD j z3=x
   ·obtain⟨j,g,r⟩:=h;exact ih j g r
   ·exact⟨i,d,fun j g r=>h ⟨j,g,r⟩⟩
 obtain⟨i,⟨d,t⟩,F⟩:=o;refine List.mem_map.2 ⟨i,List.mem_filter.2 ⟨List.mem_range.2 d,eA.2 ⟨by rw[t];exact E,fun j g e=>F j g ⟨by omega,e.trans t⟩⟩⟩,by rw[t]⟩
theorem Fq{kind:Int}{x:T3}(h:lx kind x=true)(h2:x.1=2):x.2.1=0/\x.2.2.size<=12:=by
 refine⟨?_,iR h h2⟩;unfold lx at h;rw[zx]at h;have h:=h.1;unfold jf at h;rw[h2]at h;simp at h;exact h.1
section
variable {W:World}{tb next:Nat}{t:T}{A:List R1}{lab:Nat->Nat}
theorem rO(h:Tb W tb t next A lab){c:Nat}(hc:c<t.cols.length)(g:gx t.cols t.cols[c].nm=(c:Int)):Calls prog 82 #[.pointer (some ⟨tb,0,none⟩),.string t.cols[c].nm] W fun e w'=>e=.returned (.int .i64 ((gy (ny A c) A.length).length:Int))/\Below W.heap.size W w':=by
 have i:∀x∈ny A c,x.1=2->x.2.1=0/\x.2.2.size<=12:=fun x g d=>by
  unfold ny at g;obtain⟨a,f,rfl⟩:=List.mem_map.1 g;have k:=h.len a f;have b:c<a.2.length:=(by omega);have l:=h.ok a f c hc a.2[c] (z6 b);rw[dE b]at d ⊢;obtain⟨u,p⟩:=ag (a.2[c]);rw[p]at l d ⊢;exact Fq l d
 obtain⟨m,n,q,r⟩:=yC i;have k:(ny A c).length=A.length:=(by unfold ny;rw[yh]);rw[k]at n;rw[<-n];refine tF h hc g m q (fun s=>?_);rw[r];constructor
 ·rintro⟨x,g,j,d⟩;unfold ny at g;obtain⟨a,f,rfl⟩:=List.mem_map.1 g;have b:c<a.2.length:=(by rw[h.len a f];exact hc);rw[dE b]at j d;exact⟨a,f,a.2[c],z6 b,j,d⟩
 rintro⟨a,f,y,o,j,d⟩;have b:c<a.2.length:=(by rw[h.len a f];exact hc);rw[z6 b]at o;cases o;exact⟨_,uq f,by rw[dE b];exact j,by rw[dE b];exact d⟩
end
theorem JK(A:List R1)(c:Nat):(gy (ny A c) A.length).length=fy A c:=rfl
section
variable {W:World}{d b m:Nat}{L:List PT}
theorem AO.rows(h:AO W d b (pre 4) L)(hs:∀x∈L,dw m x)(hm:m<=590){t:Nat}(ht:t<(pre 4).length):Calls prog 59 #[.pointer (some ⟨d,0,none⟩),.pointer (some ⟨b,0,none⟩),.int .i64 (t:Int),.string (pre 4)[t].nm] W fun e w'=>e=.returned (.bool true)/\Below W.heap.size W w':=by
 obtain⟨⟨c,O,j,q⟩,⟨f,i,s,k,l⟩⟩:=h;have o:t<c.length:=(by rw[j.len];exact ht);have g:t<f.length:=by rw[k.n];exact ht
 have r:c[t].2=bo f[t]:=by
  have p:(c.map (·.2))[t]?=(f.map bo)[t]?:=(by rw[q,l]);rw[xm,xm,z6 o,z6 g]at p;exact Option.some.inj p
 have a:(pre 4)[t]∈pre 4:=z8 ht;exact F9 j k ht o g r (aO _ a) (cL _ a).1 (cL _ a).2 (D2 l hs hm _ (z8 g)) (by decide)
theorem AO.same(h:AO W d b (pre 4) L)(hs:∀x∈L,dw m x)(hm:m<=590):Calls prog 25 #[.pointer (some ⟨d,0,none⟩),.pointer (some ⟨b,0,none⟩)] W fun e w'=>e=.returned (.bool true)/\Below W.heap.size W w':=by
 obtain⟨p,N,O,f,u⟩:=h.nn;have P:p.length=4:=(by rw[f.n];rfl);obtain⟨g,i,c,_,_⟩:=f.form.isslice;have c:N.sv=.slice g 4 i:=c;have a:=f.box;rw[c]at a;have v:Hid (∀w,Below W.heap.size W w->w.cell? ⟨b,0,none⟩=some (.slice g 4 i)/\b<w.heap.size):=aa (fun w I=>⟨aA (aE I a) 0,aC (aE I a)⟩);have y:=aa f;have z:=aa (ab h (ab hs hm));clear f u a c h hs;go_enter func25,ntmps25;go_wp2_with fail;go_loopg [5] 5 (fun Q R w=>∃(t:Nat),R=.int .i64 (t:Int)/\t<=4/\5<=t+Q/\Below W.heap.size W w)
 case atStart=>exact⟨0,rfl,zh _,by omega,zb _ _⟩
 obtain⟨t,rfl,ht,hg,l⟩:=hrel;obtain⟨S,xl⟩:=v.out wr l;by_cases A:t<4
 ·have U:(t:Int)<4:=(by omega);have q:t<(pre 4).length:=A;have B:t<p.length:=(by omega);obtain⟨⟨gs,cs,go,co,gn,cn,pc,kc,pd,kd⟩,c,E,F,_,_,_,J⟩:=y.out.reads q (z6 B);have j:=J wr l
  have r:g=some ⟨gs,0,none⟩/\i=cs:=by
   have V:=j.b0;have X:some (Value.slice g 4 i)=some (Value.slice (some ⟨gs,0,none⟩) 4 cs):=S.symm.trans V;cases X;exact⟨rfl,rfl⟩
  obtain⟨rfl,rfl⟩:=r;have o:=(z.1.later l).rows z.2.1 z.2.2 q;have M:=j.s0;have Y:=j.sl;dsimp only at M Y;obtain⟨nm,s⟩:=ag ((pre 4)[t].nm);rw[s]at M o;have G:=aa l;clear l J j c E F s;go_wp2_with (go_at_call 59;refine o.mono ?_;rintro e Z⟨rfl,k⟩;have H:=aa (aB G.out k);clear o k);go_roundg (4-t)
  case measure=>omega
  exact⟨t+1,by go_num,by omega,by omega,H.out⟩
 obtain rfl:t=4:=(by omega);have G:=aa l;clear l;go_wp2_with fail;go_ret;exact⟨rfl,G.out⟩
end
theorem ac.lit{w:World}{g n size base:Nat}{e:TypeId}{cs:Array Value}{xs:List Value}(h:w.heap[g]?=some (.cells cs e))(hcs:cs.toList=xs)(hl:xs.length=n*size)(hb:base<=g)(hn:n<=maxLen):ac w base e size (.slice (some ⟨g,0,none⟩) n n) n xs:=by
 have a:cs.size=n*size:=(by rw[<-hl,<-hcs,Array.length_toList]);exact⟨hl,.inr ⟨g,n,cs,rfl,hb,h,zm _,hn,xy a.symm,by rw[hcs,<-hl,List.take_length]⟩⟩
theorem Dg{w:World}{base g:Nat}{v1:Value}{o1:cx}{cs:Array Value}(hg:w.heap[g]?=some (.cells cs 29))(hcs:cs.toList=opC o1 v1)(hb:base<=g)(h1:ac w base 32 3 v1 o1.vals.length (cells3 o1.vals)):ef w base (.slice (some ⟨g,0,none⟩) 1 1) [o1]:=by
 refine⟨[v1],rfl,ac.lit hg (by rw[hcs];simp[fi]) rfl hb (by unfold maxLen;omega),fun j a=>?_⟩;have:j=0:=(by simpa using a);subst this;exact⟨v1,rfl,h1⟩
theorem fJ{w:World}{base g:Nat}{v1 v2:Value}{o1 o2:cx}{cs:Array Value}(hg:w.heap[g]?=some (.cells cs 29))(hcs:cs.toList=opC o1 v1++opC o2 v2)(hb:base<=g)(h1:ac w base 32 3 v1 o1.vals.length (cells3 o1.vals))(h2:ac w base 32 3 v2 o2.vals.length (cells3 o2.vals)):ef w base (.slice (some ⟨g,0,none⟩) 2 2) [o1,o2]:=by
 refine⟨[v1,v2],rfl,ac.lit hg (by rw[hcs];simp[fi]) rfl hb (by unfold maxLen;omega),fun j a=>?_⟩;have a:j<2:=a;rcases(show j=0∨j=1 by omega)with rfl|rfl
 ·exact⟨v1,rfl,h1⟩
 exact⟨v2,rfl,h2⟩
abbrev sA:ByteArray:=⟨#[97]⟩
abbrev sB:ByteArray:=⟨#[98]⟩
theorem cM{k:Int}{tb col:ByteArray}{v:List T3}(h1:tb.size<=100)(h2:col.size<=100)(h3:∀x∈v,x.2.2.size<=100)(h4:v.length<=10):ir ⟨k,tb,0,col,v⟩:=
 ⟨by unfold kj;exact⟨by show(-9223372036854775808:Int)<=0;decide,by show(0:Int)<=9223372036854775807;decide⟩,zw h1 (by unfold maxLen;omega),zw h2 (by unfold maxLen;omega),fun x a=>zw (h3 x a) (by unfold maxLen;omega),zw h4 (by omega)⟩
theorem lJ(W:World):Calls prog 31 #[] W fun e w'=>e=.returned (.bool true)/\Below W.heap.size W w':=by
 have h:=uN W;go_enter func31,ntmps31;go_wp2_with (go_at_call 65;refine h.mono ?_;rintro e w'⟨rfl,a⟩);go_ret;exact⟨rfl,a⟩
