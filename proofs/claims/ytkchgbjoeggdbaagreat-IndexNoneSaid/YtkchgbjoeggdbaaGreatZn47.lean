import Derived.Test.YtkchgbjoeggdbaaGreatZn46
set_option maxHeartbeats 8000000
set_option maxRecDepth 100000
namespace Go.Proofs.YtkchgbjoeggdbaaGreat
open Go.Proofs.Tryz
open Go Go.RowKit Go.Proofs Co Co.S
theorem Gt{W:World}{b:Nat}{ts:List T}{tt:List RT}{ni:NI}{O:Nat->Nat}{t k:Nat}{y:RT}{As:List (List R1)}(h:im W b ts tt ni O)(ht:t<ts.length)(H:tt[t]?=some y)(hk:k<y.A.length)(hf:qj ts[t])(hneg:fx ts[t].cols e0<0)(h0:0<ts[t].cols.length)(hnt:ts.length<=1000)(hna:y.A.length<=1000)(hlen:∀a∈y.A,a.2.length=ts[t].cols.length)(hbk:∀I,Below W.heap.size W I->∀(x:ByteArray) (u:T3),Calls prog 211 #[.pointer (some ⟨b,0,none⟩),.string x,.agg #[.int .i64 u.1,.int .i64 u.2.1,.string u.2.2]] I fun e f=>e=.returned (.tuple #[.int .i64 ((bi ts As x u).getD 0),.bool (bi ts As x u).isSome])/\Below I.heap.size I f):Calls prog 197 #[.pointer (some ⟨b,0,none⟩),.int .i64 (t:Int),.int .i64 (k:Int)] W fun e f=>e=.returned (.tuple #[.int .i64 (ge ts As ts[t] y.A[k].2 (dj y.A k)).1,.string (ge ts As ts[t] y.A[k].2 (dj y.A k)).2])/\Below W.heap.size W f:=by
 obtain⟨gs,cs,go,co,gr,cr,pc,kc,pd,kd,hX,j5⟩:=wW h ht H hk h0;have hT:=(hX W (zg _ _)).rt;obtain⟨bc,oc,rfl,hC⟩:=pD hT h0;obtain⟨B,h3⟩:=ae (dj y.A k);obtain⟨r,h4⟩:=ae (y.A[k].2);have l3:B.length=k:=(by rw[<-h3,eC (by omega)]);have j6:r.length=ts[t].cols.length:=(by rw[<-h4];exact hlen _ (z8 hk));obtain⟨gv,cv,f9⟩:=j5 k hk;rw[h4]at f9
 have h5:∀m,m<k->∃gv cv,∀w,Below W.heap.size W w->Ao w gr m gv cv ts[t].cols.length (B.getD m []):=fun m hm=>by
  obtain⟨g1,c1,h1⟩:=j5 m (by omega);refine⟨g1,c1,?_⟩
  have e:B.getD m []=(y.A[m]'(by omega)).2:=by
   have l4:m<B.length:=(by omega);rw[zv,z6 l4];subst h3;rw[Option.getD_some,tY (by omega) l4]
  rw[e];exact h1
 obtain⟨na,i7⟩:=ae y.A.length;obtain⟨nt,i8⟩:=ae ts.length;obtain⟨F,l5⟩:=ae (ts[t]);rw[h3,h4];rw[l5]at hX f9 h5 hC hT hf hneg h0 j6 ⊢;rw[i7,i8]at hX;have p4:(k:Int)<(na:Int):=(by omega);have o6:(na:Int)<=1000:=(by omega);have p5:(t:Int)<(nt:Int):=(by omega);have o7:(nt:Int)<=1000:=(by omega);obtain⟨nc,j7⟩:=ae F.cols.length;obtain⟨nd,j8⟩:=ae F.deps.length;have o8:(nc:Int)<=1000:=(by have:=hf.nc;omega);have o9:(nd:Int)<=1000:=(by have:=hf.nd;omega);have j9:=(fun{i:Nat} (hi:i<F.deps.length)=>G6 hT hi);simp only[j7,j8]at hX f9 h5 hC j9 h0;obtain⟨nm,k0⟩:=ae F.nm;obtain⟨key,e9⟩:=ae F.key
 have l6:∀w,Below W.heap.size W w->w.cell? ⟨gs,t*4,none⟩=some (.string nm)/\w.cell? ⟨gs,t*4+1,none⟩=some (.slice (some ⟨bc,oc,none⟩) nc kc)/\w.cell? ⟨gs,t*4+2,none⟩=some (.string key)/\w.cell? ⟨gs,t*4+3,none⟩=some (.slice pd nd kd):=fun w hw=>by
  rw[<-k0,<-e9];exact⟨(hX w hw).s0,(hX w hw).s1,(hX w hw).s2,(hX w hw).s3⟩
 have k1:Hid (∀w,Below W.heap.size W w->∀x:ByteArray,Calls prog 97 #[.agg #[.string nm,.slice (some ⟨bc,oc,none⟩) nc kc,.string key,.slice pd nd kd],.string x] w fun e f=>e=.returned (.int .i64 (fx F.cols x))/\Below w.heap.size w f):=aa (fun w hw x=>by
  rw[<-k0,<-e9];exact bT (hX w hw).rt)
 have k2:Hid (∀(x u:T3) (w:World),Calls prog 210 #[.agg #[.int .i64 x.1,.int .i64 x.2.1,.string x.2.2],.agg #[.int .i64 u.1,.int .i64 u.2.1,.string u.2.2]] w fun e f=>e=.returned (.bool (decide (x=u)))/\Below w.heap.size w f):=aa (fun x u w=>by
  rw[<-CO];exact jX x.1 x.2.1 x.2.2 u.1 u.2.1 u.2.2 w)
 have n2:=aa hbk;have HX:=aa hX;have h6:=aa l6;have a8:=aa f9;have l7:=aa h5;have HC:=aa hC;have n3:Hid (∀i,i<nd->_):=aa (fun i(hi:i<nd)=>j9 (i:=i) hi);have HF:=aa (ab hf (ab hneg (ab j7 (ab j8 (ab e9 (ab l3 (ab j6 h0)))))));clear hX l6 f9 h5 hC hT hf hneg h0 j6 l3 h3 h4 j5 h ht H hk hnt hna hlen hbk i7 i8 l5 j7 j8 j9 k0 e9;go_enter func197,ntmps197;go_upto_region 1 with fail;refine Par.ms 21 18 19 6 (W.heap.size) 60 (#[.string e0,.slice none 0 0,.string e0,.slice none 0 0]) (Par.AQ) (fun y=>Below W.heap.size W y) (Par.Am [(.eq (.pointer (some ⟨b,0,none⟩))),(.eq (.pointer (some ⟨b,0,none⟩))),(.eq (.pointer (some ⟨b,0,none⟩))),(.eq (.slice (some ⟨gs,0,none⟩) nt cs)),(.eq (.int .i64 (t:Int))),(.eq (.pointer (some ⟨gs,t*4,none⟩))),(.eq (.agg #[.string nm,.slice (some ⟨bc,oc,none⟩) nc kc,.string key,.slice pd nd kd])),(.eq (.pointer (some ⟨b,0,none⟩))),(.eq (.pointer (some ⟨b,0,none⟩))),(.eq (.pointer (some ⟨b,1,none⟩))),(.eq (.slice (some ⟨go,0,none⟩) nt co)),(.eq (.int .i64 (t:Int))),(.eq (.pointer (some ⟨go,t,none⟩))),(.eq (.slice (some ⟨gr,0,none⟩) na cr)),(.eq (.int .i64 (k:Int))),(.eq (.pointer (some ⟨gr,k*2,none⟩))),(.eq (.pointer (some ⟨gr,k*2+1,none⟩))),(.eq (.slice (some ⟨gv,0,none⟩) nc cv)),(.any),(.any),(.eq (.slice (some ⟨gv,0,none⟩) nc cv))]) ?A1 ?hm1 ?hB1 (fun w f h ht=>h.trans ht.below) (Par.Am.mono _) (fun w h=>h.size) ?hA1 (aG W) (by decide) (by decide) (by decide) (by kernel_rfl) (by kernel_rfl) (by decide) ?hop1 ?hT1
 case hm1=>kernel_rfl
 case hB1=>kernel_rfl
 case hA1 =>
  intro vs;simp only[Par.am,Par.ai,Act.put,eh,ez,dz,eo,ew,ey,ed];rfl
 case hop1 =>
  have n4:(List.range 21).map (Par.ki 18 19)=[.val,.val,.val,.val,.val,.val,.val,.val,.val,.val,.val,.val,.val,.val,.val,.val,.val,.val,.new,.put,.val]:=rfl;simp only[n4,en,zh,Par.cw,yo];refine⟨fun vs w N G=>?_,fun vs w N G=>?_,fun vs w N G=>?_,fun vs w N G=>?_,fun vs w N G=>?_,fun vs w N G=>?_,fun vs w N G=>?_,fun vs w N G=>?_,fun vs w N G=>?_,fun vs w N G=>?_,fun vs w N G=>?_,fun vs w N G=>?_,fun vs w N G=>?_,fun vs w N G=>?_,fun vs w N G=>?_,fun vs w N G=>?_,fun vs w N G=>?_,fun vs w N G=>?_,fun vs w N=>?_,fun vs w g N G a hz=>?_,fun vs w N G=>?_⟩
  ·clear G;simp only[Par.af];go_simp;all_goals exact⟨rfl,zg _ _⟩
  ·have d0:=G 0 (by decide) (by decide) (by decide) (by kernel_rfl);replace d0:vs 0=.pointer (some ⟨b,0,none⟩):=d0;have V:=(HX.out w N).bl;clear G;simp only[Par.af,d0];go_simp;all_goals exact⟨rfl,zg _ _⟩
  ·have d1:=G 1 (by decide) (by decide) (by decide) (by kernel_rfl);replace d1:vs 1=.pointer (some ⟨b,0,none⟩):=d1;have V:=(HX.out w N).bl;clear G;simp only[Par.af,d1];go_simp;all_goals exact⟨rfl,zg _ _⟩
  ·have d2:=G 2 (by decide) (by decide) (by decide) (by kernel_rfl);replace d2:vs 2=.pointer (some ⟨b,0,none⟩):=d2;have q0:=(HX.out w N).b0;clear G;simp only[Par.af,d2];go_simp;all_goals exact⟨rfl,zg _ _⟩
  ·clear G;simp only[Par.af];go_simp;all_goals exact⟨rfl,zg _ _⟩
  ·have d3:=G 3 (by decide) (by decide) (by decide) (by kernel_rfl);replace d3:vs 3=(.slice (some ⟨gs,0,none⟩) nt cs):=d3;have d4:=G 4 (by decide) (by decide) (by decide) (by kernel_rfl);replace d4:vs 4=.int .i64 (t:Int):=d4;clear G;simp only[Par.af,d3,d4];go_simp;all_goals exact⟨rfl,zg _ _⟩
  ·have d5:=G 5 (by decide) (by decide) (by decide) (by kernel_rfl);replace d5:vs 5=.pointer (some ⟨gs,t*4,none⟩):=d5;have q0:=(h6.out w N).1;have q1:=(h6.out w N).2.1;have q2:=(h6.out w N).2.2.1;have q3:=(h6.out w N).2.2.2;clear G;simp only[Par.af,d5];go_simp;all_goals exact⟨rfl,zg _ _⟩
  ·clear G;simp only[Par.af];go_simp;all_goals exact⟨rfl,zg _ _⟩
  ·have d7:=G 7 (by decide) (by decide) (by decide) (by kernel_rfl);replace d7:vs 7=.pointer (some ⟨b,0,none⟩):=d7;have V:=(HX.out w N).bl;clear G;simp only[Par.af,d7];go_simp;all_goals exact⟨rfl,zg _ _⟩
  ·have d8:=G 8 (by decide) (by decide) (by decide) (by kernel_rfl);replace d8:vs 8=.pointer (some ⟨b,0,none⟩):=d8;have V:=(HX.out w N).bl;clear G;simp only[Par.af,d8];go_simp;all_goals exact⟨rfl,zg _ _⟩
  ·have d9:=G 9 (by decide) (by decide) (by decide) (by kernel_rfl);replace d9:vs 9=.pointer (some ⟨b,1,none⟩):=d9;have q0:=(HX.out w N).b1;clear G;simp only[Par.af,d9];go_simp;all_goals exact⟨rfl,zg _ _⟩
  ·clear G;simp only[Par.af];go_simp;all_goals exact⟨rfl,zg _ _⟩
  ·have b6:=G 10 (by decide) (by decide) (by decide) (by kernel_rfl);replace b6:vs 10=(.slice (some ⟨go,0,none⟩) nt co):=b6;have b7:=G 11 (by decide) (by decide) (by decide) (by kernel_rfl);replace b7:vs 11=.int .i64 (t:Int):=b7;clear G;simp only[Par.af,b6,b7];go_simp;all_goals exact⟨rfl,zg _ _⟩
  ·have b8:=G 12 (by decide) (by decide) (by decide) (by kernel_rfl);replace b8:vs 12=.pointer (some ⟨go,t,none⟩):=b8;have q0:=(HX.out w N).o0;clear G;simp only[Par.af,b8];go_simp;all_goals exact⟨rfl,zg _ _⟩
  ·clear G;simp only[Par.af];go_simp;all_goals exact⟨rfl,zg _ _⟩
  ·have b9:=G 13 (by decide) (by decide) (by decide) (by kernel_rfl);replace b9:vs 13=(.slice (some ⟨gr,0,none⟩) na cr):=b9;have c4:=G 14 (by decide) (by decide) (by decide) (by kernel_rfl);replace c4:vs 14=.int .i64 (k:Int):=c4;clear G;simp only[Par.af,b9,c4];go_simp;all_goals exact⟨rfl,zg _ _⟩
  ·have c5:=G 15 (by decide) (by decide) (by decide) (by kernel_rfl);replace c5:vs 15=.pointer (some ⟨gr,k*2,none⟩):=c5;have V:=(a8.out w N).rl;clear G;simp only[Par.af,c5];go_simp;all_goals exact⟨rfl,zg _ _⟩
  ·have c6:=G 16 (by decide) (by decide) (by decide) (by kernel_rfl);replace c6:vs 16=.pointer (some ⟨gr,k*2+1,none⟩):=c6;have q0:=(a8.out w N).r0;clear G;simp only[Par.af,c6];go_simp;all_goals exact⟨rfl,zg _ _⟩
  ·clear N;simp only[Par.af];go_simp;all_goals exact⟨rfl,rfl⟩
  ·have d6:=G 6 (by decide) (by decide) (by decide) (by kernel_rfl);replace d6:vs 6=.agg #[.string nm,.slice (some ⟨bc,oc,none⟩) nc kc,.string key,.slice pd nd kd]:=d6;have z0:=aA hz 0;have z1:=aA hz 1;have z2:=aA hz 2;have z3:=aA hz 3;have zf:=(fun i=>zq w g i _ _ hz);have V:=aB hz;have HZ:=aa hz;clear N G hz;simp only[Par.af,a,d6];go_simp;exact⟨wV w g _ _ _ _,mn HZ.out _ _ _ _⟩
  have c7:=G 17 (by decide) (by decide) (by decide) (by kernel_rfl);replace c7:vs 17=(.slice (some ⟨gv,0,none⟩) nc cv):=c7;clear G;simp only[Par.af,c7];go_simp;all_goals exact⟨rfl,zg _ _⟩
 intro vs f g N hV a n5 hz;simp only[ex,ym];have d0:=hV 0 (by decide) (by decide) (by decide);replace d0:vs 0=.pointer (some ⟨b,0,none⟩):=d0;have d1:=hV 1 (by decide) (by decide) (by decide);replace d1:vs 1=.pointer (some ⟨b,0,none⟩):=d1;have d2:=hV 2 (by decide) (by decide) (by decide);replace d2:vs 2=.pointer (some ⟨b,0,none⟩):=d2;have d3:=hV 3 (by decide) (by decide) (by decide);replace d3:vs 3=(.slice (some ⟨gs,0,none⟩) nt cs):=d3;have d4:=hV 4 (by decide) (by decide) (by decide);replace d4:vs 4=.int .i64 (t:Int):=d4;have d5:=hV 5 (by decide) (by decide) (by decide);replace d5:vs 5=.pointer (some ⟨gs,t*4,none⟩):=d5;have d6:=hV 6 (by decide) (by decide) (by decide);replace d6:vs 6=.agg #[.string nm,.slice (some ⟨bc,oc,none⟩) nc kc,.string key,.slice pd nd kd]:=d6;have d7:=hV 7 (by decide) (by decide) (by decide);replace d7:vs 7=.pointer (some ⟨b,0,none⟩):=d7;have d8:=hV 8 (by decide) (by decide) (by decide);replace d8:vs 8=.pointer (some ⟨b,0,none⟩):=d8;have d9:=hV 9 (by decide) (by decide) (by decide);replace d9:vs 9=.pointer (some ⟨b,1,none⟩):=d9;have b6:=hV 10 (by decide) (by decide) (by decide);replace b6:vs 10=(.slice (some ⟨go,0,none⟩) nt co):=b6;have b7:=hV 11 (by decide) (by decide) (by decide);replace b7:vs 11=.int .i64 (t:Int):=b7;have b8:=hV 12 (by decide) (by decide) (by decide);replace b8:vs 12=.pointer (some ⟨go,t,none⟩):=b8;have b9:=hV 13 (by decide) (by decide) (by decide);replace b9:vs 13=(.slice (some ⟨gr,0,none⟩) na cr):=b9;have c4:=hV 14 (by decide) (by decide) (by decide);replace c4:vs 14=.int .i64 (k:Int):=c4;have c5:=hV 15 (by decide) (by decide) (by decide);replace c5:vs 15=.pointer (some ⟨gr,k*2,none⟩):=c5;have c6:=hV 16 (by decide) (by decide) (by decide);replace c6:vs 16=.pointer (some ⟨gr,k*2+1,none⟩):=c6;have c7:=hV 17 (by decide) (by decide) (by decide);replace c7:vs 17=(.slice (some ⟨gv,0,none⟩) nc cv):=c7;have h7:=hV 20 (by decide) (by decide) (by decide);replace h7:vs 20=(.slice (some ⟨gv,0,none⟩) nc cv):=h7;clear hV;rw[d6]at hz;simp only[a,d0,d1,d2,d3,d4,d5,d6,d7,d8,d9,b6,b7,b8,b9,c4,c5,c6,c7,h7];clear a d0 d1 d2 d3 d4 d5 d6 d7 d8 d9 b6 b7 b8 b9 c4 c5 c6 c7 h7;obtain⟨I,rfl⟩:∃x,x=f:=⟨_,rfl⟩;have hz:I.heap[g]?=some (.cells #[.string nm,.slice (some ⟨bc,oc,none⟩) nc kc,.string key,.slice pd nd kd] 60):=hz;have p6:=aa N;have X:Hid (∀y,Below I.heap.size I y->y.heap[g]?=some (.cells #[.string nm,.slice (some ⟨bc,oc,none⟩) nc kc,.string key,.slice pd nd kd] 60)):=aa (fun y H=>aE H hz);have U:Hid (∀y,Below I.heap.size I y->Below W.heap.size W y):=aa (fun y H=>aC N H);clear N n5 hz;go_wp2_with fail;go_loopg [10] (nc+1) (fun gh jv y=>∃(j:Nat),jv=.int .i64 (j:Int)/\j<=nc/\nc+1<=j+gh/\(∀i,i<j->eg F r i=false)/\Below I.heap.size I y)
 case atStart=>exact⟨0,rfl,zj _,by omega,fun i hi=>by omega,zg _ _⟩
 obtain⟨j,rfl,hj,hg,P,M⟩:=hrel;have HI:=aa (ab P M);have f0:=X.out wr M;have fl:=aB f0;by_cases L:j<nc
 ·have n6:(j:Int)<(nc:Int):=(by omega);have f1:=aA f0 1;have bl:=(HC.out wr (U.out wr M)).1;obtain⟨c0,c1,c2,c3⟩:=(HC.out wr (U.out wr M)).2 j L;obtain⟨c,b3⟩:=ae (mq F j);obtain⟨u,hu⟩:=ae (r.getD j z3);obtain⟨v0,v1,v2⟩:=(a8.out wr (U.out wr M)).v j L;have vl:=(a8.out wr (U.out wr M)).vl;rw[b3]at c0 c1 c2 c3;rw[hu]at v0 v1 v2;have l8:eg F r j=(c.mu&&decide (u.1=0)):=(by unfold eg;rw[b3,hu]);obtain⟨mu,k3⟩:=ae c.mu;rw[k3]at c2;have c8:=aa (ab l8 (ab b3 k3))
  have Q:eg F r j=false->∀i,i<j+1->eg F r i=false:=fun h i hi=>by
   by_cases e:i=j
   ·subst e;exact h
   exact HI.1 i (by omega)
  have b4:=aa Q;clear P M l8 b3 hu k3 Q f0 c0 c1 c3 v1 v2;cases mu
  ·have R:eg F r j=false:=(by rw[c8.1,c8.2.2];rfl);have Z:=aa R;clear R;go_wp2_with fail;go_roundg (nc-j)
   case measure=>omega
   exact⟨j+1,by go_num,by omega,by omega,b4.out Z.out,HI.2⟩
  by_cases Y:u.1=0
  ·have R:eg F r j=true:=(by rw[c8.1,c8.2.2,yy Y];rfl);rw[Y]at v0;have Z:=aa R;clear R Y;go_upto_region 6 with fail;clear v0 vl c2 bl fl f1;have E:Hid (∀y,Below wr.heap.size wr y->Below I.heap.size I y):=aa (fun y H=>aC HI.2 H);obtain⟨e4,a2⟩:=ae c.nm
   have e5:Hid (∀y,Below wr.heap.size wr y->bc<y.heap.size/\y.cell? ⟨bc,oc+j*4,none⟩=some (.string e4)):=aa (fun y H=>by
    rw[<-a2,<-c8.2.1];exact⟨(HC.out y (U.out y (E.out y H))).1,((HC.out y (U.out y (E.out y H))).2 j L).1⟩)
   have k4:=aa a2;clear a2;refine Par.ag 8 [.pointer (some ⟨g,1,none⟩),.slice (some ⟨bc,oc,none⟩) nc kc,.int .i64 (j:Int),.pointer (some ⟨bc,oc+j*4,none⟩),.pointer (some ⟨bc,oc+j*4,none⟩),.string e4,.int .i64 7,.string e4] (fun y=>Below wr.heap.size wr y) ?A2 ?hm2 ?hB2 ?hA2 (aG wr) ?hop2 ?hT2
   case hm2=>kernel_rfl
   case hB2=>kernel_rfl
   case hA2 =>
    simp only[Par.am,Par.ai,Act.put,eh,ez,dz,eo,ew,ey,ed,ic,gy];rfl
   case hop2 =>
    simp only[en,zh,Par.ah,yo];and_intros<;>intro f o<;>have S:=aa o
    have V:=aB (X.out f (E.out f o));rotate_left;have z0:=aA (X.out f (E.out f o)) 1;rotate_left 3;have V:=(e5.out f o).1;rotate_left;have z0:=(e5.out f o).2;rotate_left 3
    all_goals(clear o;simp only[Par.Gives];go_simp;all_goals exact S.out)
   intro f o;simp only[ex,ym];have S:=aa (U.out _ (E.out _ o));clear o;go_wp2_with fail;go_ret2;have e:=pB (ts:=ts) (As:=As) (B:=B) (by rw[HF.2.2.1];exact L) Z.out HI.1;rw[c8.2.1,k4.out]at e;exact⟨cH e,S.out⟩
  have R:eg F r j=false:=(by rw[c8.1,c8.2.2,yp Y];rfl);have h8:(u.1==0)=false:=beq_eq_false_iff_ne.2 Y;have Z:=aa R;clear R Y;go_wp2_with fail;go_roundg (nc-j)
  case measure=>omega
  exact⟨j+1,by go_num,by omega,by omega,b4.out Z.out,HI.2⟩
 obtain rfl:j=nc:=(by omega);have a3:∀i,i<F.cols.length->eg F r i=false:=(fun i hi=>HI.1 i (by rw[<-HF.2.2.1];exact hi));have f4:=aa a3;have f1:=aA f0 1;have f2:=aA f0 2;have f3:=aA f0 3;have f0:=aA f0 0;have k5:=k1.out wr (U.out wr M) key;obtain⟨q,hq⟩:=ae (fx F.cols key);rw[hq]at k5;have HQ:=aa hq;clear P M a3 L hj hg hq
 go_upto_if 71 with (go_at_call 97;(with_reducible refine k5.mono ?_);rintro e w2⟨rfl,l9⟩;have H2:=aa (aC HI.2 l9);clear k5 l9)
 clear f0 f1 f2 f3 fl;have p7:(k:Int)<=1000:=by omega
 go_cut []from 300 to 300 (fun wx=>ll F r B=false/\Below I.heap.size I wx)
 case first =>
  by_cases f5:key=e0
  ·have p8:¬ 0<=q:=by
    have h1:=HQ.out;have h2:=HF.2.1;rw[f5]at h1;omega
   have g0:=aa f5;clear f5;go_wp2_with fail;go_meet;exact⟨Gh (HF.2.2.2.2.1.trans g0.out),H2.out⟩
  obtain⟨qn,g2,h9⟩:=HF.1.key.resolve_left (fun h=>f5 (HF.2.2.2.2.1.symm.trans h));have g2:fx F.cols key=(qn:Int):=(by rw[<-g2,HF.2.2.2.2.1]);have h9:qn<j:=(by rw[<-HF.2.2.1];exact h9);obtain rfl:q=(qn:Int):=HQ.out.symm.trans g2;have p9:0<=(qn:Int):=(by omega);have q4:(qn:Int)<(j:Int):=(by omega);have g0:=aa (ab f5 g2);clear f5 g2;go_wp2_with fail;go_loopg [12] (k+1) (fun gh mv y=>∃(m:Nat),mv=.int .i64 (m:Int)/\m<=k/\k+1<=m+gh/\(∀i,i<m->bf F key r (B.getD i [])=false)/\Below I.heap.size I y)
  case atStart=>exact⟨0,rfl,zj _,by omega,fun i hi=>by omega,H2.out⟩
  obtain⟨m,rfl,hm,hg,P,M⟩:=hrel;have a0:=aa (ab P M);by_cases L:m<k
  ·have n7:(m:Int)<(k:Int):=(by omega);have q5:(m:Int)<(na:Int):=(by omega);obtain⟨gm,cm,f6⟩:=l7.out m L;obtain⟨x,hx⟩:=ae ((B.getD m []).getD qn z3);obtain⟨u,hu⟩:=ae (r.getD qn z3);obtain⟨lk,f7⟩:=ae (bf F key r (B.getD m []));have m0:decide (x=u)=lk:=(by rw[<-hx,<-hu,<-f7];exact qU g0.2);have c9:Hid (∀w,Calls prog 210 #[.agg #[.int .i64 x.1,.int .i64 x.2.1,.string x.2.2],.agg #[.int .i64 u.1,.int .i64 u.2.1,.string u.2.2]] w fun e f=>e=.returned (.bool lk)/\Below w.heap.size w f):=aa (fun w=>by rw[<-m0];exact k2.out x u w);have E:Hid (∀y,Below wr.heap.size wr y->Below I.heap.size I y):=aa (fun y H=>aC a0.2 H);have a9:Hid (∀y,Below wr.heap.size wr y->Ao y gr m gm cm j (B.getD m [])):=aa (fun y H=>f6 y (U.out y (E.out y H)));have a4:Hid (∀y,Below wr.heap.size wr y->y.cell? ⟨gm,qn*3,none⟩=some (.int .i64 x.1)/\y.cell? ⟨gm,qn*3+1,none⟩=some (.int .i64 x.2.1)/\y.cell? ⟨gm,qn*3+2,none⟩=some (.string x.2.2)):=aa (fun y H=>by rw[<-hx];exact(a9.out y H).v qn h9);have a5:Hid (∀y,Below wr.heap.size wr y->y.cell? ⟨gv,qn*3,none⟩=some (.int .i64 u.1)/\y.cell? ⟨gv,qn*3+1,none⟩=some (.int .i64 u.2.1)/\y.cell? ⟨gv,qn*3+2,none⟩=some (.string u.2.2)):=aa (fun y H=>by rw[<-hu];exact(a8.out y (U.out y (E.out y H))).v qn h9);have i0:Hid (∀y,Below wr.heap.size wr y->_):=aa (fun y H=>HX.out y (U.out y (E.out y H)));have m1:=aa f7;clear P M f6 hx hu f7 m0;go_upto_region 12 with fail;refine Par.ag 19 [.pointer (some ⟨b,0,none⟩),.pointer (some ⟨b,0,none⟩),.pointer (some ⟨b,1,none⟩),.slice (some ⟨go,0,none⟩) nt co,.int .i64 (t:Int),.pointer (some ⟨go,t,none⟩),.slice (some ⟨gr,0,none⟩) na cr,.int .i64 (m:Int),.pointer (some ⟨gr,m*2,none⟩),.pointer (some ⟨gr,m*2+1,none⟩),.slice (some ⟨gm,0,none⟩) j cm,.int .i64 (qn:Int),.pointer (some ⟨gm,qn*3,none⟩),.agg #[.int .i64 x.1,.int .i64 x.2.1,.string x.2.2],.slice (some ⟨gv,0,none⟩) j cv,.int .i64 (qn:Int),.pointer (some ⟨gv,qn*3,none⟩),.agg #[.int .i64 u.1,.int .i64 u.2.1,.string u.2.2],.bool lk] (fun y=>Below wr.heap.size wr y) ?A3 ?hm3 ?hB3 ?hA3 (aG wr) ?hop3 ?hT3
   case hm3=>kernel_rfl
   case hB3=>kernel_rfl
   case hA3 =>
    simp only[Par.am,Par.ai,Act.put,eh,ez,dz,eo,ew,ey,ed,ic,gy];rfl
   case hop3 =>
    simp only[en,zh,Par.ah,yo];and_intros<;>intro f o<;>have S:=aa o
    rotate_left;have V:=(i0.out f o).bl;rotate_left;have V:=(i0.out f o).bl;rotate_left;have x0:=(i0.out f o).b1;rotate_left 3;have x0:=(i0.out f o).o0;rotate_left 3;have V:=(a9.out f o).rl;rotate_left;have x0:=(a9.out f o).r0;rotate_left 3;have x0:=(a4.out f o).1;have x1:=(a4.out f o).2.1;have x2:=(a4.out f o).2.2;rotate_left 4;have x0:=(a5.out f o).1;have x1:=(a5.out f o).2.1;have x2:=(a5.out f o).2.2;rotate_left
    ·clear o;simp only[Par.Gives];go_simp;exact(c9.out f).mono (fun e g3⟨he,hb⟩=>⟨he,aC S.out hb⟩)
    all_goals(clear o;simp only[Par.Gives];go_simp;all_goals exact S.out)
   intro f o;simp only[ex,ym];have HA:=aa (E.out _ o);clear o;cases lk
   ·go_wp2_with fail;go_roundg (k-m)
    case measure=>omega
    refine⟨m+1,by go_num,by omega,by omega,fun i hi=>?_,HA.out⟩;by_cases e:i=m
    ·subst e;exact m1.out
    exact a0.1 i (by omega)
   go_upto_region 13 with fail;obtain⟨w4,rfl⟩:∃x,x=f:=⟨_,rfl⟩;refine Par.ag 4 [.pointer (some ⟨g,2,none⟩),.string key,.int .i64 8,.string key] (fun y=>Below w4.heap.size w4 y) ?A4 ?hm4 ?hB4 ?hA4 (aG w4) ?hop4 ?hT4
   case hm4=>kernel_rfl
   case hB4=>kernel_rfl
   case hA4 =>
    simp only[Par.am,Par.ai,Act.put,eh,ez,dz,eo,ew,ey,ed,ic,gy];rfl
   case hop4 =>
    simp only[en,zh,Par.ah,yo];and_intros<;>intro f o<;>have S:=aa o
    have V:=aB (X.out f (aC HA.out o));rotate_left;have z0:=aA (X.out f (aC HA.out o)) 2;rotate_left 3
    all_goals(clear o;simp only[Par.Gives];go_simp;all_goals exact S.out)
   intro f o;simp only[ex,ym];have g4:=aa (U.out _ (aC HA.out o));clear o;go_wp2_with fail;go_ret2
   have i2:ll F r B=true:=by
    unfold ll;rw[HF.2.2.2.2.1,yy g0.1,ve];exact yV (p:=fun a=>bf F key r a) (by rw[HF.2.2.2.2.2.1];exact L) m1.out
   have e:=tV (ts:=ts) (As:=As) (B:=B) f4.out i2;rw[HF.2.2.2.2.1]at e;exact⟨cH e,g4.out⟩
  obtain rfl:m=k:=(by omega);clear P M;go_wp2_with fail;go_meet;refine⟨?_,a0.2⟩;unfold ll;rw[HF.2.2.2.2.1,yy g0.1,ve];exact CQ (p:=fun a=>bf F key r a) HF.2.2.2.2.2.1 a0.1
 obtain⟨i2,m2⟩:=hcut;have i3:=aa (ab i2 m2);clear i2 m2;go_wp2_with fail;go_loopg [13] (j+1) (fun gh jv y=>∃(m:Nat),jv=.int .i64 (m:Int)/\m<=j/\j+1<=m+gh/\(∀i,i<m->jm ts As F r i=false)/\Below I.heap.size I y)
 case atStart=>exact⟨0,rfl,zj _,by omega,fun i hi=>by omega,i3.2⟩
 obtain⟨m,rfl,hm,hg,P,M⟩:=hrel;have a0:=aa (ab P M);by_cases L:m<j
 ·have n7:(m:Int)<(j:Int):=(by omega);have f0:=X.out wr M;have fl:=aB f0;have f1:=aA f0 1;have bl:=(HC.out wr (U.out wr M)).1;obtain⟨c0,c1,c2,c3⟩:=(HC.out wr (U.out wr M)).2 m L;obtain⟨c,b3⟩:=ae (mq F m);obtain⟨u,hu⟩:=ae (r.getD m z3);obtain⟨v0,v1,v2⟩:=(a8.out wr (U.out wr M)).v m L;have vl:=(a8.out wr (U.out wr M)).vl;rw[b3]at c3;rw[hu]at v0;have k6:jm ts As F r m=(decide (c.tgt≠e0)&&(decide (u.1≠0)&&(bi ts As c.tgt u).isNone)):=(by unfold jm;rw[b3,hu]);obtain⟨tg,k7⟩:=ae c.tgt;rw[k7]at c3 k6;have e6:=aa (ab k6 (ab b3 (ab hu k7)))
  have Q:jm ts As F r m=false->∀i,i<m+1->jm ts As F r i=false:=fun h i hi=>by
   by_cases e:i=m
   ·subst e;exact h
   exact a0.1 i (by omega)
  have b4:=aa Q;clear P M k6 b3 hu k7 Q f0 c0 c1 c2 v1 v2;by_cases g5:tg=e0
  ·subst g5;have R:jm ts As F r m=false:=(by rw[e6.1];rfl);have Z:=aa R;clear R;go_wp2_with fail;go_roundg (j-m)
   case measure=>omega
   exact⟨m+1,by go_num,by omega,by omega,b4.out Z.out,a0.2⟩
  have n8:=nN g5;by_cases Y:u.1=0
  ·have R:jm ts As F r m=false:=(by rw[e6.1,yp (fun h:u.1≠0=>h Y),Bool.false_and,Bool.and_false]);rw[Y]at v0;have Z:=aa R;clear R Y g5;go_wp2_with fail;go_roundg (j-m)
   case measure=>omega
   exact⟨m+1,by go_num,by omega,by omega,b4.out Z.out,a0.2⟩
  have h8:(u.1==0)=false:=beq_eq_false_iff_ne.2 Y;have R:jm ts As F r m=(bi ts As tg u).isNone:=(by rw[e6.1,yy g5,yy Y,ve,ve]);have Z:=aa R;have E:Hid (∀y,Below wr.heap.size wr y->Below I.heap.size I y):=aa (fun y H=>aC a0.2 H);obtain⟨e4,a2⟩:=ae c.nm
  have e5:Hid (∀y,Below wr.heap.size wr y->bc<y.heap.size/\y.cell? ⟨bc,oc+m*4,none⟩=some (.string e4)/\y.cell? ⟨bc,oc+m*4+3,none⟩=some (.string tg)):=aa (fun y H=>by
   rw[<-a2,<-e6.2.2.2,<-e6.2.1];exact⟨(HC.out y (U.out y (E.out y H))).1,((HC.out y (U.out y (E.out y H))).2 m L).1,((HC.out y (U.out y (E.out y H))).2 m L).2.2.2⟩)
  have k8:Hid (∀y,Below wr.heap.size wr y->y.cell? ⟨gv,m*3,none⟩=some (.int .i64 u.1)/\y.cell? ⟨gv,m*3+1,none⟩=some (.int .i64 u.2.1)/\y.cell? ⟨gv,m*3+2,none⟩=some (.string u.2.2)):=aa (fun y H=>by
   rw[<-e6.2.2.1];exact(a8.out y (U.out y (E.out y H))).v m L)
  have k4:=aa a2;clear R Y g5 a2;go_upto_region 18 with fail;clear v0 vl c3 bl fl f1 n8 h8;obtain⟨s,hs⟩:=ae ((bi ts As tg u).isSome);obtain⟨av,m3⟩:=ae ((bi ts As tg u).getD 0)
  have m4:Hid (∀y,Below wr.heap.size wr y->Calls prog 211 #[.pointer (some ⟨b,0,none⟩),.string tg,.agg #[.int .i64 u.1,.int .i64 u.2.1,.string u.2.2]] y fun e f=>e=.returned (.tuple #[.int .i64 av,.bool s])/\Below y.heap.size y f):=aa (fun y H=>by
   rw[<-hs,<-m3];exact n2.out y (U.out _ (E.out _ H)) tg u)
  have HS:=aa hs;clear hs m3;refine Par.ag 17 [.pointer (some ⟨b,0,none⟩),.pointer (some ⟨g,1,none⟩),.slice (some ⟨bc,oc,none⟩) j kc,.int .i64 (m:Int),.pointer (some ⟨bc,oc+m*4,none⟩),.pointer (some ⟨bc,oc+m*4+3,none⟩),.string tg,.slice (some ⟨gv,0,none⟩) j cv,.int .i64 (m:Int),.pointer (some ⟨gv,m*3,none⟩),.agg #[.int .i64 u.1,.int .i64 u.2.1,.string u.2.2],.tuple #[.int .i64 av,.bool s],.tuple #[.int .i64 av,.bool s],.int .i64 av,.bool s,.int .i64 av,.bool s] (fun y=>Below wr.heap.size wr y) ?A5 ?hm5 ?hB5 ?hA5 (aG wr) ?hop5 ?hT5
  case hm5=>kernel_rfl
  case hB5=>kernel_rfl
  case hA5 =>
   simp only[Par.am,Par.ai,Act.put,eh,ez,dz,eo,ew,ey,ed,ic,gy];rfl
  case hop5 =>
   simp only[en,zh,Par.ah,yo];and_intros<;>intro f o<;>have S:=aa o
   rotate_left;have V:=aB (X.out f (E.out f o));rotate_left;have z0:=aA (X.out f (E.out f o)) 1;rotate_left 3;have V:=(e5.out f o).1;rotate_left;have z0:=(e5.out f o).2.2;rotate_left 4;have x0:=(k8.out f o).1;have x1:=(k8.out f o).2.1;have x2:=(k8.out f o).2.2;rotate_left
   ·clear o;simp only[Par.Gives];go_simp;exact(m4.out f S.out).mono (fun e g3⟨he,hb⟩=>⟨he,aC S.out hb⟩)
   rotate_left 5
   all_goals(clear o;simp only[Par.Gives];go_simp;all_goals exact S.out)
  intro f o;simp only[ex,ym];have HA:=aa o;clear o;cases s
  ·go_upto_region 20 with fail;obtain⟨w4,rfl⟩:∃x,x=f:=⟨_,rfl⟩;refine Par.ag 8 [.pointer (some ⟨g,1,none⟩),.slice (some ⟨bc,oc,none⟩) j kc,.int .i64 (m:Int),.pointer (some ⟨bc,oc+m*4,none⟩),.pointer (some ⟨bc,oc+m*4,none⟩),.string e4,.int .i64 9,.string e4] (fun y=>Below w4.heap.size w4 y) ?A6 ?hm6 ?hB6 ?hA6 (aG w4) ?hop6 ?hT6
   case hm6=>kernel_rfl
   case hB6=>kernel_rfl
   case hA6 =>
    simp only[Par.am,Par.ai,Act.put,eh,ez,dz,eo,ew,ey,ed,ic,gy];rfl
   case hop6 =>
    simp only[en,zh,Par.ah,yo];and_intros<;>intro f o<;>have S:=aa o
    have V:=aB (X.out f (E.out f (aC HA.out o)));rotate_left;have z0:=aA (X.out f (E.out f (aC HA.out o))) 1;rotate_left 3;have V:=(e5.out f (aC HA.out o)).1;rotate_left;have z0:=(e5.out f (aC HA.out o)).2.1;rotate_left 3
    all_goals(clear o;simp only[Par.Gives];go_simp;all_goals exact S.out)
   intro f o;simp only[ex,ym];have g4:=aa (U.out _ (E.out _ (aC HA.out o)));clear o;go_wp2_with fail;go_ret2;have hq:jm ts As F r m=true:=by rw[Z.out];have h:=HS.out;cases hh:bi ts As tg u <;> rw[hh]at h <;> first|rfl|cases h
   have e:=tW (ts:=ts) (As:=As) (B:=B) f4.out i3.1 (by rw[HF.2.2.1];exact L) hq a0.1;rw[e6.2.1,k4.out]at e;exact⟨cH e,g4.out⟩
  go_wp2_with fail;go_roundg (j-m)
  case measure=>omega
  exact⟨m+1,by go_num,by omega,by omega,b4.out (by rw[Z.out];have h:=HS.out;cases hh:bi ts As tg u <;> rw[hh]at h <;> first|rfl|cases h),E.out _ HA.out⟩
 obtain rfl:m=j:=(by omega);have a3:∀i,i<F.cols.length->jm ts As F r i=false:=(fun i hi=>a0.1 i (by rw[<-HF.2.2.1];exact hi));have i9:=aa a3;clear P M a3 L hm hg;go_wp2_with fail;go_loopg [16] (nd+1) (fun gh jv y=>∃(i:Nat),jv=.int .i64 (i:Int)/\i<=nd/\nd+1<=i+gh/\(∀k,k<i->dk F (qp F k) r B=false)/\Below I.heap.size I y)
 case atStart=>exact⟨0,rfl,zj _,by omega,fun i hi=>by omega,a0.2⟩
 obtain⟨i,rfl,hi,hg,P,M⟩:=hrel;have g6:=aa (ab P M);have f0:=X.out wr M;have f3:=aA f0 3;have fl:=aB f0;by_cases L:i<nd
 ·have k9:i<F.deps.length:=(by rw[HF.2.2.2.1];exact L);have q6:(i:Int)<(nd:Int):=(by omega);obtain⟨bd,od,pl,cl,rfl,hD,m5⟩:=n3.out i L;have e1:=HF.1.deps _ (by rw[wT k9];exact z8 k9:qp F i∈F.deps);obtain⟨d,G⟩:=ae (qp F i);rw[G]at hD e1;obtain⟨rc,l0,g7⟩:=e1.r;rw[HF.2.2.1]at g7;have n9:=e1.n;have p0:(rc:Int)<(m:Int):=(by omega);obtain⟨rt,f8⟩:=ae d.right;obtain⟨l,hl⟩:=ae d.left
  have l1:∀j,j<l.length->∃bl ol,pl=some ⟨bl,ol,none⟩/\∀y,Below W.heap.size W y->bl<y.heap.size/\y.cell? ⟨bl,ol+j,none⟩=some (.string (l.getD j e0)):=by
   rw[<-hl,<-G];exact m5
  obtain⟨nl,e2⟩:=ae l.length;rw[f8,hl,e2]at hD;rw[e2]at l1;rw[hl,e2]at n9;have p1:(nl:Int)<=1000:=(by omega);have E:Hid (∀y,Below wr.heap.size wr y->Below I.heap.size I y):=aa (fun y H=>aC g6.2 H);have e7:Hid (∀y,Below I.heap.size I y->bd<y.heap.size/\y.cell? ⟨bd,od+i*2,none⟩=some (.slice pl nl cl)/\y.cell? ⟨bd,od+i*2+1,none⟩=some (.string rt)):=aa (fun y H=>hD y (U.out y H));have o1:=aa l1
  have o2:Hid (∀y,Below wr.heap.size wr y->Calls prog 97 #[.agg #[.string nm,.slice (some ⟨bc,oc,none⟩) m kc,.string key,.slice (some ⟨bd,od,none⟩) nd kd],.string rt] y fun e f=>e=.returned (.int .i64 (rc:Int))/\Below y.heap.size y f):=aa (fun y H=>by
   have:=k1.out y (U.out y (E.out y H)) rt
   rw[<-f8,l0]at this;rw[<-f8];exact this)
  have m6:∀q,dk F d r B=q->B.any (fun a=>(l.all fun x=>bf F x r a)&&!bf F rt r a)=q:=(fun q h=>by rw[<-h,<-f8,<-hl];rfl);have j0:Hid (dk F d r B=B.any (fun a=>(l.all fun x=>bf F x r a)&&!bf F rt r a)):=aa (m6 _ rfl).symm;have a6:=aa (ab G (ab f8 (ab hl (ab e2 (ab l0 e1)))));clear P M f0 hD m5 l1 e1 G l0 f8 hl e2 m6;go_upto_region 24 with fail;clear f3 fl;refine Par.ag 9 [.agg #[.string nm,.slice (some ⟨bc,oc,none⟩) m kc,.string key,.slice (some ⟨bd,od,none⟩) nd kd],.pointer (some ⟨g,3,none⟩),.slice (some ⟨bd,od,none⟩) nd kd,.int .i64 (i:Int),.pointer (some ⟨bd,od+i*2,none⟩),.pointer (some ⟨bd,od+i*2+1,none⟩),.string rt,.int .i64 (rc:Int),.int .i64 (rc:Int)] (fun y=>Below wr.heap.size wr y) ?A7 ?hm7 ?hB7 ?hA7 (aG wr) ?hop7 ?hT7
  case hm7=>kernel_rfl
  case hB7=>kernel_rfl
  case hA7 =>
   simp only[Par.am,Par.ai,Act.put,eh,ez,dz,eo,ew,ey,ed,ic,gy];rfl
  case hop7 =>
   simp only[en,zh,Par.ah,yo];and_intros<;>intro f o<;>have S:=aa o
   have z0:=aA (X.out f (E.out f o)) 0;have z1:=aA (X.out f (E.out f o)) 1;have z2:=aA (X.out f (E.out f o)) 2;have z3:=aA (X.out f (E.out f o)) 3;have V:=aB (X.out f (E.out f o));rotate_left;have V:=aB (X.out f (E.out f o));rotate_left;have z0:=aA (X.out f (E.out f o)) 3;rotate_left 3;have V:=(e7.out f (E.out f o)).1;rotate_left;have z0:=(e7.out f (E.out f o)).2.2;rotate_left
   ·clear o;simp only[Par.Gives];go_simp;exact(o2.out f S.out).mono (fun e g3⟨he,hb⟩=>⟨he,aC S.out hb⟩)
   rotate_left
   all_goals(clear o;simp only[Par.Gives];go_simp;all_goals exact S.out)
  intro f o;simp only[ex,ym];have HA:=aa (E.out _ o);clear o;go_wp2_with fail;go_loopg [18] (k+1) (fun gh jv y=>∃(j:Nat),jv=.int .i64 (j:Int)/\j<=k/\k+1<=j+gh/\(∀x,x<j->((l.all fun n=>bf F n r (B.getD x []))&&!bf F rt r (B.getD x []))=false)/\Below I.heap.size I y)
  case atStart=>exact⟨0,rfl,zj _,by omega,fun i hi=>by omega,HA.out⟩
  obtain⟨j,rfl,hj,q7,P,M⟩:=hrel;have i4:=aa (ab P M);by_cases f7:j<k
  ·have n6:(j:Int)<(k:Int):=(by omega);have q8:(j:Int)<(na:Int):=(by omega);obtain⟨gm,cm,f6⟩:=l7.out j f7;obtain⟨a,ha⟩:=ae (B.getD j []);rw[ha]at f6;have a9:Hid (∀y,Below I.heap.size I y->Ao y gr j gm cm m a):=aa (fun y H=>f6 y (U.out y H));have m7:=aa ha;clear P M f6 ha;go_wp2_with fail;go_loopg [19,20] (nl+1) (fun gh lv xv y=>∃(x:Nat),xv=.int .i64 (x:Int)/\x<=nl/\nl+1<=x+gh/\lv=.bool (ri F l x r a)/\Below I.heap.size I y)
   case atStart=>exact⟨0,rfl,zj _,by omega,by rw[GS],i4.2⟩
   obtain⟨x,rfl,hx,q9,rfl,M⟩:=hrel;have f0:=X.out wr M;have f3:=aA f0 3;have fl:=aB f0;obtain⟨dl,d0,d1⟩:=e7.out wr M;obtain⟨lb,g8⟩:=ae (ri F l x r a);rw[g8];by_cases l2:x<nl
   ·have r1:(x:Int)<(nl:Int):=(by omega);obtain⟨bw,ow,rfl,hw⟩:=o1.out x l2
    have j1:l.getD x e0∈l:=by
     have:x<l.length:=(by rw[a6.2.2.2.1];exact l2);rw[zv,z6 this];exact z8 this
    obtain⟨lc,i5,g9⟩:=a6.2.2.2.2.2.l _ (by rw[a6.2.2.1];exact j1);rw[HF.2.2.1]at g9;have a7:=F5 (t:=F) (r:=r) (a:=a) (l:=l) (k:=x) (by rw[a6.2.2.2.1];exact l2);rw[g8]at a7;have b2:=qU (r:=r) (a:=a) i5;obtain⟨wd,m8⟩:=ae (l.getD x e0);rw[m8]at hw i5 a7 b2;obtain⟨q,hq⟩:=ae (bf F wd r a);rw[hq]at a7 b2;obtain⟨v,hv⟩:=ae (a.getD lc z3);obtain⟨u,hu⟩:=ae (r.getD lc z3);rw[hv,hu]at b2;have p2:(lc:Int)<(m:Int):=(by omega);obtain⟨w5,m9⟩:∃z,z=wr:=⟨_,rfl⟩;have e8:=M;rw[<-m9]at e8;have a1:Hid (∀y,Below w5.heap.size w5 y->Below I.heap.size I y):=aa (fun y H=>aC e8 H);have o3:Hid (∀y,Below w5.heap.size w5 y->bw<y.heap.size/\y.cell? ⟨bw,ow+x,none⟩=some (.string wd)):=aa (fun y H=>hw y (U.out y (a1.out y H)))
    have o4:Hid (∀y,Below w5.heap.size w5 y->Calls prog 97 #[.agg #[.string nm,.slice (some ⟨bc,oc,none⟩) m kc,.string key,.slice (some ⟨bd,od,none⟩) nd kd],.string wd] y fun e f=>e=.returned (.int .i64 (lc:Int))/\Below y.heap.size y f):=aa (fun y H=>by
     have:=k1.out y (U.out y (a1.out y H)) wd
     rw[i5]at this;exact this)
    have c9:Hid (∀w,Calls prog 210 #[.agg #[.int .i64 v.1,.int .i64 v.2.1,.string v.2.2],.agg #[.int .i64 u.1,.int .i64 u.2.1,.string u.2.2]] w fun e f=>e=.returned (.bool q)/\Below w.heap.size w f):=aa (fun w=>by rw[<-b2];exact k2.out v u w);have a4:Hid (∀y,Below I.heap.size I y->y.cell? ⟨gm,lc*3,none⟩=some (.int .i64 v.1)/\y.cell? ⟨gm,lc*3+1,none⟩=some (.int .i64 v.2.1)/\y.cell? ⟨gm,lc*3+2,none⟩=some (.string v.2.2)):=aa (fun y H=>by rw[<-hv];exact(a9.out y H).v lc g9);have a5:Hid (∀y,Below I.heap.size I y->y.cell? ⟨gv,lc*3,none⟩=some (.int .i64 u.1)/\y.cell? ⟨gv,lc*3+1,none⟩=some (.int .i64 u.2.1)/\y.cell? ⟨gv,lc*3+2,none⟩=some (.string u.2.2)):=aa (fun y H=>by rw[<-hu];exact(a8.out y (U.out y H)).v lc g9);have n0:=aa a7;have r2:=aa M;clear M f0 hw j1 i5 a7 b2 m8 hq hv hu e8 d1 g8;subst m9;go_upto_region 32 with fail;clear f3 fl dl d0;refine Par.ag 12 [.agg #[.string nm,.slice (some ⟨bc,oc,none⟩) m kc,.string key,.slice (some ⟨bd,od,none⟩) nd kd],.pointer (some ⟨g,3,none⟩),.slice (some ⟨bd,od,none⟩) nd kd,.int .i64 (i:Int),.pointer (some ⟨bd,od+i*2,none⟩),.pointer (some ⟨bd,od+i*2,none⟩),.slice (some ⟨bw,ow,none⟩) nl cl,.int .i64 (x:Int),.pointer (some ⟨bw,ow+x,none⟩),.string wd,.int .i64 (lc:Int),.int .i64 (lc:Int)] (fun y=>Below w5.heap.size w5 y) ?A8 ?hm8 ?hB8 ?hA8 (aG w5) ?hop8 ?hT8
    case hm8=>kernel_rfl
    case hB8=>kernel_rfl
    case hA8 =>
     simp only[Par.am,Par.ai,Act.put,eh,ez,dz,eo,ew,ey,ed,ic,gy];rfl
    case hop8 =>
     simp only[en,zh,Par.ah,yo];and_intros<;>intro f o<;>have S:=aa o
     have z0:=aA (X.out f (a1.out f o)) 0;have z1:=aA (X.out f (a1.out f o)) 1;have z2:=aA (X.out f (a1.out f o)) 2;have z3:=aA (X.out f (a1.out f o)) 3;have V:=aB (X.out f (a1.out f o));rotate_left;have V:=aB (X.out f (a1.out f o));rotate_left;have z0:=aA (X.out f (a1.out f o)) 3;rotate_left 3;have V:=(e7.out f (a1.out f o)).1;rotate_left;have z0:=(e7.out f (a1.out f o)).2.1;rotate_left 3;have z0:=(o3.out f o).2;rotate_left
     ·clear o;simp only[Par.Gives];go_simp;exact(o4.out f S.out).mono (fun e g3⟨he,hb⟩=>⟨he,aC S.out hb⟩)
     rotate_left
     all_goals(clear o;simp only[Par.Gives];go_simp;all_goals exact S.out)
    intro f o;simp only[ex,ym];have o5:=aa (a1.out _ o);clear o;obtain⟨w6,rfl⟩:∃z,z=f:=⟨_,rfl⟩;have J:Hid (∀y,Below w6.heap.size w6 y->Below I.heap.size I y):=aa (fun y H=>aC o5.out H);have b5:Hid (∀y,Below w6.heap.size w6 y->_):=aa (fun y H=>HX.out y (U.out y (J.out y H)));cases lb
    ·go_upto_region 33 with fail;refine Par.ag 22 [.bool false,.bool false,undef,undef,undef,undef,undef,undef,undef,undef,undef,undef,undef,undef,undef,undef,undef,undef,undef,undef,undef,.bool false] (fun y=>Below w6.heap.size w6 y) ?A9 ?hm9 ?hB9 ?hA9 (aG w6) ?hop9 ?hT9
     case hm9=>kernel_rfl
     case hB9=>kernel_rfl
     case hA9 =>
      simp only[Par.am,Par.ai,Act.put,eh,ez,dz,eo,ew,ey,ed,ic,gy];rfl
     case hop9 =>
      simp only[en,zh,Par.ah,yo];and_intros<;>intro f o<;>have S:=aa o
      rotate_left 22
      all_goals(clear o;simp only[Par.Gives];go_simp;all_goals exact S.out)
     intro f o;simp only[ex,ye];have i6:=aa (J.out _ o);clear o;go_wp2_with fail;go_roundg (nl-x)
     case measure=>omega
     exact⟨x+1,by go_num,by omega,by omega,by rw[n0.out,Bool.false_and],i6.out⟩
    go_upto_region 33 with fail;refine Par.ag 22 [.bool true,.bool true,.pointer (some ⟨b,0,none⟩),.pointer (some ⟨b,0,none⟩),.pointer (some ⟨b,1,none⟩),.slice (some ⟨go,0,none⟩) nt co,.int .i64 (t:Int),.pointer (some ⟨go,t,none⟩),.slice (some ⟨gr,0,none⟩) na cr,.int .i64 (j:Int),.pointer (some ⟨gr,j*2,none⟩),.pointer (some ⟨gr,j*2+1,none⟩),.slice (some ⟨gm,0,none⟩) m cm,.int .i64 (lc:Int),.pointer (some ⟨gm,lc*3,none⟩),.agg #[.int .i64 v.1,.int .i64 v.2.1,.string v.2.2],.slice (some ⟨gv,0,none⟩) m cv,.int .i64 (lc:Int),.pointer (some ⟨gv,lc*3,none⟩),.agg #[.int .i64 u.1,.int .i64 u.2.1,.string u.2.2],.bool q,.bool q] (fun y=>Below w6.heap.size w6 y) ?A10 ?hm10 ?hB10 ?hA10 (aG w6) ?hop10 ?hT10
    case hm10=>kernel_rfl
    case hB10=>kernel_rfl
    case hA10 =>
     simp only[Par.am,Par.ai,Act.put,eh,ez,dz,eo,ew,ey,ed,ic,gy];rfl
    case hop10 =>
     simp only[en,zh,Par.ah,yo];and_intros<;>intro f o<;>have S:=aa o
     rotate_left 3;have V:=(b5.out f o).bl;rotate_left;have V:=(b5.out f o).bl;rotate_left;have x0:=(b5.out f o).b1;rotate_left 3;have x0:=(b5.out f o).o0;rotate_left 3;have V:=(a9.out f (J.out _ o)).rl;rotate_left;have x0:=(a9.out f (J.out _ o)).r0;rotate_left 3;have x0:=(a4.out f (J.out _ o)).1;have x1:=(a4.out f (J.out _ o)).2.1;have x2:=(a4.out f (J.out _ o)).2.2;rotate_left 4;have x0:=(a5.out f (J.out _ o)).1;have x1:=(a5.out f (J.out _ o)).2.1;have x2:=(a5.out f (J.out _ o)).2.2;rotate_left
     ·clear o;simp only[Par.Gives];go_simp;exact(c9.out f).mono (fun e g3⟨he,hb⟩=>⟨he,aC S.out hb⟩)
     rotate_left
     all_goals(clear o;simp only[Par.Gives];go_simp;all_goals exact S.out)
    intro f o;simp only[ex,ye];have i6:=aa (J.out _ o);clear o;go_wp2_with fail;go_roundg (nl-x)
    case measure=>omega
    exact⟨x+1,by go_num,by omega,by omega,by rw[n0.out,ve],i6.out⟩
   obtain rfl:x=nl:=(by omega);have j2:(l.all fun n=>bf F n r a)=lb:=(by rw[<-g8,<-a6.2.2.2.1,Hc]);obtain⟨v,hv⟩:=ae (a.getD rc z3);obtain⟨u,hu⟩:=ae (r.getD rc z3);have b2:=qU (r:=r) (a:=a) a6.2.2.2.2.1;rw[a6.2.1]at b2;obtain⟨q,hq⟩:=ae (bf F rt r a);rw[hq,hv,hu]at b2;have c9:Hid (∀w,Calls prog 210 #[.agg #[.int .i64 v.1,.int .i64 v.2.1,.string v.2.2],.agg #[.int .i64 u.1,.int .i64 u.2.1,.string u.2.2]] w fun e f=>e=.returned (.bool q)/\Below w.heap.size w f):=aa (fun w=>by rw[<-b2];exact k2.out v u w);have a4:Hid (∀y,Below I.heap.size I y->y.cell? ⟨gm,rc*3,none⟩=some (.int .i64 v.1)/\y.cell? ⟨gm,rc*3+1,none⟩=some (.int .i64 v.2.1)/\y.cell? ⟨gm,rc*3+2,none⟩=some (.string v.2.2)):=aa (fun y H=>by rw[<-hv];exact(a9.out y H).v rc g7);have a5:Hid (∀y,Below I.heap.size I y->y.cell? ⟨gv,rc*3,none⟩=some (.int .i64 u.1)/\y.cell? ⟨gv,rc*3+1,none⟩=some (.int .i64 u.2.1)/\y.cell? ⟨gv,rc*3+2,none⟩=some (.string u.2.2)):=aa (fun y H=>by rw[<-hu];exact(a8.out y (U.out y H)).v rc g7);have j3:((l.all fun n=>bf F n r a)&&!bf F rt r a)=(lb&&!q):=(by rw[j2,hq]);have j4:=aa j3;have i6:=aa M;obtain⟨w6,n1⟩:∃z,z=wr:=⟨_,rfl⟩;have e8:=M;rw[<-n1]at e8;have J:Hid (∀y,Below w6.heap.size w6 y->Below I.heap.size I y):=aa (fun y H=>aC e8 H);have b5:Hid (∀y,Below w6.heap.size w6 y->_):=aa (fun y H=>HX.out y (U.out y (J.out y H)));clear M f0 j2 hv hu b2 hq j3 e8 d1 g8 L;subst n1
   have Q:(lb&&!q)=false->∀z,z<j+1->((l.all fun n=>bf F n r (B.getD z []))&&!bf F rt r (B.getD z []))=false:=fun h z hz=>by
    by_cases e:z=j
    ·subst e;rw[m7.out,j4.out];exact h
    exact i4.1 z (by omega)
   have b4:=aa Q;clear Q;cases lb
   ·go_upto_region 34 with fail;clear f3 fl dl d0;refine Par.ag 23 [.bool false,.bool false,undef,undef,undef,undef,undef,undef,undef,undef,undef,undef,undef,undef,undef,undef,undef,undef,undef,undef,undef,undef,.bool false] (fun y=>Below w6.heap.size w6 y) ?A11 ?hm11 ?hB11 ?hA11 (aG w6) ?hop11 ?hT11
    case hm11=>kernel_rfl
    case hB11=>kernel_rfl
    case hA11 =>
     simp only[Par.am,Par.ai,Act.put,eh,ez,dz,eo,ew,ey,ed,ic,gy];rfl
    case hop11 =>
     simp only[en,zh,Par.ah,yo];and_intros<;>intro f o<;>have S:=aa o
     rotate_left 23
     all_goals(clear o;simp only[Par.Gives];go_simp;all_goals exact S.out)
    intro f o;simp only[ex,ym];have e3:=aa (J.out _ o);clear o;go_wp2_with fail;go_roundg (k-j)
    case measure=>omega
    exact⟨j+1,by go_num,by omega,by omega,b4.out (by rw[Bool.false_and]),e3.out⟩
   go_upto_region 34 with fail;clear f3 fl dl d0;refine Par.ag 23 [.bool true,.bool true,.pointer (some ⟨b,0,none⟩),.pointer (some ⟨b,0,none⟩),.pointer (some ⟨b,1,none⟩),.slice (some ⟨go,0,none⟩) nt co,.int .i64 (t:Int),.pointer (some ⟨go,t,none⟩),.slice (some ⟨gr,0,none⟩) na cr,.int .i64 (j:Int),.pointer (some ⟨gr,j*2,none⟩),.pointer (some ⟨gr,j*2+1,none⟩),.slice (some ⟨gm,0,none⟩) m cm,.int .i64 (rc:Int),.pointer (some ⟨gm,rc*3,none⟩),.agg #[.int .i64 v.1,.int .i64 v.2.1,.string v.2.2],.slice (some ⟨gv,0,none⟩) m cv,.int .i64 (rc:Int),.pointer (some ⟨gv,rc*3,none⟩),.agg #[.int .i64 u.1,.int .i64 u.2.1,.string u.2.2],.bool q,.bool (!q),.bool (!q)] (fun y=>Below w6.heap.size w6 y) ?A12 ?hm12 ?hB12 ?hA12 (aG w6) ?hop12 ?hT12
   case hm12=>kernel_rfl
   case hB12=>kernel_rfl
   case hA12 =>
    simp only[Par.am,Par.ai,Act.put,eh,ez,dz,eo,ew,ey,ed,ic,gy];rfl
   case hop12 =>
    simp only[en,zh,Par.ah,yo];and_intros<;>intro f o<;>have S:=aa o
    rotate_left 3;have V:=(b5.out f o).bl;rotate_left;have V:=(b5.out f o).bl;rotate_left;have x0:=(b5.out f o).b1;rotate_left 3;have x0:=(b5.out f o).o0;rotate_left 3;have V:=(a9.out f (J.out _ o)).rl;rotate_left;have x0:=(a9.out f (J.out _ o)).r0;rotate_left 3;have x0:=(a4.out f (J.out _ o)).1;have x1:=(a4.out f (J.out _ o)).2.1;have x2:=(a4.out f (J.out _ o)).2.2;rotate_left 4;have x0:=(a5.out f (J.out _ o)).1;have x1:=(a5.out f (J.out _ o)).2.1;have x2:=(a5.out f (J.out _ o)).2.2;rotate_left
    ·clear o;simp only[Par.Gives];go_simp;exact(c9.out f).mono (fun e g3⟨he,hb⟩=>⟨he,aC S.out hb⟩)
    rotate_left 2
    all_goals(clear o;simp only[Par.Gives];go_simp;all_goals exact S.out)
   intro f o;simp only[ex,ym];have e3:=aa (J.out _ o);clear o;cases q
   ·go_upto_region 35 with fail;obtain⟨w8,rfl⟩:∃z,z=f:=⟨_,rfl⟩;refine Par.ag 8 [.pointer (some ⟨g,3,none⟩),.slice (some ⟨bd,od,none⟩) nd kd,.int .i64 (i:Int),.pointer (some ⟨bd,od+i*2,none⟩),.pointer (some ⟨bd,od+i*2+1,none⟩),.string rt,.int .i64 10,.string rt] (fun y=>Below w8.heap.size w8 y) ?A13 ?hm13 ?hB13 ?hA13 (aG w8) ?hop13 ?hT13
    case hm13=>kernel_rfl
    case hB13=>kernel_rfl
    case hA13 =>
     simp only[Par.am,Par.ai,Act.put,eh,ez,dz,eo,ew,ey,ed,ic,gy];rfl
    case hop13 =>
     simp only[en,zh,Par.ah,yo];and_intros<;>intro f o<;>have S:=aa o
     have V:=aB (X.out f (aC e3.out o));rotate_left;have z0:=aA (X.out f (aC e3.out o)) 3;rotate_left 3;have V:=(e7.out f (aC e3.out o)).1;rotate_left;have z0:=(e7.out f (aC e3.out o)).2.2;rotate_left 3
     all_goals(clear o;simp only[Par.Gives];go_simp;all_goals exact S.out)
    intro f o;simp only[ex,ym];have g4:=aa (U.out _ (aC e3.out o));clear o;go_wp2_with fail;go_ret2
    have h8:dk F d r B=true:=by
     rw[j0.out];exact yV (p:=fun a=>(l.all fun n=>bf F n r a)&&!bf F rt r a) (by rw[HF.2.2.2.2.2.1];exact f7) (by rw[m7.out,j4.out];rfl)
    have e:=tX (ts:=ts) (As:=As) f4.out i3.1 i9.out k9 (by rw[a6.1];exact h8) g6.1;rw[a6.1,a6.2.1]at e;exact⟨cH e,g4.out⟩
   go_wp2_with fail;go_roundg (k-j)
   case measure=>omega
   exact⟨j+1,by go_num,by omega,by omega,b4.out rfl,e3.out⟩
  obtain rfl:j=k:=(by omega);clear P M;go_wp2_with fail;go_roundg (nd-i)
  case measure=>omega
  refine⟨i+1,by go_num,by omega,by omega,fun x hx=>?_,i4.2⟩;by_cases e:x=i
  ·subst e;rw[a6.1,j0.out];exact CQ (p:=fun a=>(l.all fun n=>bf F n r a)&&!bf F rt r a) HF.2.2.2.2.2.1 i4.1
  exact g6.1 x (by omega)
 obtain rfl:i=nd:=(by omega);have e:=pC (ts:=ts) (As:=As) f4.out i3.1 i9.out (fun k hk=>g6.1 k (by rw[<-HF.2.2.2.1];exact hk));have HE:=aa (cH e);clear P M e f0;go_wp2_with fail;go_ret2;exact⟨HE.out,U.out _ g6.2⟩
