import Derived.Test.YthlccadnojnkaaaGreatZn44
set_option maxHeartbeats 8000000
set_option maxRecDepth 100000
namespace Go.Proofs.YthlccadnojnkaaaGreat
open Go.Proofs.Tryz
open Go Go.RowKit Go.Proofs Co Co.S Par
theorem FD{W:World}{b:Nat}{ts:List T}{tt:List RT}{ni:NI}{O:Nat->Nat}{t k:Nat}{y:RT}{As:List (List R1)}(h:ew W b ts tt ni O)(ht:t<ts.length)(H:tt[t]?=some y)(hk:k<y.A.length)(hf:qd ts[t])(hneg:gx ts[t].cols e0<0)(h0:0<ts[t].cols.length)(hnt:ts.length<=1000)(hna:y.A.length<=1000)(hlen:∀a∈y.A,a.2.length=ts[t].cols.length)(hbk:∀I,Below W.heap.size W I->∀(x:ByteArray) (u:T3),Calls prog 87 #[.pointer (some ⟨b,0,none⟩),.string x,.agg #[.int .i64 u.1,.int .i64 u.2.1,.string u.2.2]] I fun e f=>e=.returned (.tuple #[.int .i64 ((bg ts As x u).getD 0),.bool (bg ts As x u).isSome])/\Below I.heap.size I f):Calls prog 49 #[.pointer (some ⟨b,0,none⟩),.int .i64 (t:Int),.int .i64 (k:Int)] W fun e f=>e=.returned (.tuple #[.int .i64 (fg ts As ts[t] y.A[k].2 (bk y.A k)).1,.string (fg ts As ts[t] y.A[k].2 (bk y.A k)).2])/\Below W.heap.size W f:=by
 obtain⟨gs,cs,go,co,gr,cr,pc,kc,pd,kd,hX,j5⟩:=yK h ht H hk h0;have hT:=(hX W (zb _ _)).rt;obtain⟨bc,oc,rfl,hC⟩:=pX hT h0;obtain⟨B,h4⟩:=ag (bk y.A k);obtain⟨r,h5⟩:=ag (y.A[k].2);have l3:B.length=k:=(by rw[<-h4,eT (by omega)]);have j6:r.length=ts[t].cols.length:=(by rw[<-h5];exact hlen _ (z8 hk));obtain⟨gv,cv,g0⟩:=j5 k hk;rw[h5]at g0
 have h6:∀m,m<k->∃gv cv,∀w,Below W.heap.size W w->AI w gr m gv cv ts[t].cols.length (B.getD m []):=fun m hm=>by
  obtain⟨g1,c1,h1⟩:=j5 m (by omega);refine⟨g1,c1,?_⟩
  have e:B.getD m []=(y.A[m]'(by omega)).2:=by
   have l4:m<B.length:=(by omega);rw[zu,z6 l4];subst h4;rw[Option.getD_some,uR (by omega) l4]
  rw[e];exact h1
 obtain⟨na,i7⟩:=ag y.A.length;obtain⟨nt,i8⟩:=ag ts.length;obtain⟨F,l5⟩:=ag (ts[t]);rw[h4,h5];rw[l5]at hX g0 h6 hC hT hf hneg h0 j6 ⊢;rw[i7,i8]at hX;have p4:(k:Int)<(na:Int):=(by omega);have o6:(na:Int)<=1000:=(by omega);have p5:(t:Int)<(nt:Int):=(by omega);have o7:(nt:Int)<=1000:=(by omega);obtain⟨nc,j7⟩:=ag F.cols.length;obtain⟨nd,j8⟩:=ag F.deps.length;have o8:(nc:Int)<=1000:=(by have:=hf.nc;omega);have o9:(nd:Int)<=1000:=(by have:=hf.nd;omega);have j9:=(fun{i:Nat} (hi:i<F.deps.length)=>Fo hT hi);simp only[j7,j8]at hX g0 h6 hC j9 h0;obtain⟨nm,k0⟩:=ag F.nm;obtain⟨key,f4⟩:=ag F.key
 have l6:∀w,Below W.heap.size W w->w.cell? ⟨gs,t*4,none⟩=some (.string nm)/\w.cell? ⟨gs,t*4+1,none⟩=some (.slice (some ⟨bc,oc,none⟩) nc kc)/\w.cell? ⟨gs,t*4+2,none⟩=some (.string key)/\w.cell? ⟨gs,t*4+3,none⟩=some (.slice pd nd kd):=fun w hw=>by
  rw[<-k0,<-f4];exact⟨(hX w hw).s0,(hX w hw).s1,(hX w hw).s2,(hX w hw).s3⟩
 have k1:Hid (∀w,Below W.heap.size W w->∀x:ByteArray,Calls prog 78 #[.agg #[.string nm,.slice (some ⟨bc,oc,none⟩) nc kc,.string key,.slice pd nd kd],.string x] w fun e f=>e=.returned (.int .i64 (gx F.cols x))/\Below w.heap.size w f):=aa (fun w hw x=>by
  rw[<-k0,<-f4];exact bU (hX w hw).rt)
 have k2:Hid (∀(x u:T3) (w:World),Calls prog 86 #[.agg #[.int .i64 x.1,.int .i64 x.2.1,.string x.2.2],.agg #[.int .i64 u.1,.int .i64 u.2.1,.string u.2.2]] w fun e f=>e=.returned (.bool (decide (x=u)))/\Below w.heap.size w f):=aa (fun x u w=>by
  rw[<-DG];exact kX x.1 x.2.1 x.2.2 u.1 u.2.1 u.2.2 w)
 have n2:=aa hbk;have HX:=aa hX;have h7:=aa l6;have a8:=aa g0;have l7:=aa h6;have HC:=aa hC;have n3:Hid (∀i,i<nd->_):=aa (fun i(hi:i<nd)=>j9 (i:=i) hi);have HF:=aa (ab hf (ab hneg (ab j7 (ab j8 (ab f4 (ab l3 (ab j6 h0)))))));clear hX l6 g0 h6 hC hT hf hneg h0 j6 l3 h4 h5 j5 h ht H hk hnt hna hlen hbk i7 i8 l5 j7 j8 j9 k0 f4;go_enter func49,ntmps49;go_upto_region 1 with fail;refine nu 21 18 19 6 (W.heap.size) 77 (#[.string e0,.slice none 0 0,.string e0,.slice none 0 0]) (By) (fun y=>Below W.heap.size W y) (A0 [(.eq (.pointer (some ⟨b,0,none⟩))),(.eq (.pointer (some ⟨b,0,none⟩))),(.eq (.pointer (some ⟨b,0,none⟩))),(.eq (.slice (some ⟨gs,0,none⟩) nt cs)),(.eq (.int .i64 (t:Int))),(.eq (.pointer (some ⟨gs,t*4,none⟩))),(.eq (.agg #[.string nm,.slice (some ⟨bc,oc,none⟩) nc kc,.string key,.slice pd nd kd])),(.eq (.pointer (some ⟨b,0,none⟩))),(.eq (.pointer (some ⟨b,0,none⟩))),(.eq (.pointer (some ⟨b,1,none⟩))),(.eq (.slice (some ⟨go,0,none⟩) nt co)),(.eq (.int .i64 (t:Int))),(.eq (.pointer (some ⟨go,t,none⟩))),(.eq (.slice (some ⟨gr,0,none⟩) na cr)),(.eq (.int .i64 (k:Int))),(.eq (.pointer (some ⟨gr,k*2,none⟩))),(.eq (.pointer (some ⟨gr,k*2+1,none⟩))),(.eq (.slice (some ⟨gv,0,none⟩) nc cv)),(.any),(.any),(.eq (.slice (some ⟨gv,0,none⟩) nc cv))]) ?A1 ?hm1 ?hB1 (fun w f h ht=>h.trans ht.below) (Par.A0.mono _) (fun w h=>h.size) ?hA1 (aF W) (by decide) (by decide) (by decide) (by kernel_rfl) (by kernel_rfl) (by decide) ?hop1 ?hT1
 case hm1=>kernel_rfl
 case hB1=>kernel_rfl
 case hA1 =>
  intro vs;simp only[am,ai,Act.put,cy,db,bt,cp,dc,da,bu];rfl
 case hop1 =>
  have n4:(List.range 21).map (qo 18 19)=[.val,.val,.val,.val,.val,.val,.val,.val,.val,.val,.val,.val,.val,.val,.val,.val,.val,.val,.new,.put,.val]:=rfl;simp only[n4,ce,ze,fo,yu];refine⟨fun vs w N G=>?_,fun vs w N G=>?_,fun vs w N G=>?_,fun vs w N G=>?_,fun vs w N G=>?_,fun vs w N G=>?_,fun vs w N G=>?_,fun vs w N G=>?_,fun vs w N G=>?_,fun vs w N G=>?_,fun vs w N G=>?_,fun vs w N G=>?_,fun vs w N G=>?_,fun vs w N G=>?_,fun vs w N G=>?_,fun vs w N G=>?_,fun vs w N G=>?_,fun vs w N G=>?_,fun vs w N=>?_,fun vs w g N G a hz=>?_,fun vs w N G=>?_⟩
  ·clear G;simp only[af];go_simp;all_goals exact⟨rfl,zb _ _⟩
  ·have d0:=G 0 (by decide) (by decide) (by decide) (by kernel_rfl);replace d0:vs 0=.pointer (some ⟨b,0,none⟩):=d0;have V:=(HX.out w N).bl;clear G;simp only[af,d0];go_simp;all_goals exact⟨rfl,zb _ _⟩
  ·have d1:=G 1 (by decide) (by decide) (by decide) (by kernel_rfl);replace d1:vs 1=.pointer (some ⟨b,0,none⟩):=d1;have V:=(HX.out w N).bl;clear G;simp only[af,d1];go_simp;all_goals exact⟨rfl,zb _ _⟩
  ·have d2:=G 2 (by decide) (by decide) (by decide) (by kernel_rfl);replace d2:vs 2=.pointer (some ⟨b,0,none⟩):=d2;have q0:=(HX.out w N).b0;clear G;simp only[af,d2];go_simp;all_goals exact⟨rfl,zb _ _⟩
  ·clear G;simp only[af];go_simp;all_goals exact⟨rfl,zb _ _⟩
  ·have d3:=G 3 (by decide) (by decide) (by decide) (by kernel_rfl);replace d3:vs 3=(.slice (some ⟨gs,0,none⟩) nt cs):=d3;have d4:=G 4 (by decide) (by decide) (by decide) (by kernel_rfl);replace d4:vs 4=.int .i64 (t:Int):=d4;clear G;simp only[af,d3,d4];go_simp;all_goals exact⟨rfl,zb _ _⟩
  ·have d5:=G 5 (by decide) (by decide) (by decide) (by kernel_rfl);replace d5:vs 5=.pointer (some ⟨gs,t*4,none⟩):=d5;have q0:=(h7.out w N).1;have q1:=(h7.out w N).2.1;have q2:=(h7.out w N).2.2.1;have q3:=(h7.out w N).2.2.2;clear G;simp only[af,d5];go_simp;all_goals exact⟨rfl,zb _ _⟩
  ·clear G;simp only[af];go_simp;all_goals exact⟨rfl,zb _ _⟩
  ·have d7:=G 7 (by decide) (by decide) (by decide) (by kernel_rfl);replace d7:vs 7=.pointer (some ⟨b,0,none⟩):=d7;have V:=(HX.out w N).bl;clear G;simp only[af,d7];go_simp;all_goals exact⟨rfl,zb _ _⟩
  ·have d8:=G 8 (by decide) (by decide) (by decide) (by kernel_rfl);replace d8:vs 8=.pointer (some ⟨b,0,none⟩):=d8;have V:=(HX.out w N).bl;clear G;simp only[af,d8];go_simp;all_goals exact⟨rfl,zb _ _⟩
  ·have d9:=G 9 (by decide) (by decide) (by decide) (by kernel_rfl);replace d9:vs 9=.pointer (some ⟨b,1,none⟩):=d9;have q0:=(HX.out w N).b1;clear G;simp only[af,d9];go_simp;all_goals exact⟨rfl,zb _ _⟩
  ·clear G;simp only[af];go_simp;all_goals exact⟨rfl,zb _ _⟩
  ·have b6:=G 10 (by decide) (by decide) (by decide) (by kernel_rfl);replace b6:vs 10=(.slice (some ⟨go,0,none⟩) nt co):=b6;have b7:=G 11 (by decide) (by decide) (by decide) (by kernel_rfl);replace b7:vs 11=.int .i64 (t:Int):=b7;clear G;simp only[af,b6,b7];go_simp;all_goals exact⟨rfl,zb _ _⟩
  ·have b8:=G 12 (by decide) (by decide) (by decide) (by kernel_rfl);replace b8:vs 12=.pointer (some ⟨go,t,none⟩):=b8;have q0:=(HX.out w N).o0;clear G;simp only[af,b8];go_simp;all_goals exact⟨rfl,zb _ _⟩
  ·clear G;simp only[af];go_simp;all_goals exact⟨rfl,zb _ _⟩
  ·have b9:=G 13 (by decide) (by decide) (by decide) (by kernel_rfl);replace b9:vs 13=(.slice (some ⟨gr,0,none⟩) na cr):=b9;have c4:=G 14 (by decide) (by decide) (by decide) (by kernel_rfl);replace c4:vs 14=.int .i64 (k:Int):=c4;clear G;simp only[af,b9,c4];go_simp;all_goals exact⟨rfl,zb _ _⟩
  ·have c5:=G 15 (by decide) (by decide) (by decide) (by kernel_rfl);replace c5:vs 15=.pointer (some ⟨gr,k*2,none⟩):=c5;have V:=(a8.out w N).rl;clear G;simp only[af,c5];go_simp;all_goals exact⟨rfl,zb _ _⟩
  ·have c6:=G 16 (by decide) (by decide) (by decide) (by kernel_rfl);replace c6:vs 16=.pointer (some ⟨gr,k*2+1,none⟩):=c6;have q0:=(a8.out w N).r0;clear G;simp only[af,c6];go_simp;all_goals exact⟨rfl,zb _ _⟩
  ·clear N;simp only[af];go_simp;all_goals exact⟨rfl,rfl⟩
  ·have d6:=G 6 (by decide) (by decide) (by decide) (by kernel_rfl);replace d6:vs 6=.agg #[.string nm,.slice (some ⟨bc,oc,none⟩) nc kc,.string key,.slice pd nd kd]:=d6;have z0:=aA hz 0;have z1:=aA hz 1;have z2:=aA hz 2;have z3:=aA hz 3;have zf:=(fun i=>zo w g i _ _ hz);have V:=aC hz;have HZ:=aa hz;clear N G hz;simp only[af,a,d6];go_simp;exact⟨yJ w g _ _ _ _,mj HZ.out _ _ _ _⟩
  have c7:=G 17 (by decide) (by decide) (by decide) (by kernel_rfl);replace c7:vs 17=(.slice (some ⟨gv,0,none⟩) nc cv):=c7;clear G;simp only[af,c7];go_simp;all_goals exact⟨rfl,zb _ _⟩
 intro vs f g N hV a n5 hz;simp only[cw,yq];have d0:=hV 0 (by decide) (by decide) (by decide);replace d0:vs 0=.pointer (some ⟨b,0,none⟩):=d0;have d1:=hV 1 (by decide) (by decide) (by decide);replace d1:vs 1=.pointer (some ⟨b,0,none⟩):=d1;have d2:=hV 2 (by decide) (by decide) (by decide);replace d2:vs 2=.pointer (some ⟨b,0,none⟩):=d2;have d3:=hV 3 (by decide) (by decide) (by decide);replace d3:vs 3=(.slice (some ⟨gs,0,none⟩) nt cs):=d3;have d4:=hV 4 (by decide) (by decide) (by decide);replace d4:vs 4=.int .i64 (t:Int):=d4;have d5:=hV 5 (by decide) (by decide) (by decide);replace d5:vs 5=.pointer (some ⟨gs,t*4,none⟩):=d5;have d6:=hV 6 (by decide) (by decide) (by decide);replace d6:vs 6=.agg #[.string nm,.slice (some ⟨bc,oc,none⟩) nc kc,.string key,.slice pd nd kd]:=d6;have d7:=hV 7 (by decide) (by decide) (by decide);replace d7:vs 7=.pointer (some ⟨b,0,none⟩):=d7;have d8:=hV 8 (by decide) (by decide) (by decide);replace d8:vs 8=.pointer (some ⟨b,0,none⟩):=d8;have d9:=hV 9 (by decide) (by decide) (by decide);replace d9:vs 9=.pointer (some ⟨b,1,none⟩):=d9;have b6:=hV 10 (by decide) (by decide) (by decide);replace b6:vs 10=(.slice (some ⟨go,0,none⟩) nt co):=b6;have b7:=hV 11 (by decide) (by decide) (by decide);replace b7:vs 11=.int .i64 (t:Int):=b7;have b8:=hV 12 (by decide) (by decide) (by decide);replace b8:vs 12=.pointer (some ⟨go,t,none⟩):=b8;have b9:=hV 13 (by decide) (by decide) (by decide);replace b9:vs 13=(.slice (some ⟨gr,0,none⟩) na cr):=b9;have c4:=hV 14 (by decide) (by decide) (by decide);replace c4:vs 14=.int .i64 (k:Int):=c4;have c5:=hV 15 (by decide) (by decide) (by decide);replace c5:vs 15=.pointer (some ⟨gr,k*2,none⟩):=c5;have c6:=hV 16 (by decide) (by decide) (by decide);replace c6:vs 16=.pointer (some ⟨gr,k*2+1,none⟩):=c6;have c7:=hV 17 (by decide) (by decide) (by decide);replace c7:vs 17=(.slice (some ⟨gv,0,none⟩) nc cv):=c7;have h8:=hV 20 (by decide) (by decide) (by decide);replace h8:vs 20=(.slice (some ⟨gv,0,none⟩) nc cv):=h8;clear hV;rw[d6]at hz;simp only[a,d0,d1,d2,d3,d4,d5,d6,d7,d8,d9,b6,b7,b8,b9,c4,c5,c6,c7,h8];clear a d0 d1 d2 d3 d4 d5 d6 d7 d8 d9 b6 b7 b8 b9 c4 c5 c6 c7 h8;obtain⟨I,rfl⟩:∃x,x=f:=⟨_,rfl⟩;have hz:I.heap[g]?=some (.cells #[.string nm,.slice (some ⟨bc,oc,none⟩) nc kc,.string key,.slice pd nd kd] 77):=hz;have p6:=aa N;have X:Hid (∀y,Below I.heap.size I y->y.heap[g]?=some (.cells #[.string nm,.slice (some ⟨bc,oc,none⟩) nc kc,.string key,.slice pd nd kd] 77)):=aa (fun y H=>aE H hz);have U:Hid (∀y,Below I.heap.size I y->Below W.heap.size W y):=aa (fun y H=>aB N H);clear N n5 hz;go_wp2_with fail;go_loopg [10] (nc+1) (fun gh jv y=>∃(j:Nat),jv=.int .i64 (j:Int)/\j<=nc/\nc+1<=j+gh/\(∀i,i<j->eh F r i=false)/\Below I.heap.size I y)
 case atStart=>exact⟨0,rfl,zh _,by omega,fun i hi=>by omega,zb _ _⟩
 obtain⟨j,rfl,hj,hg,P,M⟩:=hrel;have HI:=aa (ab P M);have f0:=X.out wr M;have fl:=aC f0;by_cases L:j<nc
 ·have n6:(j:Int)<(nc:Int):=(by omega);have f1:=aA f0 1;have bl:=(HC.out wr (U.out wr M)).1;obtain⟨c0,c1,c2,c3⟩:=(HC.out wr (U.out wr M)).2 j L;obtain⟨c,b3⟩:=ag (mx F j);obtain⟨u,hu⟩:=ag (r.getD j z3);obtain⟨v0,v1,v2⟩:=(a8.out wr (U.out wr M)).v j L;have vl:=(a8.out wr (U.out wr M)).vl;rw[b3]at c0 c1 c2 c3;rw[hu]at v0 v1 v2;have l8:eh F r j=(c.mu&&decide (u.1=0)):=(by unfold eh;rw[b3,hu]);obtain⟨mu,k3⟩:=ag c.mu;rw[k3]at c2;have c8:=aa (ab l8 (ab b3 k3))
  have Q:eh F r j=false->∀i,i<j+1->eh F r i=false:=fun h i hi=>by
   by_cases e:i=j
   ·subst e;exact h
   exact HI.1 i (by omega)
  have b4:=aa Q;clear P M l8 b3 hu k3 Q f0 c0 c1 c3 v1 v2;cases mu
  ·have R:eh F r j=false:=(by rw[c8.1,c8.2.2];rfl);have Z:=aa R;clear R;go_wp2_with fail;go_roundg (nc-j)
   case measure=>omega
   exact⟨j+1,by go_num,by omega,by omega,b4.out Z.out,HI.2⟩
  by_cases Y:u.1=0
  ·have R:eh F r j=true:=(by rw[c8.1,c8.2.2,xd Y];rfl);rw[Y]at v0;have Z:=aa R;clear R Y;go_upto_region 6 with fail;clear v0 vl c2 bl fl f1;have E:Hid (∀y,Below wr.heap.size wr y->Below I.heap.size I y):=aa (fun y H=>aB HI.2 H);obtain⟨e5,a2⟩:=ag c.nm
   have e6:Hid (∀y,Below wr.heap.size wr y->bc<y.heap.size/\y.cell? ⟨bc,oc+j*4,none⟩=some (.string e5)):=aa (fun y H=>by
    rw[<-a2,<-c8.2.1];exact⟨(HC.out y (U.out y (E.out y H))).1,((HC.out y (U.out y (E.out y H))).2 j L).1⟩)
   have k4:=aa a2;clear a2;refine ae 8 [.pointer (some ⟨g,1,none⟩),.slice (some ⟨bc,oc,none⟩) nc kc,.int .i64 (j:Int),.pointer (some ⟨bc,oc+j*4,none⟩),.pointer (some ⟨bc,oc+j*4,none⟩),.string e5,.int .i64 7,.string e5] (fun y=>Below wr.heap.size wr y) ?A2 ?hm2 ?hB2 ?hA2 (aF wr) ?hop2 ?hT2
   case hm2=>kernel_rfl
   case hB2=>kernel_rfl
   case hA2 =>
    simp only[am,ai,Act.put,cy,db,bt,cp,dc,da,bu,eg,ed];rfl
   case hop2 =>
    simp only[ce,ze,ah,yu];and_intros<;>intro f o<;>have S:=aa o
    have V:=aC (X.out f (E.out f o));rotate_left;have z0:=aA (X.out f (E.out f o)) 1;rotate_left 3;have V:=(e6.out f o).1;rotate_left;have z0:=(e6.out f o).2;rotate_left 3
    all_goals(clear o;simp only[Par.Gives];go_simp;all_goals exact S.out)
   intro f o;simp only[cw,yq];have S:=aa (U.out _ (E.out _ o));clear o;go_wp2_with fail;go_ret2;have e:=pV (ts:=ts) (As:=As) (B:=B) (by rw[HF.2.2.1];exact L) Z.out HI.1;rw[c8.2.1,k4.out]at e;exact⟨cQ e,S.out⟩
  have R:eh F r j=false:=(by rw[c8.1,c8.2.2,yw Y];rfl);have h9:(u.1==0)=false:=beq_eq_false_iff_ne.2 Y;have Z:=aa R;clear R Y;go_wp2_with fail;go_roundg (nc-j)
  case measure=>omega
  exact⟨j+1,by go_num,by omega,by omega,b4.out Z.out,HI.2⟩
 obtain rfl:j=nc:=(by omega);have a3:∀i,i<F.cols.length->eh F r i=false:=(fun i hi=>HI.1 i (by rw[<-HF.2.2.1];exact hi));have f5:=aa a3;have f1:=aA f0 1;have f2:=aA f0 2;have f3:=aA f0 3;have f0:=aA f0 0;have k5:=k1.out wr (U.out wr M) key;obtain⟨q,hq⟩:=ag (gx F.cols key);rw[hq]at k5;have HQ:=aa hq;clear P M a3 L hj hg hq
 go_upto_if 71 with (go_at_call 78;(with_reducible refine k5.mono ?_);rintro e w2⟨rfl,l9⟩;have H2:=aa (aB HI.2 l9);clear k5 l9)
 clear f0 f1 f2 f3 fl;have p7:(k:Int)<=1000:=by omega
 go_cut []from 300 to 300 (fun wx=>jd F r B=false/\Below I.heap.size I wx)
 case first =>
  by_cases f6:key=e0
  ·have p8:¬ 0<=q:=by
    have h1:=HQ.out;have h2:=HF.2.1;rw[f6]at h1;omega
   have g2:=aa f6;clear f6;go_wp2_with fail;go_meet;exact⟨Ih (HF.2.2.2.2.1.trans g2.out),H2.out⟩
  obtain⟨qn,g3,i0⟩:=HF.1.key.resolve_left (fun h=>f6 (HF.2.2.2.2.1.symm.trans h));have g3:gx F.cols key=(qn:Int):=(by rw[<-g3,HF.2.2.2.2.1]);have i0:qn<j:=(by rw[<-HF.2.2.1];exact i0);obtain rfl:q=(qn:Int):=HQ.out.symm.trans g3;have p9:0<=(qn:Int):=(by omega);have q4:(qn:Int)<(j:Int):=(by omega);have g2:=aa (ab f6 g3);clear f6 g3;go_wp2_with fail;go_loopg [12] (k+1) (fun gh mv y=>∃(m:Nat),mv=.int .i64 (m:Int)/\m<=k/\k+1<=m+gh/\(∀i,i<m->ar F key r (B.getD i [])=false)/\Below I.heap.size I y)
  case atStart=>exact⟨0,rfl,zh _,by omega,fun i hi=>by omega,H2.out⟩
  obtain⟨m,rfl,hm,hg,P,M⟩:=hrel;have a0:=aa (ab P M);by_cases L:m<k
  ·have n7:(m:Int)<(k:Int):=(by omega);have q5:(m:Int)<(na:Int):=(by omega);obtain⟨gm,cm,f7⟩:=l7.out m L;obtain⟨x,hx⟩:=ag ((B.getD m []).getD qn z3);obtain⟨u,hu⟩:=ag (r.getD qn z3);obtain⟨lk,f8⟩:=ag (ar F key r (B.getD m []));have m0:decide (x=u)=lk:=(by rw[<-hx,<-hu,<-f8];exact rR g2.2);have e1:Hid (∀w,Calls prog 86 #[.agg #[.int .i64 x.1,.int .i64 x.2.1,.string x.2.2],.agg #[.int .i64 u.1,.int .i64 u.2.1,.string u.2.2]] w fun e f=>e=.returned (.bool lk)/\Below w.heap.size w f):=aa (fun w=>by rw[<-m0];exact k2.out x u w);have E:Hid (∀y,Below wr.heap.size wr y->Below I.heap.size I y):=aa (fun y H=>aB a0.2 H);have a9:Hid (∀y,Below wr.heap.size wr y->AI y gr m gm cm j (B.getD m [])):=aa (fun y H=>f7 y (U.out y (E.out y H)));have a4:Hid (∀y,Below wr.heap.size wr y->y.cell? ⟨gm,qn*3,none⟩=some (.int .i64 x.1)/\y.cell? ⟨gm,qn*3+1,none⟩=some (.int .i64 x.2.1)/\y.cell? ⟨gm,qn*3+2,none⟩=some (.string x.2.2)):=aa (fun y H=>by rw[<-hx];exact(a9.out y H).v qn i0);have a5:Hid (∀y,Below wr.heap.size wr y->y.cell? ⟨gv,qn*3,none⟩=some (.int .i64 u.1)/\y.cell? ⟨gv,qn*3+1,none⟩=some (.int .i64 u.2.1)/\y.cell? ⟨gv,qn*3+2,none⟩=some (.string u.2.2)):=aa (fun y H=>by rw[<-hu];exact(a8.out y (U.out y (E.out y H))).v qn i0);have i1:Hid (∀y,Below wr.heap.size wr y->_):=aa (fun y H=>HX.out y (U.out y (E.out y H)));have m1:=aa f8;clear P M f7 hx hu f8 m0;go_upto_region 12 with fail;refine ae 19 [.pointer (some ⟨b,0,none⟩),.pointer (some ⟨b,0,none⟩),.pointer (some ⟨b,1,none⟩),.slice (some ⟨go,0,none⟩) nt co,.int .i64 (t:Int),.pointer (some ⟨go,t,none⟩),.slice (some ⟨gr,0,none⟩) na cr,.int .i64 (m:Int),.pointer (some ⟨gr,m*2,none⟩),.pointer (some ⟨gr,m*2+1,none⟩),.slice (some ⟨gm,0,none⟩) j cm,.int .i64 (qn:Int),.pointer (some ⟨gm,qn*3,none⟩),.agg #[.int .i64 x.1,.int .i64 x.2.1,.string x.2.2],.slice (some ⟨gv,0,none⟩) j cv,.int .i64 (qn:Int),.pointer (some ⟨gv,qn*3,none⟩),.agg #[.int .i64 u.1,.int .i64 u.2.1,.string u.2.2],.bool lk] (fun y=>Below wr.heap.size wr y) ?A3 ?hm3 ?hB3 ?hA3 (aF wr) ?hop3 ?hT3
   case hm3=>kernel_rfl
   case hB3=>kernel_rfl
   case hA3 =>
    simp only[am,ai,Act.put,cy,db,bt,cp,dc,da,bu,eg,ed];rfl
   case hop3 =>
    simp only[ce,ze,ah,yu];and_intros<;>intro f o<;>have S:=aa o
    rotate_left;have V:=(i1.out f o).bl;rotate_left;have V:=(i1.out f o).bl;rotate_left;have x0:=(i1.out f o).b1;rotate_left 3;have x0:=(i1.out f o).o0;rotate_left 3;have V:=(a9.out f o).rl;rotate_left;have x0:=(a9.out f o).r0;rotate_left 3;have x0:=(a4.out f o).1;have x1:=(a4.out f o).2.1;have x2:=(a4.out f o).2.2;rotate_left 4;have x0:=(a5.out f o).1;have x1:=(a5.out f o).2.1;have x2:=(a5.out f o).2.2;rotate_left
    ·clear o;simp only[Par.Gives];go_simp;exact(e1.out f).mono (fun e g4⟨he,hb⟩=>⟨he,aB S.out hb⟩)
    all_goals(clear o;simp only[Par.Gives];go_simp;all_goals exact S.out)
   intro f o;simp only[cw,yq];have HA:=aa (E.out _ o);clear o;cases lk
   ·go_wp2_with fail;go_roundg (k-m)
    case measure=>omega
    refine⟨m+1,by go_num,by omega,by omega,fun i hi=>?_,HA.out⟩;by_cases e:i=m
    ·subst e;exact m1.out
    exact a0.1 i (by omega)
   go_upto_region 13 with fail;obtain⟨w4,rfl⟩:∃x,x=f:=⟨_,rfl⟩;refine ae 4 [.pointer (some ⟨g,2,none⟩),.string key,.int .i64 8,.string key] (fun y=>Below w4.heap.size w4 y) ?A4 ?hm4 ?hB4 ?hA4 (aF w4) ?hop4 ?hT4
   case hm4=>kernel_rfl
   case hB4=>kernel_rfl
   case hA4 =>
    simp only[am,ai,Act.put,cy,db,bt,cp,dc,da,bu,eg,ed];rfl
   case hop4 =>
    simp only[ce,ze,ah,yu];and_intros<;>intro f o<;>have S:=aa o
    have V:=aC (X.out f (aB HA.out o));rotate_left;have z0:=aA (X.out f (aB HA.out o)) 2;rotate_left 3
    all_goals(clear o;simp only[Par.Gives];go_simp;all_goals exact S.out)
   intro f o;simp only[cw,yq];have g5:=aa (U.out _ (aB HA.out o));clear o;go_wp2_with fail;go_ret2
   have i2:jd F r B=true:=by
    unfold jd;rw[HF.2.2.2.2.1,xd g2.1,vt];exact Eg (p:=fun a=>ar F key r a) (by rw[HF.2.2.2.2.2.1];exact L) m1.out
   have e:=uO (ts:=ts) (As:=As) (B:=B) f5.out i2;rw[HF.2.2.2.2.1]at e;exact⟨cQ e,g5.out⟩
  obtain rfl:m=k:=(by omega);clear P M;go_wp2_with fail;go_meet;refine⟨?_,a0.2⟩;unfold jd;rw[HF.2.2.2.2.1,xd g2.1,vt];exact DX (p:=fun a=>ar F key r a) HF.2.2.2.2.2.1 a0.1
 obtain⟨i2,m2⟩:=hcut;have i3:=aa (ab i2 m2);clear i2 m2;go_wp2_with fail;go_loopg [13] (j+1) (fun gh jv y=>∃(m:Nat),jv=.int .i64 (m:Int)/\m<=j/\j+1<=m+gh/\(∀i,i<m->iw ts As F r i=false)/\Below I.heap.size I y)
 case atStart=>exact⟨0,rfl,zh _,by omega,fun i hi=>by omega,i3.2⟩
 obtain⟨m,rfl,hm,hg,P,M⟩:=hrel;have a0:=aa (ab P M);by_cases L:m<j
 ·have n7:(m:Int)<(j:Int):=(by omega);have f0:=X.out wr M;have fl:=aC f0;have f1:=aA f0 1;have bl:=(HC.out wr (U.out wr M)).1;obtain⟨c0,c1,c2,c3⟩:=(HC.out wr (U.out wr M)).2 m L;obtain⟨c,b3⟩:=ag (mx F m);obtain⟨u,hu⟩:=ag (r.getD m z3);obtain⟨v0,v1,v2⟩:=(a8.out wr (U.out wr M)).v m L;have vl:=(a8.out wr (U.out wr M)).vl;rw[b3]at c3;rw[hu]at v0;have k6:iw ts As F r m=(decide (c.tgt≠e0)&&(decide (u.1≠0)&&(bg ts As c.tgt u).isNone)):=(by unfold iw;rw[b3,hu]);obtain⟨tg,k7⟩:=ag c.tgt;rw[k7]at c3 k6;have e7:=aa (ab k6 (ab b3 (ab hu k7)))
  have Q:iw ts As F r m=false->∀i,i<m+1->iw ts As F r i=false:=fun h i hi=>by
   by_cases e:i=m
   ·subst e;exact h
   exact a0.1 i (by omega)
  have b4:=aa Q;clear P M k6 b3 hu k7 Q f0 c0 c1 c2 v1 v2;by_cases g6:tg=e0
  ·subst g6;have R:iw ts As F r m=false:=(by rw[e7.1];rfl);have Z:=aa R;clear R;go_wp2_with fail;go_roundg (j-m)
   case measure=>omega
   exact⟨m+1,by go_num,by omega,by omega,b4.out Z.out,a0.2⟩
  have n8:=nZ g6;by_cases Y:u.1=0
  ·have R:iw ts As F r m=false:=(by rw[e7.1,yw (fun h:u.1≠0=>h Y),Bool.false_and,Bool.and_false]);rw[Y]at v0;have Z:=aa R;clear R Y g6;go_wp2_with fail;go_roundg (j-m)
   case measure=>omega
   exact⟨m+1,by go_num,by omega,by omega,b4.out Z.out,a0.2⟩
  have h9:(u.1==0)=false:=beq_eq_false_iff_ne.2 Y;have R:iw ts As F r m=(bg ts As tg u).isNone:=(by rw[e7.1,xd g6,xd Y,vt,vt]);have Z:=aa R;have E:Hid (∀y,Below wr.heap.size wr y->Below I.heap.size I y):=aa (fun y H=>aB a0.2 H);obtain⟨e5,a2⟩:=ag c.nm
  have e6:Hid (∀y,Below wr.heap.size wr y->bc<y.heap.size/\y.cell? ⟨bc,oc+m*4,none⟩=some (.string e5)/\y.cell? ⟨bc,oc+m*4+3,none⟩=some (.string tg)):=aa (fun y H=>by
   rw[<-a2,<-e7.2.2.2,<-e7.2.1];exact⟨(HC.out y (U.out y (E.out y H))).1,((HC.out y (U.out y (E.out y H))).2 m L).1,((HC.out y (U.out y (E.out y H))).2 m L).2.2.2⟩)
  have k8:Hid (∀y,Below wr.heap.size wr y->y.cell? ⟨gv,m*3,none⟩=some (.int .i64 u.1)/\y.cell? ⟨gv,m*3+1,none⟩=some (.int .i64 u.2.1)/\y.cell? ⟨gv,m*3+2,none⟩=some (.string u.2.2)):=aa (fun y H=>by
   rw[<-e7.2.2.1];exact(a8.out y (U.out y (E.out y H))).v m L)
  have k4:=aa a2;clear R Y g6 a2;go_upto_region 18 with fail;clear v0 vl c3 bl fl f1 n8 h9;obtain⟨s,hs⟩:=ag ((bg ts As tg u).isSome);obtain⟨av,m3⟩:=ag ((bg ts As tg u).getD 0)
  have m4:Hid (∀y,Below wr.heap.size wr y->Calls prog 87 #[.pointer (some ⟨b,0,none⟩),.string tg,.agg #[.int .i64 u.1,.int .i64 u.2.1,.string u.2.2]] y fun e f=>e=.returned (.tuple #[.int .i64 av,.bool s])/\Below y.heap.size y f):=aa (fun y H=>by
   rw[<-hs,<-m3];exact n2.out y (U.out _ (E.out _ H)) tg u)
  have HS:=aa hs;clear hs m3;refine ae 17 [.pointer (some ⟨b,0,none⟩),.pointer (some ⟨g,1,none⟩),.slice (some ⟨bc,oc,none⟩) j kc,.int .i64 (m:Int),.pointer (some ⟨bc,oc+m*4,none⟩),.pointer (some ⟨bc,oc+m*4+3,none⟩),.string tg,.slice (some ⟨gv,0,none⟩) j cv,.int .i64 (m:Int),.pointer (some ⟨gv,m*3,none⟩),.agg #[.int .i64 u.1,.int .i64 u.2.1,.string u.2.2],.tuple #[.int .i64 av,.bool s],.tuple #[.int .i64 av,.bool s],.int .i64 av,.bool s,.int .i64 av,.bool s] (fun y=>Below wr.heap.size wr y) ?A5 ?hm5 ?hB5 ?hA5 (aF wr) ?hop5 ?hT5
  case hm5=>kernel_rfl
  case hB5=>kernel_rfl
  case hA5 =>
   simp only[am,ai,Act.put,cy,db,bt,cp,dc,da,bu,eg,ed];rfl
  case hop5 =>
   simp only[ce,ze,ah,yu];and_intros<;>intro f o<;>have S:=aa o
   rotate_left;have V:=aC (X.out f (E.out f o));rotate_left;have z0:=aA (X.out f (E.out f o)) 1;rotate_left 3;have V:=(e6.out f o).1;rotate_left;have z0:=(e6.out f o).2.2;rotate_left 4;have x0:=(k8.out f o).1;have x1:=(k8.out f o).2.1;have x2:=(k8.out f o).2.2;rotate_left
   ·clear o;simp only[Par.Gives];go_simp;exact(m4.out f S.out).mono (fun e g4⟨he,hb⟩=>⟨he,aB S.out hb⟩)
   rotate_left 5
   all_goals(clear o;simp only[Par.Gives];go_simp;all_goals exact S.out)
  intro f o;simp only[cw,yq];have HA:=aa o;clear o;cases s
  ·go_upto_region 20 with fail;obtain⟨w4,rfl⟩:∃x,x=f:=⟨_,rfl⟩;refine ae 8 [.pointer (some ⟨g,1,none⟩),.slice (some ⟨bc,oc,none⟩) j kc,.int .i64 (m:Int),.pointer (some ⟨bc,oc+m*4,none⟩),.pointer (some ⟨bc,oc+m*4,none⟩),.string e5,.int .i64 9,.string e5] (fun y=>Below w4.heap.size w4 y) ?A6 ?hm6 ?hB6 ?hA6 (aF w4) ?hop6 ?hT6
   case hm6=>kernel_rfl
   case hB6=>kernel_rfl
   case hA6 =>
    simp only[am,ai,Act.put,cy,db,bt,cp,dc,da,bu,eg,ed];rfl
   case hop6 =>
    simp only[ce,ze,ah,yu];and_intros<;>intro f o<;>have S:=aa o
    have V:=aC (X.out f (E.out f (aB HA.out o)));rotate_left;have z0:=aA (X.out f (E.out f (aB HA.out o))) 1;rotate_left 3;have V:=(e6.out f (aB HA.out o)).1;rotate_left;have z0:=(e6.out f (aB HA.out o)).2.1;rotate_left 3
    all_goals(clear o;simp only[Par.Gives];go_simp;all_goals exact S.out)
   intro f o;simp only[cw,yq];have g5:=aa (U.out _ (E.out _ (aB HA.out o)));clear o;go_wp2_with fail;go_ret2;have hq:iw ts As F r m=true:=by rw[Z.out];have h:=HS.out;cases hh:bg ts As tg u <;> rw[hh]at h <;> first|rfl|cases h
   have e:=uP (ts:=ts) (As:=As) (B:=B) f5.out i3.1 (by rw[HF.2.2.1];exact L) hq a0.1;rw[e7.2.1,k4.out]at e;exact⟨cQ e,g5.out⟩
  go_wp2_with fail;go_roundg (j-m)
  case measure=>omega
  exact⟨m+1,by go_num,by omega,by omega,b4.out (by rw[Z.out];have h:=HS.out;cases hh:bg ts As tg u <;> rw[hh]at h <;> first|rfl|cases h),E.out _ HA.out⟩
 obtain rfl:m=j:=(by omega);have a3:∀i,i<F.cols.length->iw ts As F r i=false:=(fun i hi=>a0.1 i (by rw[<-HF.2.2.1];exact hi));have i9:=aa a3;clear P M a3 L hm hg;go_wp2_with fail;go_loopg [16] (nd+1) (fun gh jv y=>∃(i:Nat),jv=.int .i64 (i:Int)/\i<=nd/\nd+1<=i+gh/\(∀k,k<i->dh F (qt F k) r B=false)/\Below I.heap.size I y)
 case atStart=>exact⟨0,rfl,zh _,by omega,fun i hi=>by omega,a0.2⟩
 obtain⟨i,rfl,hi,hg,P,M⟩:=hrel;have g7:=aa (ab P M);have f0:=X.out wr M;have f3:=aA f0 3;have fl:=aC f0;by_cases L:i<nd
 ·have k9:i<F.deps.length:=(by rw[HF.2.2.2.1];exact L);have q6:(i:Int)<(nd:Int):=(by omega);obtain⟨bd,od,pl,cl,rfl,hD,m5⟩:=n3.out i L;have e2:=HF.1.deps _ (by rw[yI k9];exact z8 k9:qt F i∈F.deps);obtain⟨d,G⟩:=ag (qt F i);rw[G]at hD e2;obtain⟨rc,l0,g8⟩:=e2.r;rw[HF.2.2.1]at g8;have n9:=e2.n;have p0:(rc:Int)<(m:Int):=(by omega);obtain⟨rt,f9⟩:=ag d.right;obtain⟨l,hl⟩:=ag d.left
  have l1:∀j,j<l.length->∃bl ol,pl=some ⟨bl,ol,none⟩/\∀y,Below W.heap.size W y->bl<y.heap.size/\y.cell? ⟨bl,ol+j,none⟩=some (.string (l.getD j e0)):=by
   rw[<-hl,<-G];exact m5
  obtain⟨nl,e3⟩:=ag l.length;rw[f9,hl,e3]at hD;rw[e3]at l1;rw[hl,e3]at n9;have p1:(nl:Int)<=1000:=(by omega);have E:Hid (∀y,Below wr.heap.size wr y->Below I.heap.size I y):=aa (fun y H=>aB g7.2 H);have e8:Hid (∀y,Below I.heap.size I y->bd<y.heap.size/\y.cell? ⟨bd,od+i*2,none⟩=some (.slice pl nl cl)/\y.cell? ⟨bd,od+i*2+1,none⟩=some (.string rt)):=aa (fun y H=>hD y (U.out y H));have o1:=aa l1
  have o2:Hid (∀y,Below wr.heap.size wr y->Calls prog 78 #[.agg #[.string nm,.slice (some ⟨bc,oc,none⟩) m kc,.string key,.slice (some ⟨bd,od,none⟩) nd kd],.string rt] y fun e f=>e=.returned (.int .i64 (rc:Int))/\Below y.heap.size y f):=aa (fun y H=>by
   have:=k1.out y (U.out y (E.out y H)) rt
   rw[<-f9,l0]at this;rw[<-f9];exact this)
  have m6:∀q,dh F d r B=q->B.any (fun a=>(l.all fun x=>ar F x r a)&&!ar F rt r a)=q:=(fun q h=>by rw[<-h,<-f9,<-hl];rfl);have j0:Hid (dh F d r B=B.any (fun a=>(l.all fun x=>ar F x r a)&&!ar F rt r a)):=aa (m6 _ rfl).symm;have a6:=aa (ab G (ab f9 (ab hl (ab e3 (ab l0 e2)))));clear P M f0 hD m5 l1 e2 G l0 f9 hl e3 m6;go_upto_region 24 with fail;clear f3 fl;refine ae 9 [.agg #[.string nm,.slice (some ⟨bc,oc,none⟩) m kc,.string key,.slice (some ⟨bd,od,none⟩) nd kd],.pointer (some ⟨g,3,none⟩),.slice (some ⟨bd,od,none⟩) nd kd,.int .i64 (i:Int),.pointer (some ⟨bd,od+i*2,none⟩),.pointer (some ⟨bd,od+i*2+1,none⟩),.string rt,.int .i64 (rc:Int),.int .i64 (rc:Int)] (fun y=>Below wr.heap.size wr y) ?A7 ?hm7 ?hB7 ?hA7 (aF wr) ?hop7 ?hT7
  case hm7=>kernel_rfl
  case hB7=>kernel_rfl
  case hA7 =>
   simp only[am,ai,Act.put,cy,db,bt,cp,dc,da,bu,eg,ed];rfl
  case hop7 =>
   simp only[ce,ze,ah,yu];and_intros<;>intro f o<;>have S:=aa o
   have z0:=aA (X.out f (E.out f o)) 0;have z1:=aA (X.out f (E.out f o)) 1;have z2:=aA (X.out f (E.out f o)) 2;have z3:=aA (X.out f (E.out f o)) 3;have V:=aC (X.out f (E.out f o));rotate_left;have V:=aC (X.out f (E.out f o));rotate_left;have z0:=aA (X.out f (E.out f o)) 3;rotate_left 3;have V:=(e8.out f (E.out f o)).1;rotate_left;have z0:=(e8.out f (E.out f o)).2.2;rotate_left
   ·clear o;simp only[Par.Gives];go_simp;exact(o2.out f S.out).mono (fun e g4⟨he,hb⟩=>⟨he,aB S.out hb⟩)
   rotate_left
   all_goals(clear o;simp only[Par.Gives];go_simp;all_goals exact S.out)
  intro f o;simp only[cw,yq];have HA:=aa (E.out _ o);clear o;go_wp2_with fail;go_loopg [18] (k+1) (fun gh jv y=>∃(j:Nat),jv=.int .i64 (j:Int)/\j<=k/\k+1<=j+gh/\(∀x,x<j->((l.all fun n=>ar F n r (B.getD x []))&&!ar F rt r (B.getD x []))=false)/\Below I.heap.size I y)
  case atStart=>exact⟨0,rfl,zh _,by omega,fun i hi=>by omega,HA.out⟩
  obtain⟨j,rfl,hj,q7,P,M⟩:=hrel;have i4:=aa (ab P M);by_cases f8:j<k
  ·have n6:(j:Int)<(k:Int):=(by omega);have q8:(j:Int)<(na:Int):=(by omega);obtain⟨gm,cm,f7⟩:=l7.out j f8;obtain⟨a,ha⟩:=ag (B.getD j []);rw[ha]at f7;have a9:Hid (∀y,Below I.heap.size I y->AI y gr j gm cm m a):=aa (fun y H=>f7 y (U.out y H));have m7:=aa ha;clear P M f7 ha;go_wp2_with fail;go_loopg [19,20] (nl+1) (fun gh lv xv y=>∃(x:Nat),xv=.int .i64 (x:Int)/\x<=nl/\nl+1<=x+gh/\lv=.bool (ro F l x r a)/\Below I.heap.size I y)
   case atStart=>exact⟨0,rfl,zh _,by omega,by rw[GG],i4.2⟩
   obtain⟨x,rfl,hx,q9,rfl,M⟩:=hrel;have f0:=X.out wr M;have f3:=aA f0 3;have fl:=aC f0;obtain⟨dl,d0,d1⟩:=e8.out wr M;obtain⟨lb,g9⟩:=ag (ro F l x r a);rw[g9];by_cases l2:x<nl
   ·have r1:(x:Int)<(nl:Int):=(by omega);obtain⟨bw,ow,rfl,hw⟩:=o1.out x l2
    have j1:l.getD x e0∈l:=by
     have:x<l.length:=(by rw[a6.2.2.2.1];exact l2);rw[zu,z6 this];exact z8 this
    obtain⟨lc,i5,h3⟩:=a6.2.2.2.2.2.l _ (by rw[a6.2.2.1];exact j1);rw[HF.2.2.1]at h3;have a7:=Jq (t:=F) (r:=r) (a:=a) (l:=l) (k:=x) (by rw[a6.2.2.2.1];exact l2);rw[g9]at a7;have b2:=rR (r:=r) (a:=a) i5;obtain⟨wd,m8⟩:=ag (l.getD x e0);rw[m8]at hw i5 a7 b2;obtain⟨q,hq⟩:=ag (ar F wd r a);rw[hq]at a7 b2;obtain⟨v,hv⟩:=ag (a.getD lc z3);obtain⟨u,hu⟩:=ag (r.getD lc z3);rw[hv,hu]at b2;have p2:(lc:Int)<(m:Int):=(by omega);obtain⟨w5,m9⟩:∃z,z=wr:=⟨_,rfl⟩;have e9:=M;rw[<-m9]at e9;have a1:Hid (∀y,Below w5.heap.size w5 y->Below I.heap.size I y):=aa (fun y H=>aB e9 H);have o3:Hid (∀y,Below w5.heap.size w5 y->bw<y.heap.size/\y.cell? ⟨bw,ow+x,none⟩=some (.string wd)):=aa (fun y H=>hw y (U.out y (a1.out y H)))
    have o4:Hid (∀y,Below w5.heap.size w5 y->Calls prog 78 #[.agg #[.string nm,.slice (some ⟨bc,oc,none⟩) m kc,.string key,.slice (some ⟨bd,od,none⟩) nd kd],.string wd] y fun e f=>e=.returned (.int .i64 (lc:Int))/\Below y.heap.size y f):=aa (fun y H=>by
     have:=k1.out y (U.out y (a1.out y H)) wd
     rw[i5]at this;exact this)
    have e1:Hid (∀w,Calls prog 86 #[.agg #[.int .i64 v.1,.int .i64 v.2.1,.string v.2.2],.agg #[.int .i64 u.1,.int .i64 u.2.1,.string u.2.2]] w fun e f=>e=.returned (.bool q)/\Below w.heap.size w f):=aa (fun w=>by rw[<-b2];exact k2.out v u w);have a4:Hid (∀y,Below I.heap.size I y->y.cell? ⟨gm,lc*3,none⟩=some (.int .i64 v.1)/\y.cell? ⟨gm,lc*3+1,none⟩=some (.int .i64 v.2.1)/\y.cell? ⟨gm,lc*3+2,none⟩=some (.string v.2.2)):=aa (fun y H=>by rw[<-hv];exact(a9.out y H).v lc h3);have a5:Hid (∀y,Below I.heap.size I y->y.cell? ⟨gv,lc*3,none⟩=some (.int .i64 u.1)/\y.cell? ⟨gv,lc*3+1,none⟩=some (.int .i64 u.2.1)/\y.cell? ⟨gv,lc*3+2,none⟩=some (.string u.2.2)):=aa (fun y H=>by rw[<-hu];exact(a8.out y (U.out y H)).v lc h3);have n0:=aa a7;have r2:=aa M;clear M f0 hw j1 i5 a7 b2 m8 hq hv hu e9 d1 g9;subst m9;go_upto_region 32 with fail;clear f3 fl dl d0;refine ae 12 [.agg #[.string nm,.slice (some ⟨bc,oc,none⟩) m kc,.string key,.slice (some ⟨bd,od,none⟩) nd kd],.pointer (some ⟨g,3,none⟩),.slice (some ⟨bd,od,none⟩) nd kd,.int .i64 (i:Int),.pointer (some ⟨bd,od+i*2,none⟩),.pointer (some ⟨bd,od+i*2,none⟩),.slice (some ⟨bw,ow,none⟩) nl cl,.int .i64 (x:Int),.pointer (some ⟨bw,ow+x,none⟩),.string wd,.int .i64 (lc:Int),.int .i64 (lc:Int)] (fun y=>Below w5.heap.size w5 y) ?A8 ?hm8 ?hB8 ?hA8 (aF w5) ?hop8 ?hT8
    case hm8=>kernel_rfl
    case hB8=>kernel_rfl
    case hA8 =>
     simp only[am,ai,Act.put,cy,db,bt,cp,dc,da,bu,eg,ed];rfl
    case hop8 =>
     simp only[ce,ze,ah,yu];and_intros<;>intro f o<;>have S:=aa o
     have z0:=aA (X.out f (a1.out f o)) 0;have z1:=aA (X.out f (a1.out f o)) 1;have z2:=aA (X.out f (a1.out f o)) 2;have z3:=aA (X.out f (a1.out f o)) 3;have V:=aC (X.out f (a1.out f o));rotate_left;have V:=aC (X.out f (a1.out f o));rotate_left;have z0:=aA (X.out f (a1.out f o)) 3;rotate_left 3;have V:=(e8.out f (a1.out f o)).1;rotate_left;have z0:=(e8.out f (a1.out f o)).2.1;rotate_left 3;have z0:=(o3.out f o).2;rotate_left
     ·clear o;simp only[Par.Gives];go_simp;exact(o4.out f S.out).mono (fun e g4⟨he,hb⟩=>⟨he,aB S.out hb⟩)
     rotate_left
     all_goals(clear o;simp only[Par.Gives];go_simp;all_goals exact S.out)
    intro f o;simp only[cw,yq];have o5:=aa (a1.out _ o);clear o;obtain⟨w6,rfl⟩:∃z,z=f:=⟨_,rfl⟩;have J:Hid (∀y,Below w6.heap.size w6 y->Below I.heap.size I y):=aa (fun y H=>aB o5.out H);have b5:Hid (∀y,Below w6.heap.size w6 y->_):=aa (fun y H=>HX.out y (U.out y (J.out y H)));cases lb
    ·go_upto_region 33 with fail;refine ae 22 [.bool false,.bool false,undef,undef,undef,undef,undef,undef,undef,undef,undef,undef,undef,undef,undef,undef,undef,undef,undef,undef,undef,.bool false] (fun y=>Below w6.heap.size w6 y) ?A9 ?hm9 ?hB9 ?hA9 (aF w6) ?hop9 ?hT9
     case hm9=>kernel_rfl
     case hB9=>kernel_rfl
     case hA9 =>
      simp only[am,ai,Act.put,cy,db,bt,cp,dc,da,bu,eg,ed];rfl
     case hop9 =>
      simp only[ce,ze,ah,yu];and_intros<;>intro f o<;>have S:=aa o
      rotate_left 22
      all_goals(clear o;simp only[Par.Gives];go_simp;all_goals exact S.out)
     intro f o;simp only[cw,ym];have i6:=aa (J.out _ o);clear o;go_wp2_with fail;go_roundg (nl-x)
     case measure=>omega
     exact⟨x+1,by go_num,by omega,by omega,by rw[n0.out,Bool.false_and],i6.out⟩
    go_upto_region 33 with fail;refine ae 22 [.bool true,.bool true,.pointer (some ⟨b,0,none⟩),.pointer (some ⟨b,0,none⟩),.pointer (some ⟨b,1,none⟩),.slice (some ⟨go,0,none⟩) nt co,.int .i64 (t:Int),.pointer (some ⟨go,t,none⟩),.slice (some ⟨gr,0,none⟩) na cr,.int .i64 (j:Int),.pointer (some ⟨gr,j*2,none⟩),.pointer (some ⟨gr,j*2+1,none⟩),.slice (some ⟨gm,0,none⟩) m cm,.int .i64 (lc:Int),.pointer (some ⟨gm,lc*3,none⟩),.agg #[.int .i64 v.1,.int .i64 v.2.1,.string v.2.2],.slice (some ⟨gv,0,none⟩) m cv,.int .i64 (lc:Int),.pointer (some ⟨gv,lc*3,none⟩),.agg #[.int .i64 u.1,.int .i64 u.2.1,.string u.2.2],.bool q,.bool q] (fun y=>Below w6.heap.size w6 y) ?A10 ?hm10 ?hB10 ?hA10 (aF w6) ?hop10 ?hT10
    case hm10=>kernel_rfl
    case hB10=>kernel_rfl
    case hA10 =>
     simp only[am,ai,Act.put,cy,db,bt,cp,dc,da,bu,eg,ed];rfl
    case hop10 =>
     simp only[ce,ze,ah,yu];and_intros<;>intro f o<;>have S:=aa o
     rotate_left 3;have V:=(b5.out f o).bl;rotate_left;have V:=(b5.out f o).bl;rotate_left;have x0:=(b5.out f o).b1;rotate_left 3;have x0:=(b5.out f o).o0;rotate_left 3;have V:=(a9.out f (J.out _ o)).rl;rotate_left;have x0:=(a9.out f (J.out _ o)).r0;rotate_left 3;have x0:=(a4.out f (J.out _ o)).1;have x1:=(a4.out f (J.out _ o)).2.1;have x2:=(a4.out f (J.out _ o)).2.2;rotate_left 4;have x0:=(a5.out f (J.out _ o)).1;have x1:=(a5.out f (J.out _ o)).2.1;have x2:=(a5.out f (J.out _ o)).2.2;rotate_left
     ·clear o;simp only[Par.Gives];go_simp;exact(e1.out f).mono (fun e g4⟨he,hb⟩=>⟨he,aB S.out hb⟩)
     rotate_left
     all_goals(clear o;simp only[Par.Gives];go_simp;all_goals exact S.out)
    intro f o;simp only[cw,ym];have i6:=aa (J.out _ o);clear o;go_wp2_with fail;go_roundg (nl-x)
    case measure=>omega
    exact⟨x+1,by go_num,by omega,by omega,by rw[n0.out,vt],i6.out⟩
   obtain rfl:x=nl:=(by omega);have j2:(l.all fun n=>ar F n r a)=lb:=(by rw[<-g9,<-a6.2.2.2.1,JG]);obtain⟨v,hv⟩:=ag (a.getD rc z3);obtain⟨u,hu⟩:=ag (r.getD rc z3);have b2:=rR (r:=r) (a:=a) a6.2.2.2.2.1;rw[a6.2.1]at b2;obtain⟨q,hq⟩:=ag (ar F rt r a);rw[hq,hv,hu]at b2;have e1:Hid (∀w,Calls prog 86 #[.agg #[.int .i64 v.1,.int .i64 v.2.1,.string v.2.2],.agg #[.int .i64 u.1,.int .i64 u.2.1,.string u.2.2]] w fun e f=>e=.returned (.bool q)/\Below w.heap.size w f):=aa (fun w=>by rw[<-b2];exact k2.out v u w);have a4:Hid (∀y,Below I.heap.size I y->y.cell? ⟨gm,rc*3,none⟩=some (.int .i64 v.1)/\y.cell? ⟨gm,rc*3+1,none⟩=some (.int .i64 v.2.1)/\y.cell? ⟨gm,rc*3+2,none⟩=some (.string v.2.2)):=aa (fun y H=>by rw[<-hv];exact(a9.out y H).v rc g8);have a5:Hid (∀y,Below I.heap.size I y->y.cell? ⟨gv,rc*3,none⟩=some (.int .i64 u.1)/\y.cell? ⟨gv,rc*3+1,none⟩=some (.int .i64 u.2.1)/\y.cell? ⟨gv,rc*3+2,none⟩=some (.string u.2.2)):=aa (fun y H=>by rw[<-hu];exact(a8.out y (U.out y H)).v rc g8);have j3:((l.all fun n=>ar F n r a)&&!ar F rt r a)=(lb&&!q):=(by rw[j2,hq]);have j4:=aa j3;have i6:=aa M;obtain⟨w6,n1⟩:∃z,z=wr:=⟨_,rfl⟩;have e9:=M;rw[<-n1]at e9;have J:Hid (∀y,Below w6.heap.size w6 y->Below I.heap.size I y):=aa (fun y H=>aB e9 H);have b5:Hid (∀y,Below w6.heap.size w6 y->_):=aa (fun y H=>HX.out y (U.out y (J.out y H)));clear M f0 j2 hv hu b2 hq j3 e9 d1 g9 L;subst n1
   have Q:(lb&&!q)=false->∀z,z<j+1->((l.all fun n=>ar F n r (B.getD z []))&&!ar F rt r (B.getD z []))=false:=fun h z hz=>by
    by_cases e:z=j
    ·subst e;rw[m7.out,j4.out];exact h
    exact i4.1 z (by omega)
   have b4:=aa Q;clear Q;cases lb
   ·go_upto_region 34 with fail;clear f3 fl dl d0;refine ae 23 [.bool false,.bool false,undef,undef,undef,undef,undef,undef,undef,undef,undef,undef,undef,undef,undef,undef,undef,undef,undef,undef,undef,undef,.bool false] (fun y=>Below w6.heap.size w6 y) ?A11 ?hm11 ?hB11 ?hA11 (aF w6) ?hop11 ?hT11
    case hm11=>kernel_rfl
    case hB11=>kernel_rfl
    case hA11 =>
     simp only[am,ai,Act.put,cy,db,bt,cp,dc,da,bu,eg,ed];rfl
    case hop11 =>
     simp only[ce,ze,ah,yu];and_intros<;>intro f o<;>have S:=aa o
     rotate_left 23
     all_goals(clear o;simp only[Par.Gives];go_simp;all_goals exact S.out)
    intro f o;simp only[cw,yq];have e4:=aa (J.out _ o);clear o;go_wp2_with fail;go_roundg (k-j)
    case measure=>omega
    exact⟨j+1,by go_num,by omega,by omega,b4.out (by rw[Bool.false_and]),e4.out⟩
   go_upto_region 34 with fail;clear f3 fl dl d0;refine ae 23 [.bool true,.bool true,.pointer (some ⟨b,0,none⟩),.pointer (some ⟨b,0,none⟩),.pointer (some ⟨b,1,none⟩),.slice (some ⟨go,0,none⟩) nt co,.int .i64 (t:Int),.pointer (some ⟨go,t,none⟩),.slice (some ⟨gr,0,none⟩) na cr,.int .i64 (j:Int),.pointer (some ⟨gr,j*2,none⟩),.pointer (some ⟨gr,j*2+1,none⟩),.slice (some ⟨gm,0,none⟩) m cm,.int .i64 (rc:Int),.pointer (some ⟨gm,rc*3,none⟩),.agg #[.int .i64 v.1,.int .i64 v.2.1,.string v.2.2],.slice (some ⟨gv,0,none⟩) m cv,.int .i64 (rc:Int),.pointer (some ⟨gv,rc*3,none⟩),.agg #[.int .i64 u.1,.int .i64 u.2.1,.string u.2.2],.bool q,.bool (!q),.bool (!q)] (fun y=>Below w6.heap.size w6 y) ?A12 ?hm12 ?hB12 ?hA12 (aF w6) ?hop12 ?hT12
   case hm12=>kernel_rfl
   case hB12=>kernel_rfl
   case hA12 =>
    simp only[am,ai,Act.put,cy,db,bt,cp,dc,da,bu,eg,ed];rfl
   case hop12 =>
    simp only[ce,ze,ah,yu];and_intros<;>intro f o<;>have S:=aa o
    rotate_left 3;have V:=(b5.out f o).bl;rotate_left;have V:=(b5.out f o).bl;rotate_left;have x0:=(b5.out f o).b1;rotate_left 3;have x0:=(b5.out f o).o0;rotate_left 3;have V:=(a9.out f (J.out _ o)).rl;rotate_left;have x0:=(a9.out f (J.out _ o)).r0;rotate_left 3;have x0:=(a4.out f (J.out _ o)).1;have x1:=(a4.out f (J.out _ o)).2.1;have x2:=(a4.out f (J.out _ o)).2.2;rotate_left 4;have x0:=(a5.out f (J.out _ o)).1;have x1:=(a5.out f (J.out _ o)).2.1;have x2:=(a5.out f (J.out _ o)).2.2;rotate_left
    ·clear o;simp only[Par.Gives];go_simp;exact(e1.out f).mono (fun e g4⟨he,hb⟩=>⟨he,aB S.out hb⟩)
    rotate_left 2
    all_goals(clear o;simp only[Par.Gives];go_simp;all_goals exact S.out)
   intro f o;simp only[cw,yq];have e4:=aa (J.out _ o);clear o;cases q
   ·go_upto_region 35 with fail;obtain⟨w8,rfl⟩:∃z,z=f:=⟨_,rfl⟩;refine ae 8 [.pointer (some ⟨g,3,none⟩),.slice (some ⟨bd,od,none⟩) nd kd,.int .i64 (i:Int),.pointer (some ⟨bd,od+i*2,none⟩),.pointer (some ⟨bd,od+i*2+1,none⟩),.string rt,.int .i64 10,.string rt] (fun y=>Below w8.heap.size w8 y) ?A13 ?hm13 ?hB13 ?hA13 (aF w8) ?hop13 ?hT13
    case hm13=>kernel_rfl
    case hB13=>kernel_rfl
    case hA13 =>
     simp only[am,ai,Act.put,cy,db,bt,cp,dc,da,bu,eg,ed];rfl
    case hop13 =>
     simp only[ce,ze,ah,yu];and_intros<;>intro f o<;>have S:=aa o
     have V:=aC (X.out f (aB e4.out o));rotate_left;have z0:=aA (X.out f (aB e4.out o)) 3;rotate_left 3;have V:=(e8.out f (aB e4.out o)).1;rotate_left;have z0:=(e8.out f (aB e4.out o)).2.2;rotate_left 3
     all_goals(clear o;simp only[Par.Gives];go_simp;all_goals exact S.out)
    intro f o;simp only[cw,yq];have g5:=aa (U.out _ (aB e4.out o));clear o;go_wp2_with fail;go_ret2
    have h9:dh F d r B=true:=by
     rw[j0.out];exact Eg (p:=fun a=>(l.all fun n=>ar F n r a)&&!ar F rt r a) (by rw[HF.2.2.2.2.2.1];exact f8) (by rw[m7.out,j4.out];rfl)
    have e:=uQ (ts:=ts) (As:=As) f5.out i3.1 i9.out k9 (by rw[a6.1];exact h9) g7.1;rw[a6.1,a6.2.1]at e;exact⟨cQ e,g5.out⟩
   go_wp2_with fail;go_roundg (k-j)
   case measure=>omega
   exact⟨j+1,by go_num,by omega,by omega,b4.out rfl,e4.out⟩
  obtain rfl:j=k:=(by omega);clear P M;go_wp2_with fail;go_roundg (nd-i)
  case measure=>omega
  refine⟨i+1,by go_num,by omega,by omega,fun x hx=>?_,i4.2⟩;by_cases e:x=i
  ·subst e;rw[a6.1,j0.out];exact DX (p:=fun a=>(l.all fun n=>ar F n r a)&&!ar F rt r a) HF.2.2.2.2.2.1 i4.1
  exact g7.1 x (by omega)
 obtain rfl:i=nd:=(by omega);have e:=pW (ts:=ts) (As:=As) f5.out i3.1 i9.out (fun k hk=>g7.1 k (by rw[<-HF.2.2.2.1];exact hk));have HE:=aa (cQ e);clear P M e f0;go_wp2_with fail;go_ret2;exact⟨HE.out,U.out _ g7.2⟩
