import Derived.Test.YthlccadnojnkaaaGreatZk44
set_option maxHeartbeats 8000000
set_option maxRecDepth 100000
namespace Go.Proofs.YthlccadnojnkaaaGreat
open Go Go.RowKit Go.Proofs Co Co.S
theorem aDT {W:World} {b:Nat} {ts:List T} {tt:List RT} {ni:NI} {O:Nat->Nat} {t k:Nat} {y:RT} {As:List (List R1)} (h:DbN W b ts tt ni O) (ht:t<ts.length) (hy:tt[t]?=some y) (hk:k<y.A.length) (hf:FormOk ts[t]) (hneg:ixC ts[t].cols e0<0) (h0:0<ts[t].cols.length) (hnt:ts.length<=1000) (hna:y.A.length<=1000) (hlen:∀ a∈y.A,a.2.length=ts[t].cols.length)
  (hbk:∀ w1,Below W.heap.size W w1->∀ (x:ByteArray) (u:T3),Calls Tryz.prog 87 #[.pointer (some ⟨b,0,none⟩),.string x,.agg #[.int .i64 (u.1),.int .i64 (u.2.1),.string (u.2.2)]] w1 fun e w'=>e=.returned (.tuple #[.int .i64 ((byKeyP ts As x u).getD 0),.bool (byKeyP ts As x u).isSome])/\Below w1.heap.size w1 w') :
  Calls Tryz.prog 49 #[.pointer (some ⟨b,0,none⟩),.int .i64 (t:Int),.int .i64 (k:Int)] W fun e w'=>e=.returned (.tuple #[.int .i64 (rowF ts As ts[t] y.A[k].2 (lessR y.A k)).1,.string (rowF ts As ts[t] y.A[k].2 (lessR y.A k)).2])/\Below W.heap.size W w':=by
 obtain⟨gs,cs,go,co,gr,cr,pc,kc,pd,kd,hX,hRW⟩:=yK h ht hy hk h0;have hT:=(hX W (Below.refl _ _)).rt;obtain⟨bc,oc,rfl,hC⟩:=pX hT h0;obtain⟨B,hBe⟩:∃ B,lessR y.A k=B:=⟨_,rfl⟩;obtain⟨r,hre⟩:∃ r,y.A[k].2=r:=⟨_,rfl⟩;have hBl:B.length=k:=(by rw[<- hBe,eT (by omega)]);have hrl:r.length=ts[t].cols.length:=(by rw[<- hre];exact hlen _ (List.getElem_mem hk));obtain⟨gv,cv,hOW⟩:=hRW k hk;rw[hre] at hOW
 have hBR:∀ m,m<k->∃ gv cv,∀ w,Below W.heap.size W w->RowW w gr m gv cv ts[t].cols.length (B.getD m []):=fun m hm=>by
  obtain⟨g1,c1,h1⟩:=hRW m (by omega);refine⟨g1,c1,?_⟩
  have e:B.getD m []=(y.A[m]'(by omega)).2:=by
   have hm':m<B.length:=(by omega);rw[List.getD_eq_getElem?_getD,List.getElem?_eq_getElem hm'];subst hBe;rw[Option.getD_some,uR (by omega) hm']
  rw[e];exact h1
 obtain⟨na,hnae⟩:∃ n,y.A.length=n:=⟨_,rfl⟩;obtain⟨nt,hnte⟩:∃ n,ts.length=n:=⟨_,rfl⟩;obtain⟨T0,hT0⟩:∃ x,ts[t]=x:=⟨_,rfl⟩;rw[hBe,hre];rw[hT0] at hX hOW hBR hC hT hf hneg h0 hrl ⊢;rw[hnae,hnte] at hX;have hki:(k:Int)<(na:Int):=(by omega);have hnai:(na:Int)<=1000:=(by omega);have hti:(t:Int)<(nt:Int):=(by omega);have hnti:(nt:Int)<=1000:=(by omega);obtain⟨nc,hnc⟩:∃ n,T0.cols.length=n:=⟨_,rfl⟩;obtain⟨nd,hnd⟩:∃ n,T0.deps.length=n:=⟨_,rfl⟩;have hnci:(nc:Int)<=1000:=(by have:=hf.nc;omega);have hndi:(nd:Int)<=1000:=(by have:=hf.nd;omega);have hDP:=(fun {i:Nat} (hi:i<T0.deps.length)=>aBN hT hi);simp only[hnc,hnd] at hX hOW hBR hC hDP h0;obtain⟨nm,hnm⟩:∃ x,T0.nm=x:=⟨_,rfl⟩;obtain⟨key,hkey⟩:∃ x,T0.key=x:=⟨_,rfl⟩
 have hXs:∀ w,Below W.heap.size W w->w.cell? ⟨gs,t*4,none⟩=some (.string nm)/\w.cell? ⟨gs,t*4+1,none⟩=some (.slice (some ⟨bc,oc,none⟩) nc kc)/\w.cell? ⟨gs,t*4+2,none⟩=some (.string key)/\w.cell? ⟨gs,t*4+3,none⟩=some (.slice pd nd kd):=fun w hw=>by
  rw[<- hnm,<- hkey];exact⟨(hX w hw).s0,(hX w hw).s1,(hX w hw).s2,(hX w hw).s3⟩
 have HCO:Hid (∀ w,Below W.heap.size W w->∀ x:ByteArray,Calls Tryz.prog 78 #[.agg #[.string nm,.slice (some ⟨bc,oc,none⟩) nc kc,.string key,.slice pd nd kd],.string x] w fun e w'=>e=.returned (.int .i64 (ixC T0.cols x))/\Below w.heap.size w w'):=qAq (fun w hw x=>by
  rw[<- hnm,<- hkey];exact bU (hX w hw).rt)
 have HEQ:Hid (∀ (x u:T3) (w:World),Calls Tryz.prog 86 #[.agg #[.int .i64 (x.1),.int .i64 (x.2.1),.string (x.2.2)],.agg #[.int .i64 (u.1),.int .i64 (u.2.1),.string (u.2.2)]] w fun e w'=>e=.returned (.bool (decide (x=u)))/\Below w.heap.size w w'):=qAq (fun x u w=>by
  rw[<- aDO];exact kX x.1 x.2.1 x.2.2 u.1 u.2.1 u.2.2 w)
 have HBK:=qAq hbk;have HX:=qAq hX;have HXS:=qAq hXs;have HOW:=qAq hOW;have HBR:=qAq hBR;have HC:=qAq hC;have HDP:Hid (∀ i,i<nd->_):=qAq (fun i (hi:i<nd)=>hDP (i:=i) hi);have HF:=qAq (qBq hf (qBq hneg (qBq hnc (qBq hnd (qBq hkey (qBq hBl (qBq hrl h0)))))));clear hX hXs hOW hBR hC hT hf hneg h0 hrl hBl hBe hre hRW h ht hy hk hnt hna hlen hbk hnae hnte hT0 hnc hnd hDP hnm hkey;go_enter Tryz.func49,Tryz.ntmps49;go_upto_region 1 with fail;refine Par.wp_region_box 21 18 19 6 (W.heap.size) 77 (#[.string e0,.slice none 0 0,.string e0,.slice none 0 0]) (Par.aggC) (fun y=>Below W.heap.size W y) (Par.VBL [(.eq (Value.pointer (some ⟨b,0,none⟩))),(.eq (Value.pointer (some ⟨b,0,none⟩))),(.eq (Value.pointer (some ⟨b,0,none⟩))),(.eq (.slice (some ⟨gs,0,none⟩) nt cs)),(.eq (Value.int .i64 ((t:Int)))),(.eq (Value.pointer (some ⟨gs,t*4,none⟩))),(.eq (.agg #[.string nm,.slice (some ⟨bc,oc,none⟩) nc kc,.string key,.slice pd nd kd])),(.eq (Value.pointer (some ⟨b,0,none⟩))),(.eq (Value.pointer (some ⟨b,0,none⟩))),(.eq (Value.pointer (some ⟨b,1,none⟩))),(.eq (.slice (some ⟨go,0,none⟩) nt co)),(.eq (Value.int .i64 ((t:Int)))),(.eq (Value.pointer (some ⟨go,t,none⟩))),(.eq (.slice (some ⟨gr,0,none⟩) na cr)),(.eq (Value.int .i64 ((k:Int)))),(.eq (Value.pointer (some ⟨gr,k*2,none⟩))),(.eq (Value.pointer (some ⟨gr,k*2+1,none⟩))),(.eq (.slice (some ⟨gv,0,none⟩) nc cv)),(.any),(.any),(.eq (.slice (some ⟨gv,0,none⟩) nc cv))]) ?A1 ?hm1 ?hB1 (fun w w' h ht=>h.trans ht.below) (Par.VBL.mono _) (fun w h=>h.size) ?hA1 ((aF W)) (by decide) (by decide) (by decide) (by kernel_rfl) (by kernel_rfl) (by decide) ?hop1 ?hT1
 case hm1=>kernel_rfl
 case hB1=>kernel_rfl
 case hA1 =>
  intro vs;simp only[Par.putA,Par.dstAt,Act.put,qDq,qEq,qFq,qLq,qGq,qHq,qIq];rfl
 case hop1 =>
  have hkd:(List.range 21).map (Par.kdOf 18 19)=[.val,.val,.val,.val,.val,.val,.val,.val,.val,.val,.val,.val,.val,.val,.val,.val,.val,.val,.new,.put,.val]:=rfl;simp only[hkd,qMq,List.take_zero,Par.GiveAllB,and_true];refine⟨fun vs w hK hd=>?_,fun vs w hK hd=>?_,fun vs w hK hd=>?_,fun vs w hK hd=>?_,fun vs w hK hd=>?_,fun vs w hK hd=>?_,fun vs w hK hd=>?_,fun vs w hK hd=>?_,fun vs w hK hd=>?_,fun vs w hK hd=>?_,fun vs w hK hd=>?_,fun vs w hK hd=>?_,fun vs w hK hd=>?_,fun vs w hK hd=>?_,fun vs w hK hd=>?_,fun vs w hK hd=>?_,fun vs w hK hd=>?_,fun vs w hK hd=>?_,fun vs w hK=>?_,fun vs w g hK hd a hz=>?_,fun vs w hK hd=>?_⟩
  ·clear hd;simp only[Par.GivesW];go_simp;all_goals exact⟨rfl,Below.refl _ _⟩
  ·have d0:=hd 0 (by decide) (by decide) (by decide) (by kernel_rfl);replace d0:vs 0=(Value.pointer (some ⟨b,0,none⟩)):=d0;have zl:=(HX.out w hK).bl;clear hd;simp only[Par.GivesW,d0];go_simp;all_goals exact⟨rfl,Below.refl _ _⟩
  ·have d1:=hd 1 (by decide) (by decide) (by decide) (by kernel_rfl);replace d1:vs 1=(Value.pointer (some ⟨b,0,none⟩)):=d1;have zl:=(HX.out w hK).bl;clear hd;simp only[Par.GivesW,d1];go_simp;all_goals exact⟨rfl,Below.refl _ _⟩
  ·have d2:=hd 2 (by decide) (by decide) (by decide) (by kernel_rfl);replace d2:vs 2=(Value.pointer (some ⟨b,0,none⟩)):=d2;have q0:=(HX.out w hK).b0;clear hd;simp only[Par.GivesW,d2];go_simp;all_goals exact⟨rfl,Below.refl _ _⟩
  ·clear hd;simp only[Par.GivesW];go_simp;all_goals exact⟨rfl,Below.refl _ _⟩
  ·have d3:=hd 3 (by decide) (by decide) (by decide) (by kernel_rfl);replace d3:vs 3=(.slice (some ⟨gs,0,none⟩) nt cs):=d3;have d4:=hd 4 (by decide) (by decide) (by decide) (by kernel_rfl);replace d4:vs 4=(Value.int .i64 ((t:Int))):=d4;clear hd;simp only[Par.GivesW,d3,d4];go_simp;all_goals exact⟨rfl,Below.refl _ _⟩
  ·have d5:=hd 5 (by decide) (by decide) (by decide) (by kernel_rfl);replace d5:vs 5=(Value.pointer (some ⟨gs,t*4,none⟩)):=d5;have q0:=(HXS.out w hK).1;have q1:=(HXS.out w hK).2.1;have q2:=(HXS.out w hK).2.2.1;have q3:=(HXS.out w hK).2.2.2;clear hd;simp only[Par.GivesW,d5];go_simp;all_goals exact⟨rfl,Below.refl _ _⟩
  ·clear hd;simp only[Par.GivesW];go_simp;all_goals exact⟨rfl,Below.refl _ _⟩
  ·have d7:=hd 7 (by decide) (by decide) (by decide) (by kernel_rfl);replace d7:vs 7=(Value.pointer (some ⟨b,0,none⟩)):=d7;have zl:=(HX.out w hK).bl;clear hd;simp only[Par.GivesW,d7];go_simp;all_goals exact⟨rfl,Below.refl _ _⟩
  ·have d8:=hd 8 (by decide) (by decide) (by decide) (by kernel_rfl);replace d8:vs 8=(Value.pointer (some ⟨b,0,none⟩)):=d8;have zl:=(HX.out w hK).bl;clear hd;simp only[Par.GivesW,d8];go_simp;all_goals exact⟨rfl,Below.refl _ _⟩
  ·have d9:=hd 9 (by decide) (by decide) (by decide) (by kernel_rfl);replace d9:vs 9=(Value.pointer (some ⟨b,1,none⟩)):=d9;have q0:=(HX.out w hK).b1;clear hd;simp only[Par.GivesW,d9];go_simp;all_goals exact⟨rfl,Below.refl _ _⟩
  ·clear hd;simp only[Par.GivesW];go_simp;all_goals exact⟨rfl,Below.refl _ _⟩
  ·have d10:=hd 10 (by decide) (by decide) (by decide) (by kernel_rfl);replace d10:vs 10=(.slice (some ⟨go,0,none⟩) nt co):=d10;have d11:=hd 11 (by decide) (by decide) (by decide) (by kernel_rfl);replace d11:vs 11=(Value.int .i64 ((t:Int))):=d11;clear hd;simp only[Par.GivesW,d10,d11];go_simp;all_goals exact⟨rfl,Below.refl _ _⟩
  ·have d12:=hd 12 (by decide) (by decide) (by decide) (by kernel_rfl);replace d12:vs 12=(Value.pointer (some ⟨go,t,none⟩)):=d12;have q0:=(HX.out w hK).o0;clear hd;simp only[Par.GivesW,d12];go_simp;all_goals exact⟨rfl,Below.refl _ _⟩
  ·clear hd;simp only[Par.GivesW];go_simp;all_goals exact⟨rfl,Below.refl _ _⟩
  ·have d13:=hd 13 (by decide) (by decide) (by decide) (by kernel_rfl);replace d13:vs 13=(.slice (some ⟨gr,0,none⟩) na cr):=d13;have d14:=hd 14 (by decide) (by decide) (by decide) (by kernel_rfl);replace d14:vs 14=(Value.int .i64 ((k:Int))):=d14;clear hd;simp only[Par.GivesW,d13,d14];go_simp;all_goals exact⟨rfl,Below.refl _ _⟩
  ·have d15:=hd 15 (by decide) (by decide) (by decide) (by kernel_rfl);replace d15:vs 15=(Value.pointer (some ⟨gr,k*2,none⟩)):=d15;have zl:=(HOW.out w hK).rl;clear hd;simp only[Par.GivesW,d15];go_simp;all_goals exact⟨rfl,Below.refl _ _⟩
  ·have d16:=hd 16 (by decide) (by decide) (by decide) (by kernel_rfl);replace d16:vs 16=(Value.pointer (some ⟨gr,k*2+1,none⟩)):=d16;have q0:=(HOW.out w hK).r0;clear hd;simp only[Par.GivesW,d16];go_simp;all_goals exact⟨rfl,Below.refl _ _⟩
  ·clear hK;simp only[Par.GivesW];go_simp;all_goals exact⟨rfl,rfl⟩
  ·have d6:=hd 6 (by decide) (by decide) (by decide) (by kernel_rfl);replace d6:vs 6=(.agg #[.string nm,.slice (some ⟨bc,oc,none⟩) nc kc,.string key,.slice pd nd kd]):=d6;have z0:=aA hz 0;have z1:=aA hz 1;have z2:=aA hz 2;have z3:=aA hz 3;have zf:=(fun i=>frozen_of_row w g i _ _ hz);have zl:=aC hz;have HZ:=qAq hz;clear hK hd hz;simp only[Par.GivesW,a,d6];go_simp;exact⟨yJ w g _ _ _ _,set4 HZ.out _ _ _ _⟩
  have d17:=hd 17 (by decide) (by decide) (by decide) (by kernel_rfl);replace d17:vs 17=(.slice (some ⟨gv,0,none⟩) nc cv):=d17;clear hd;simp only[Par.GivesW,d17];go_simp;all_goals exact⟨rfl,Below.refl _ _⟩
 intro vs w' g hK hV a hBg hz;simp only[qNq,List.drop_nil];have d0:=hV 0 (by decide) (by decide) (by decide);replace d0:vs 0=(Value.pointer (some ⟨b,0,none⟩)):=d0;have d1:=hV 1 (by decide) (by decide) (by decide);replace d1:vs 1=(Value.pointer (some ⟨b,0,none⟩)):=d1;have d2:=hV 2 (by decide) (by decide) (by decide);replace d2:vs 2=(Value.pointer (some ⟨b,0,none⟩)):=d2;have d3:=hV 3 (by decide) (by decide) (by decide);replace d3:vs 3=(.slice (some ⟨gs,0,none⟩) nt cs):=d3;have d4:=hV 4 (by decide) (by decide) (by decide);replace d4:vs 4=(Value.int .i64 ((t:Int))):=d4;have d5:=hV 5 (by decide) (by decide) (by decide);replace d5:vs 5=(Value.pointer (some ⟨gs,t*4,none⟩)):=d5;have d6:=hV 6 (by decide) (by decide) (by decide);replace d6:vs 6=(.agg #[.string nm,.slice (some ⟨bc,oc,none⟩) nc kc,.string key,.slice pd nd kd]):=d6;have d7:=hV 7 (by decide) (by decide) (by decide);replace d7:vs 7=(Value.pointer (some ⟨b,0,none⟩)):=d7;have d8:=hV 8 (by decide) (by decide) (by decide);replace d8:vs 8=(Value.pointer (some ⟨b,0,none⟩)):=d8;have d9:=hV 9 (by decide) (by decide) (by decide);replace d9:vs 9=(Value.pointer (some ⟨b,1,none⟩)):=d9;have d10:=hV 10 (by decide) (by decide) (by decide);replace d10:vs 10=(.slice (some ⟨go,0,none⟩) nt co):=d10;have d11:=hV 11 (by decide) (by decide) (by decide);replace d11:vs 11=(Value.int .i64 ((t:Int))):=d11;have d12:=hV 12 (by decide) (by decide) (by decide);replace d12:vs 12=(Value.pointer (some ⟨go,t,none⟩)):=d12;have d13:=hV 13 (by decide) (by decide) (by decide);replace d13:vs 13=(.slice (some ⟨gr,0,none⟩) na cr):=d13;have d14:=hV 14 (by decide) (by decide) (by decide);replace d14:vs 14=(Value.int .i64 ((k:Int))):=d14;have d15:=hV 15 (by decide) (by decide) (by decide);replace d15:vs 15=(Value.pointer (some ⟨gr,k*2,none⟩)):=d15;have d16:=hV 16 (by decide) (by decide) (by decide);replace d16:vs 16=(Value.pointer (some ⟨gr,k*2+1,none⟩)):=d16;have d17:=hV 17 (by decide) (by decide) (by decide);replace d17:vs 17=(.slice (some ⟨gv,0,none⟩) nc cv):=d17;have d20:=hV 20 (by decide) (by decide) (by decide);replace d20:vs 20=(.slice (some ⟨gv,0,none⟩) nc cv):=d20;clear hV;rw[d6] at hz;simp only[a,d0,d1,d2,d3,d4,d5,d6,d7,d8,d9,d10,d11,d12,d13,d14,d15,d16,d17,d20];clear a d0 d1 d2 d3 d4 d5 d6 d7 d8 d9 d10 d11 d12 d13 d14 d15 d16 d17 d20;obtain⟨w1,rfl⟩:∃ x,x=w':=⟨_,rfl⟩;have hz:w1.heap[g]?=some (.cells #[.string nm,.slice (some ⟨bc,oc,none⟩) nc kc,.string key,.slice pd nd kd] 77):=hz;have HW1:=qAq hK;have HK:Hid (∀ y,Below w1.heap.size w1 y->y.heap[g]?=some (.cells #[.string nm,.slice (some ⟨bc,oc,none⟩) nc kc,.string key,.slice pd nd kd] 77)):=qAq (fun y hy=>aE hy hz);have HB:Hid (∀ y,Below w1.heap.size w1 y->Below W.heap.size W y):=qAq (fun y hy=>aB hK hy);clear hK hBg hz;go_wp2_with fail;go_loopg [10] (nc+1) (fun gh jv y=>∃ (j:Nat),jv=.int .i64 (j:Int)/\j<=nc/\nc+1<=j+gh/\(∀ i,i<j->nullB T0 r i=false)/\Below w1.heap.size w1 y)
 case atStart=>exact⟨0,rfl,Nat.zero_le _,by omega,fun i hi=>by omega,Below.refl _ _⟩
 obtain⟨j,rfl,hj,hg,hno,hB⟩:=hrel;have HI:=qAq (qBq hno hB);have f0:=HK.out wr hB;have fl:=aC f0;by_cases hlt:j<nc
 ·have hji:(j:Int)<(nc:Int):=(by omega);have f1:=aA f0 1;have bl:=(HC.out wr (HB.out wr hB)).1;obtain⟨c0,c1,c2,c3⟩:=(HC.out wr (HB.out wr hB)).2 j hlt;obtain⟨c,hcc⟩:∃ c,cAt T0 j=c:=⟨_,rfl⟩;obtain⟨u,hu⟩:∃ u,r.getD j z3=u:=⟨_,rfl⟩;obtain⟨v0,v1,v2⟩:=(HOW.out wr (HB.out wr hB)).v j hlt;have vl:=(HOW.out wr (HB.out wr hB)).vl;rw[hcc] at c0 c1 c2 c3;rw[hu] at v0 v1 v2;have hnb:nullB T0 r j=(c.mu&&decide (u.1=0)):=(by unfold nullB;rw[hcc,hu]);obtain⟨mu,hmu⟩:∃ m,c.mu=m:=⟨_,rfl⟩;rw[hmu] at c2;have HX1:=qAq (qBq hnb (qBq hcc hmu))
  have hnext:nullB T0 r j=false->∀ i,i<j+1->nullB T0 r i=false:=fun h i hi=>by
   by_cases e:i=j
   ·subst e;exact h
   exact HI.out.1 i (by omega)
  have HNX:=qAq hnext;clear hno hB hnb hcc hu hmu hnext f0 c0 c1 c3 v1 v2;cases mu
  ·have hf0:nullB T0 r j=false:=(by rw[HX1.out.1,HX1.out.2.2];rfl);have HF0:=qAq hf0;clear hf0;go_wp2_with fail;go_roundg (nc-j)
   case measure=>omega
   exact⟨j+1,by go_num,by omega,by omega,HNX.out HF0.out,HI.out.2⟩
  by_cases hu0:u.1=0
  ·have hf0:nullB T0 r j=true:=(by rw[HX1.out.1,HX1.out.2.2,decide_eq_true hu0];rfl);rw[hu0] at v0;have HF0:=qAq hf0;clear hf0 hu0;go_upto_region 6 with fail;clear v0 vl c2 bl fl f1;have HBr:Hid (∀ y,Below wr.heap.size wr y->Below w1.heap.size w1 y):=qAq (fun y hy=>aB HI.out.2 hy);obtain⟨nmc,hnmc⟩:∃ x,c.nm=x:=⟨_,rfl⟩
   have HCX:Hid (∀ y,Below wr.heap.size wr y->bc<y.heap.size/\y.cell? ⟨bc,oc+j*4,none⟩=some (.string nmc)):=qAq (fun y hy=>by
    rw[<- hnmc,<- HX1.out.2.1];exact⟨(HC.out y (HB.out y (HBr.out y hy))).1,((HC.out y (HB.out y (HBr.out y hy))).2 j hlt).1⟩)
   have HNM:=qAq hnmc;clear hnmc;refine Par.wp_region_par 8 [.pointer (some ⟨g,1,none⟩),.slice (some ⟨bc,oc,none⟩) nc kc,.int .i64 ((j:Int)),.pointer (some ⟨bc,oc+j*4,none⟩),.pointer (some ⟨bc,oc+j*4,none⟩),.string nmc,.int .i64 7,.string nmc] (fun y=>Below wr.heap.size wr y) ?A2 ?hm2 ?hB2 ?hA2 ((aF wr)) ?hop2 ?hT2
   case hm2=>kernel_rfl
   case hB2=>kernel_rfl
   case hA2 =>
    simp only[Par.putA,Par.dstAt,Act.put,qDq,qEq,qFq,qLq,qGq,qHq,qIq,qJq,qKq];rfl
   case hop2 =>
    simp only[qMq,List.take_zero,Par.GiveAll,and_true];and_intros<;>intro w' hR<;>have HR:=qAq hR
    have zl:=aC (HK.out w' (HBr.out w' hR));rotate_left;have z0:=aA (HK.out w' (HBr.out w' hR)) 1;rotate_left 3;have zl:=(HCX.out w' hR).1;rotate_left;have z0:=(HCX.out w' hR).2;rotate_left 3
    all_goals(clear hR;simp only[Par.Gives];go_simp;all_goals exact HR.out)
   intro w' hR;simp only[qNq,List.drop_nil];have HR:=qAq (HB.out _ (HBr.out _ hR));clear hR;go_wp2_with fail;go_ret2;have e:=pV (ts:=ts) (As:=As) (B:=B) (by rw[HF.out.2.2.1];exact hlt) HF0.out HI.out.1;rw[HX1.out.2.1,HNM.out] at e;exact⟨cQ e,HR.out⟩
  have hf0:nullB T0 r j=false:=(by rw[HX1.out.1,HX1.out.2.2,decide_eq_false hu0];rfl);have hb0:(u.1==0)=false:=beq_eq_false_iff_ne.2 hu0;have HF0:=qAq hf0;clear hf0 hu0;go_wp2_with fail;go_roundg (nc-j)
  case measure=>omega
  exact⟨j+1,by go_num,by omega,by omega,HNX.out HF0.out,HI.out.2⟩
 obtain rfl:j=nc:=(by omega);have hnone:∀ i,i<T0.cols.length->nullB T0 r i=false:=(fun i hi=>HI.out.1 i (by rw[<- HF.out.2.2.1];exact hi));have HNUL:=qAq hnone;have f1:=aA f0 1;have f2:=aA f0 2;have f3:=aA f0 3;have f0:=aA f0 0;have hco:=HCO.out wr (HB.out wr hB) key;obtain⟨q,hq⟩:∃ q,ixC T0.cols key=q:=⟨_,rfl⟩;rw[hq] at hco;have HQ:=qAq hq;clear hno hB hnone hlt hj hg hq
 go_upto_if 71 with (go_at_call 78;(with_reducible refine hco.mono ?_);rintro e w2 ⟨rfl,hb2⟩;have H2:=qAq (aB HI.out.2 hb2);clear hco hb2)
 clear f0 f1 f2 f3 fl;have hkn:(k:Int)<=1000:=by omega
 go_cut [] from 300 to 300 (fun wx=>keyB T0 r B=false/\Below w1.heap.size w1 wx)
 case first =>
  by_cases hkz:key=e0
  ·have hqn:¬ 0<=q:=by
    have h1:=HQ.out;have h2:=HF.out.2.1;rw[hkz] at h1;omega
   have HKZ:=qAq hkz;clear hkz;go_wp2_with fail;go_meet;exact⟨aFL (HF.out.2.2.2.2.1.trans HKZ.out),H2.out⟩
  obtain⟨qn,hq1,hq2⟩:=HF.out.1.key.resolve_left (fun h=>hkz (HF.out.2.2.2.2.1.symm.trans h));have hq1:ixC T0.cols key=(qn:Int):=(by rw[<- hq1,HF.out.2.2.2.2.1]);have hq2:qn<j:=(by rw[<- HF.out.2.2.1];exact hq2);obtain rfl:q=(qn:Int):=HQ.out.symm.trans hq1;have hq0:0<=(qn:Int):=(by omega);have hqi:(qn:Int)<(j:Int):=(by omega);have HKZ:=qAq (qBq hkz hq1);clear hkz hq1;go_wp2_with fail;go_loopg [12] (k+1) (fun gh mv y=>∃ (m:Nat),mv=.int .i64 (m:Int)/\m<=k/\k+1<=m+gh/\(∀ i,i<m->likeP T0 key r (B.getD i [])=false)/\Below w1.heap.size w1 y)
  case atStart=>exact⟨0,rfl,Nat.zero_le _,by omega,fun i hi=>by omega,H2.out⟩
  obtain⟨m,rfl,hm,hg,hno,hB⟩:=hrel;have HI2:=qAq (qBq hno hB);by_cases hlt:m<k
  ·have hmi:(m:Int)<(k:Int):=(by omega);have hmn:(m:Int)<(na:Int):=(by omega);obtain⟨gm,cm,hRM⟩:=HBR.out m hlt;obtain⟨x,hx⟩:∃ x,(B.getD m []).getD qn z3=x:=⟨_,rfl⟩;obtain⟨u,hu⟩:∃ u,r.getD qn z3=u:=⟨_,rfl⟩;obtain⟨lk,hlk⟩:∃ b,likeP T0 key r (B.getD m [])=b:=⟨_,rfl⟩;have heq:decide (x=u)=lk:=(by rw[<- hx,<- hu,<- hlk];exact rR HKZ.out.2);have HEQ2:Hid (∀ w,Calls Tryz.prog 86 #[.agg #[.int .i64 (x.1),.int .i64 (x.2.1),.string (x.2.2)],.agg #[.int .i64 (u.1),.int .i64 (u.2.1),.string (u.2.2)]] w fun e w'=>e=.returned (.bool lk)/\Below w.heap.size w w'):=qAq (fun w=>by rw[<- heq];exact HEQ.out x u w);have HBr:Hid (∀ y,Below wr.heap.size wr y->Below w1.heap.size w1 y):=qAq (fun y hy=>aB HI2.out.2 hy);have HR1:Hid (∀ y,Below wr.heap.size wr y->RowW y gr m gm cm j (B.getD m [])):=qAq (fun y hy=>hRM y (HB.out y (HBr.out y hy)));have HV1:Hid (∀ y,Below wr.heap.size wr y->y.cell? ⟨gm,qn*3,none⟩=some (.int .i64 x.1)/\y.cell? ⟨gm,qn*3+1,none⟩=some (.int .i64 x.2.1)/\y.cell? ⟨gm,qn*3+2,none⟩=some (.string x.2.2)):=qAq (fun y hy=>by rw[<- hx];exact (HR1.out y hy).v qn hq2);have HV2:Hid (∀ y,Below wr.heap.size wr y->y.cell? ⟨gv,qn*3,none⟩=some (.int .i64 u.1)/\y.cell? ⟨gv,qn*3+1,none⟩=some (.int .i64 u.2.1)/\y.cell? ⟨gv,qn*3+2,none⟩=some (.string u.2.2)):=qAq (fun y hy=>by rw[<- hu];exact (HOW.out y (HB.out y (HBr.out y hy))).v qn hq2);have HXr:Hid (∀ y,Below wr.heap.size wr y->_):=qAq (fun y hy=>HX.out y (HB.out y (HBr.out y hy)));have HLK:=qAq hlk;clear hno hB hRM hx hu hlk heq;go_upto_region 12 with fail;refine Par.wp_region_par 19 [.pointer (some ⟨b,0,none⟩),.pointer (some ⟨b,0,none⟩),.pointer (some ⟨b,1,none⟩),.slice (some ⟨go,0,none⟩) nt co,.int .i64 ((t:Int)),.pointer (some ⟨go,t,none⟩),.slice (some ⟨gr,0,none⟩) na cr,.int .i64 ((m:Int)),.pointer (some ⟨gr,m*2,none⟩),.pointer (some ⟨gr,m*2+1,none⟩),.slice (some ⟨gm,0,none⟩) j cm,.int .i64 ((qn:Int)),.pointer (some ⟨gm,qn*3,none⟩),.agg #[.int .i64 (x.1),.int .i64 (x.2.1),.string (x.2.2)],.slice (some ⟨gv,0,none⟩) j cv,.int .i64 ((qn:Int)),.pointer (some ⟨gv,qn*3,none⟩),.agg #[.int .i64 (u.1),.int .i64 (u.2.1),.string (u.2.2)],.bool lk] (fun y=>Below wr.heap.size wr y) ?A3 ?hm3 ?hB3 ?hA3 ((aF wr)) ?hop3 ?hT3
   case hm3=>kernel_rfl
   case hB3=>kernel_rfl
   case hA3 =>
    simp only[Par.putA,Par.dstAt,Act.put,qDq,qEq,qFq,qLq,qGq,qHq,qIq,qJq,qKq];rfl
   case hop3 =>
    simp only[qMq,List.take_zero,Par.GiveAll,and_true];and_intros<;>intro w' hR<;>have HR:=qAq hR
    rotate_left;have zl:=(HXr.out w' hR).bl;rotate_left;have zl:=(HXr.out w' hR).bl;rotate_left;have x0:=(HXr.out w' hR).b1;rotate_left 3;have x0:=(HXr.out w' hR).o0;rotate_left 3;have zl:=(HR1.out w' hR).rl;rotate_left;have x0:=(HR1.out w' hR).r0;rotate_left 3;have x0:=(HV1.out w' hR).1;have x1:=(HV1.out w' hR).2.1;have x2:=(HV1.out w' hR).2.2;rotate_left 4;have x0:=(HV2.out w' hR).1;have x1:=(HV2.out w' hR).2.1;have x2:=(HV2.out w' hR).2.2;rotate_left
    ·clear hR;simp only[Par.Gives];go_simp;exact (HEQ2.out w').mono (fun e w'' ⟨he,hb⟩=>⟨he,aB HR.out hb⟩)
    all_goals(clear hR;simp only[Par.Gives];go_simp;all_goals exact HR.out)
   intro w' hR;simp only[qNq,List.drop_nil];have HA:=qAq (HBr.out _ hR);clear hR;cases lk
   ·go_wp2_with fail;go_roundg (k-m)
    case measure=>omega
    refine⟨m+1,by go_num,by omega,by omega,fun i hi=>?_,HA.out⟩;by_cases e:i=m
    ·subst e;exact HLK.out
    exact HI2.out.1 i (by omega)
   go_upto_region 13 with fail;obtain⟨w4,rfl⟩:∃ x,x=w':=⟨_,rfl⟩;refine Par.wp_region_par 4 [.pointer (some ⟨g,2,none⟩),.string key,.int .i64 8,.string key] (fun y=>Below w4.heap.size w4 y) ?A4 ?hm4 ?hB4 ?hA4 ((aF w4)) ?hop4 ?hT4
   case hm4=>kernel_rfl
   case hB4=>kernel_rfl
   case hA4 =>
    simp only[Par.putA,Par.dstAt,Act.put,qDq,qEq,qFq,qLq,qGq,qHq,qIq,qJq,qKq];rfl
   case hop4 =>
    simp only[qMq,List.take_zero,Par.GiveAll,and_true];and_intros<;>intro w' hR<;>have HR:=qAq hR
    have zl:=aC (HK.out w' (aB HA.out hR));rotate_left;have z0:=aA (HK.out w' (aB HA.out hR)) 2;rotate_left 3
    all_goals(clear hR;simp only[Par.Gives];go_simp;all_goals exact HR.out)
   intro w' hR;simp only[qNq,List.drop_nil];have HR2:=qAq (HB.out _ (aB HA.out hR));clear hR;go_wp2_with fail;go_ret2
   have hkb:keyB T0 r B=true:=by
    unfold keyB;rw[HF.out.2.2.2.2.1,decide_eq_true HKZ.out.1,Bool.true_and];exact aAs (p:=fun a=>likeP T0 key r a) (by rw[HF.out.2.2.2.2.2.1];exact hlt) HLK.out
   have e:=uO (ts:=ts) (As:=As) (B:=B) HNUL.out hkb;rw[HF.out.2.2.2.2.1] at e;exact⟨cQ e,HR2.out⟩
  obtain rfl:m=k:=(by omega);clear hno hB;go_wp2_with fail;go_meet;refine⟨?_,HI2.out.2⟩;unfold keyB;rw[HF.out.2.2.2.2.1,decide_eq_true HKZ.out.1,Bool.true_and];exact aDR (p:=fun a=>likeP T0 key r a) HF.out.2.2.2.2.2.1 HI2.out.1
 obtain⟨hkb,hBc⟩:=hcut;have HKB:=qAq (qBq hkb hBc);clear hkb hBc;go_wp2_with fail;go_loopg [13] (j+1) (fun gh jv y=>∃ (m:Nat),jv=.int .i64 (m:Int)/\m<=j/\j+1<=m+gh/\(∀ i,i<m->refB ts As T0 r i=false)/\Below w1.heap.size w1 y)
 case atStart=>exact⟨0,rfl,Nat.zero_le _,by omega,fun i hi=>by omega,HKB.out.2⟩
 obtain⟨m,rfl,hm,hg,hno,hB⟩:=hrel;have HI2:=qAq (qBq hno hB);by_cases hlt:m<j
 ·have hmi:(m:Int)<(j:Int):=(by omega);have f0:=HK.out wr hB;have fl:=aC f0;have f1:=aA f0 1;have bl:=(HC.out wr (HB.out wr hB)).1;obtain⟨c0,c1,c2,c3⟩:=(HC.out wr (HB.out wr hB)).2 m hlt;obtain⟨c,hcc⟩:∃ c,cAt T0 m=c:=⟨_,rfl⟩;obtain⟨u,hu⟩:∃ u,r.getD m z3=u:=⟨_,rfl⟩;obtain⟨v0,v1,v2⟩:=(HOW.out wr (HB.out wr hB)).v m hlt;have vl:=(HOW.out wr (HB.out wr hB)).vl;rw[hcc] at c3;rw[hu] at v0;have hrb:refB ts As T0 r m=(decide (c.tgt≠e0)&&(decide (u.1≠0)&&(byKeyP ts As c.tgt u).isNone)):=(by unfold refB;rw[hcc,hu]);obtain⟨tg,htg⟩:∃ x,c.tgt=x:=⟨_,rfl⟩;rw[htg] at c3 hrb;have HRB:=qAq (qBq hrb (qBq hcc (qBq hu htg)))
  have hnext:refB ts As T0 r m=false->∀ i,i<m+1->refB ts As T0 r i=false:=fun h i hi=>by
   by_cases e:i=m
   ·subst e;exact h
   exact HI2.out.1 i (by omega)
  have HNX:=qAq hnext;clear hno hB hrb hcc hu htg hnext f0 c0 c1 c2 v1 v2;by_cases ht0:tg=e0
  ·subst ht0;have hf0:refB ts As T0 r m=false:=(by rw[HRB.out.1];rfl);have HF0:=qAq hf0;clear hf0;go_wp2_with fail;go_roundg (j-m)
   case measure=>omega
   exact⟨m+1,by go_num,by omega,by omega,HNX.out HF0.out,HI2.out.2⟩
  have htl:=nZ ht0;by_cases hu0:u.1=0
  ·have hf0:refB ts As T0 r m=false:=(by rw[HRB.out.1,decide_eq_false (fun h:u.1≠0=>h hu0),Bool.false_and,Bool.and_false]);rw[hu0] at v0;have HF0:=qAq hf0;clear hf0 hu0 ht0;go_wp2_with fail;go_roundg (j-m)
   case measure=>omega
   exact⟨m+1,by go_num,by omega,by omega,HNX.out HF0.out,HI2.out.2⟩
  have hb0:(u.1==0)=false:=beq_eq_false_iff_ne.2 hu0;have hf0:refB ts As T0 r m=(byKeyP ts As tg u).isNone:=(by rw[HRB.out.1,decide_eq_true ht0,decide_eq_true hu0,Bool.true_and,Bool.true_and]);have HF0:=qAq hf0;have HBr:Hid (∀ y,Below wr.heap.size wr y->Below w1.heap.size w1 y):=qAq (fun y hy=>aB HI2.out.2 hy);obtain⟨nmc,hnmc⟩:∃ x,c.nm=x:=⟨_,rfl⟩
  have HCX:Hid (∀ y,Below wr.heap.size wr y->bc<y.heap.size/\y.cell? ⟨bc,oc+m*4,none⟩=some (.string nmc)/\y.cell? ⟨bc,oc+m*4+3,none⟩=some (.string tg)):=qAq (fun y hy=>by
   rw[<- hnmc,<- HRB.out.2.2.2,<- HRB.out.2.1];exact⟨(HC.out y (HB.out y (HBr.out y hy))).1,((HC.out y (HB.out y (HBr.out y hy))).2 m hlt).1,((HC.out y (HB.out y (HBr.out y hy))).2 m hlt).2.2.2⟩)
  have HVX:Hid (∀ y,Below wr.heap.size wr y->y.cell? ⟨gv,m*3,none⟩=some (.int .i64 u.1)/\y.cell? ⟨gv,m*3+1,none⟩=some (.int .i64 u.2.1)/\y.cell? ⟨gv,m*3+2,none⟩=some (.string u.2.2)):=qAq (fun y hy=>by
   rw[<- HRB.out.2.2.1];exact (HOW.out y (HB.out y (HBr.out y hy))).v m hlt)
  have HNM:=qAq hnmc;clear hf0 hu0 ht0 hnmc;go_upto_region 18 with fail;clear v0 vl c3 bl fl f1 htl hb0;obtain⟨s,hs⟩:∃ s,(byKeyP ts As tg u).isSome=s:=⟨_,rfl⟩;obtain⟨av,hav⟩:∃ s,(byKeyP ts As tg u).getD 0=s:=⟨_,rfl⟩
  have HBKQ:Hid (∀ y,Below wr.heap.size wr y->Calls Tryz.prog 87 #[.pointer (some ⟨b,0,none⟩),.string tg,.agg #[.int .i64 (u.1),.int .i64 (u.2.1),.string (u.2.2)]] y fun e w'=>e=.returned (.tuple #[.int .i64 av,.bool s])/\Below y.heap.size y w'):=qAq (fun y hy=>by
   rw[<- hs,<- hav];exact HBK.out y (HB.out _ (HBr.out _ hy)) tg u)
  have HS:=qAq hs;clear hs hav;refine Par.wp_region_par 17 [.pointer (some ⟨b,0,none⟩),.pointer (some ⟨g,1,none⟩),.slice (some ⟨bc,oc,none⟩) j kc,.int .i64 ((m:Int)),.pointer (some ⟨bc,oc+m*4,none⟩),.pointer (some ⟨bc,oc+m*4+3,none⟩),.string tg,.slice (some ⟨gv,0,none⟩) j cv,.int .i64 ((m:Int)),.pointer (some ⟨gv,m*3,none⟩),.agg #[.int .i64 (u.1),.int .i64 (u.2.1),.string (u.2.2)],.tuple #[.int .i64 av,.bool s],.tuple #[.int .i64 av,.bool s],.int .i64 av,.bool s,.int .i64 av,.bool s] (fun y=>Below wr.heap.size wr y) ?A5 ?hm5 ?hB5 ?hA5 ((aF wr)) ?hop5 ?hT5
  case hm5=>kernel_rfl
  case hB5=>kernel_rfl
  case hA5 =>
   simp only[Par.putA,Par.dstAt,Act.put,qDq,qEq,qFq,qLq,qGq,qHq,qIq,qJq,qKq];rfl
  case hop5 =>
   simp only[qMq,List.take_zero,Par.GiveAll,and_true];and_intros<;>intro w' hR<;>have HR:=qAq hR
   rotate_left;have zl:=aC (HK.out w' (HBr.out w' hR));rotate_left;have z0:=aA (HK.out w' (HBr.out w' hR)) 1;rotate_left 3;have zl:=(HCX.out w' hR).1;rotate_left;have z0:=(HCX.out w' hR).2.2;rotate_left 4;have x0:=(HVX.out w' hR).1;have x1:=(HVX.out w' hR).2.1;have x2:=(HVX.out w' hR).2.2;rotate_left
   ·clear hR;simp only[Par.Gives];go_simp;exact (HBKQ.out w' HR.out).mono (fun e w'' ⟨he,hb⟩=>⟨he,aB HR.out hb⟩)
   rotate_left 5
   all_goals(clear hR;simp only[Par.Gives];go_simp;all_goals exact HR.out)
  intro w' hR;simp only[qNq,List.drop_nil];have HA:=qAq hR;clear hR;cases s
  ·go_upto_region 20 with fail;obtain⟨w4,rfl⟩:∃ x,x=w':=⟨_,rfl⟩;refine Par.wp_region_par 8 [.pointer (some ⟨g,1,none⟩),.slice (some ⟨bc,oc,none⟩) j kc,.int .i64 ((m:Int)),.pointer (some ⟨bc,oc+m*4,none⟩),.pointer (some ⟨bc,oc+m*4,none⟩),.string nmc,.int .i64 9,.string nmc] (fun y=>Below w4.heap.size w4 y) ?A6 ?hm6 ?hB6 ?hA6 ((aF w4)) ?hop6 ?hT6
   case hm6=>kernel_rfl
   case hB6=>kernel_rfl
   case hA6 =>
    simp only[Par.putA,Par.dstAt,Act.put,qDq,qEq,qFq,qLq,qGq,qHq,qIq,qJq,qKq];rfl
   case hop6 =>
    simp only[qMq,List.take_zero,Par.GiveAll,and_true];and_intros<;>intro w' hR<;>have HR:=qAq hR
    have zl:=aC (HK.out w' (HBr.out w' (aB HA.out hR)));rotate_left;have z0:=aA (HK.out w' (HBr.out w' (aB HA.out hR))) 1;rotate_left 3;have zl:=(HCX.out w' (aB HA.out hR)).1;rotate_left;have z0:=(HCX.out w' (aB HA.out hR)).2.1;rotate_left 3
    all_goals(clear hR;simp only[Par.Gives];go_simp;all_goals exact HR.out)
   intro w' hR;simp only[qNq,List.drop_nil];have HR2:=qAq (HB.out _ (HBr.out _ (aB HA.out hR)));clear hR;go_wp2_with fail;go_ret2;have hq:refB ts As T0 r m=true:=by rw[HF0.out];have h:=HS.out;cases hh:byKeyP ts As tg u <;> rw[hh] at h <;> first|rfl|cases h
   have e:=uP (ts:=ts) (As:=As) (B:=B) HNUL.out HKB.out.1 (by rw[HF.out.2.2.1];exact hlt) hq HI2.out.1;rw[HRB.out.2.1,HNM.out] at e;exact⟨cQ e,HR2.out⟩
  go_wp2_with fail;go_roundg (j-m)
  case measure=>omega
  exact⟨m+1,by go_num,by omega,by omega,HNX.out (by rw[HF0.out];have h:=HS.out;cases hh:byKeyP ts As tg u <;> rw[hh] at h <;> first|rfl|cases h),HBr.out _ HA.out⟩
 obtain rfl:m=j:=(by omega);have hnone:∀ i,i<T0.cols.length->refB ts As T0 r i=false:=(fun i hi=>HI2.out.1 i (by rw[<- HF.out.2.2.1];exact hi));have HREF:=qAq hnone;clear hno hB hnone hlt hm hg;go_wp2_with fail;go_loopg [16] (nd+1) (fun gh jv y=>∃ (i:Nat),jv=.int .i64 (i:Int)/\i<=nd/\nd+1<=i+gh/\(∀ k,k<i->brokenB T0 (dAt T0 k) r B=false)/\Below w1.heap.size w1 y)
 case atStart=>exact⟨0,rfl,Nat.zero_le _,by omega,fun i hi=>by omega,HI2.out.2⟩
 obtain⟨i,rfl,hi,hg,hno,hB⟩:=hrel;have HI3:=qAq (qBq hno hB);have f0:=HK.out wr hB;have f3:=aA f0 3;have fl:=aC f0;by_cases hlt:i<nd
 ·have hil:i<T0.deps.length:=(by rw[HF.out.2.2.2.1];exact hlt);have hii:(i:Int)<(nd:Int):=(by omega);obtain⟨bd,od,pl,cl,rfl,hD,hWd⟩:=HDP.out i hlt;have hdok:=HF.out.1.deps _ (by rw[yI hil];exact List.getElem_mem hil:dAt T0 i∈T0.deps);obtain⟨d,hd⟩:∃ d,dAt T0 i=d:=⟨_,rfl⟩;rw[hd] at hD hdok;obtain⟨rc,hrc,hrcl⟩:=hdok.r;rw[HF.out.2.2.1] at hrcl;have hnl:=hdok.n;have hrci:(rc:Int)<(m:Int):=(by omega);obtain⟨rt,hrt⟩:∃ x,d.right=x:=⟨_,rfl⟩;obtain⟨l,hl⟩:∃ x,d.left=x:=⟨_,rfl⟩
  have hWl:∀ j,j<l.length->∃ bl ol,pl=some ⟨bl,ol,none⟩/\∀ y,Below W.heap.size W y->bl<y.heap.size/\y.cell? ⟨bl,ol+j,none⟩=some (.string (l.getD j e0)):=by
   rw[<- hl,<- hd];exact hWd
  obtain⟨nl,hnle⟩:∃ n,l.length=n:=⟨_,rfl⟩;rw[hrt,hl,hnle] at hD;rw[hnle] at hWl;rw[hl,hnle] at hnl;have hnli:(nl:Int)<=1000:=(by omega);have HBr:Hid (∀ y,Below wr.heap.size wr y->Below w1.heap.size w1 y):=qAq (fun y hy=>aB HI3.out.2 hy);have HDX:Hid (∀ y,Below w1.heap.size w1 y->bd<y.heap.size/\y.cell? ⟨bd,od+i*2,none⟩=some (.slice pl nl cl)/\y.cell? ⟨bd,od+i*2+1,none⟩=some (.string rt)):=qAq (fun y hy=>hD y (HB.out y hy));have HWX:=qAq hWl
  have HCQ:Hid (∀ y,Below wr.heap.size wr y->Calls Tryz.prog 78 #[.agg #[.string nm,.slice (some ⟨bc,oc,none⟩) m kc,.string key,.slice (some ⟨bd,od,none⟩) nd kd],.string rt] y fun e w'=>e=.returned (.int .i64 (rc:Int))/\Below y.heap.size y w'):=qAq (fun y hy=>by
   have:=HCO.out y (HB.out y (HBr.out y hy)) rt
   rw[<- hrt,hrc] at this;rw[<- hrt];exact this)
  have hbr:∀ q,brokenB T0 d r B=q->B.any (fun a=>(l.all fun x=>likeP T0 x r a)&&!likeP T0 rt r a)=q:=(fun q h=>by rw[<- h,<- hrt,<- hl];rfl);have HBRK:Hid (brokenB T0 d r B=B.any (fun a=>(l.all fun x=>likeP T0 x r a)&&!likeP T0 rt r a)):=qAq (hbr _ rfl).symm;have HD0:=qAq (qBq hd (qBq hrt (qBq hl (qBq hnle (qBq hrc hdok)))));clear hno hB f0 hD hWd hWl hdok hd hrc hrt hl hnle hbr;go_upto_region 24 with fail;clear f3 fl;refine Par.wp_region_par 9 [.agg #[.string nm,.slice (some ⟨bc,oc,none⟩) m kc,.string key,.slice (some ⟨bd,od,none⟩) nd kd],.pointer (some ⟨g,3,none⟩),.slice (some ⟨bd,od,none⟩) nd kd,.int .i64 ((i:Int)),.pointer (some ⟨bd,od+i*2,none⟩),.pointer (some ⟨bd,od+i*2+1,none⟩),.string rt,.int .i64 ((rc:Int)),.int .i64 ((rc:Int))] (fun y=>Below wr.heap.size wr y) ?A7 ?hm7 ?hB7 ?hA7 ((aF wr)) ?hop7 ?hT7
  case hm7=>kernel_rfl
  case hB7=>kernel_rfl
  case hA7 =>
   simp only[Par.putA,Par.dstAt,Act.put,qDq,qEq,qFq,qLq,qGq,qHq,qIq,qJq,qKq];rfl
  case hop7 =>
   simp only[qMq,List.take_zero,Par.GiveAll,and_true];and_intros<;>intro w' hR<;>have HR:=qAq hR
   have z0:=aA (HK.out w' (HBr.out w' hR)) 0;have z1:=aA (HK.out w' (HBr.out w' hR)) 1;have z2:=aA (HK.out w' (HBr.out w' hR)) 2;have z3:=aA (HK.out w' (HBr.out w' hR)) 3;have zl:=aC (HK.out w' (HBr.out w' hR));rotate_left;have zl:=aC (HK.out w' (HBr.out w' hR));rotate_left;have z0:=aA (HK.out w' (HBr.out w' hR)) 3;rotate_left 3;have zl:=(HDX.out w' (HBr.out w' hR)).1;rotate_left;have z0:=(HDX.out w' (HBr.out w' hR)).2.2;rotate_left
   ·clear hR;simp only[Par.Gives];go_simp;exact (HCQ.out w' HR.out).mono (fun e w'' ⟨he,hb⟩=>⟨he,aB HR.out hb⟩)
   rotate_left
   all_goals(clear hR;simp only[Par.Gives];go_simp;all_goals exact HR.out)
  intro w' hR;simp only[qNq,List.drop_nil];have HA:=qAq (HBr.out _ hR);clear hR;go_wp2_with fail;go_loopg [18] (k+1) (fun gh jv y=>∃ (j:Nat),jv=.int .i64 (j:Int)/\j<=k/\k+1<=j+gh/\(∀ x,x<j->((l.all fun n=>likeP T0 n r (B.getD x []))&&!likeP T0 rt r (B.getD x []))=false)/\Below w1.heap.size w1 y)
  case atStart=>exact⟨0,rfl,Nat.zero_le _,by omega,fun i hi=>by omega,HA.out⟩
  obtain⟨j,rfl,hj,hg2,hno,hB⟩:=hrel;have HI4:=qAq (qBq hno hB);by_cases hlk:j<k
  ·have hji:(j:Int)<(k:Int):=(by omega);have hjn:(j:Int)<(na:Int):=(by omega);obtain⟨gm,cm,hRM⟩:=HBR.out j hlk;obtain⟨a,ha⟩:∃ a,B.getD j []=a:=⟨_,rfl⟩;rw[ha] at hRM;have HR1:Hid (∀ y,Below w1.heap.size w1 y->RowW y gr j gm cm m a):=qAq (fun y hy=>hRM y (HB.out y hy));have HAE:=qAq ha;clear hno hB hRM ha;go_wp2_with fail;go_loopg [19,20] (nl+1) (fun gh lv xv y=>∃ (x:Nat),xv=.int .i64 (x:Int)/\x<=nl/\nl+1<=x+gh/\lv=.bool (andP T0 l x r a)/\Below w1.heap.size w1 y)
   case atStart=>exact⟨0,rfl,Nat.zero_le _,by omega,by rw[aBO],HI4.out.2⟩
   obtain⟨x,rfl,hx,hgx,rfl,hB⟩:=hrel;have f0:=HK.out wr hB;have f3:=aA f0 3;have fl:=aC f0;obtain⟨dl,d0,d1⟩:=HDX.out wr hB;obtain⟨lb,hlb⟩:∃ b,andP T0 l x r a=b:=⟨_,rfl⟩;rw[hlb];by_cases hxl:x<nl
   ·have hxi:(x:Int)<(nl:Int):=(by omega);obtain⟨bw,ow,rfl,hw⟩:=HWX.out x hxl
    have hmem:l.getD x e0∈l:=by
     have:x<l.length:=(by rw[HD0.out.2.2.2.1];exact hxl);rw[List.getD_eq_getElem?_getD,List.getElem?_eq_getElem this];exact List.getElem_mem this
    obtain⟨lc,hlc,hlcl⟩:=HD0.out.2.2.2.2.2.l _ (by rw[HD0.out.2.2.1];exact hmem);rw[HF.out.2.2.1] at hlcl;have hsucc:=aBP (t:=T0) (r:=r) (a:=a) (l:=l) (k:=x) (by rw[HD0.out.2.2.2.1];exact hxl);rw[hlb] at hsucc;have hle:=rR (r:=r) (a:=a) hlc;obtain⟨wd,hwd⟩:∃ v,l.getD x e0=v:=⟨_,rfl⟩;rw[hwd] at hw hlc hsucc hle;obtain⟨q,hq⟩:∃ q,likeP T0 wd r a=q:=⟨_,rfl⟩;rw[hq] at hsucc hle;obtain⟨v,hv⟩:∃ v,a.getD lc z3=v:=⟨_,rfl⟩;obtain⟨u,hu⟩:∃ v,r.getD lc z3=v:=⟨_,rfl⟩;rw[hv,hu] at hle;have hlci:(lc:Int)<(m:Int):=(by omega);obtain⟨w5,hw5⟩:∃ z,z=wr:=⟨_,rfl⟩;have hB5:=hB;rw[<- hw5] at hB5;have HB5:Hid (∀ y,Below w5.heap.size w5 y->Below w1.heap.size w1 y):=qAq (fun y hy=>aB hB5 hy);have HWD:Hid (∀ y,Below w5.heap.size w5 y->bw<y.heap.size/\y.cell? ⟨bw,ow+x,none⟩=some (.string wd)):=qAq (fun y hy=>hw y (HB.out y (HB5.out y hy)))
    have HCL:Hid (∀ y,Below w5.heap.size w5 y->Calls Tryz.prog 78 #[.agg #[.string nm,.slice (some ⟨bc,oc,none⟩) m kc,.string key,.slice (some ⟨bd,od,none⟩) nd kd],.string wd] y fun e w'=>e=.returned (.int .i64 (lc:Int))/\Below y.heap.size y w'):=qAq (fun y hy=>by
     have:=HCO.out y (HB.out y (HB5.out y hy)) wd
     rw[hlc] at this;exact this)
    have HEQ2:Hid (∀ w,Calls Tryz.prog 86 #[.agg #[.int .i64 (v.1),.int .i64 (v.2.1),.string (v.2.2)],.agg #[.int .i64 (u.1),.int .i64 (u.2.1),.string (u.2.2)]] w fun e w'=>e=.returned (.bool q)/\Below w.heap.size w w'):=qAq (fun w=>by rw[<- hle];exact HEQ.out v u w);have HV1:Hid (∀ y,Below w1.heap.size w1 y->y.cell? ⟨gm,lc*3,none⟩=some (.int .i64 v.1)/\y.cell? ⟨gm,lc*3+1,none⟩=some (.int .i64 v.2.1)/\y.cell? ⟨gm,lc*3+2,none⟩=some (.string v.2.2)):=qAq (fun y hy=>by rw[<- hv];exact (HR1.out y hy).v lc hlcl);have HV2:Hid (∀ y,Below w1.heap.size w1 y->y.cell? ⟨gv,lc*3,none⟩=some (.int .i64 u.1)/\y.cell? ⟨gv,lc*3+1,none⟩=some (.int .i64 u.2.1)/\y.cell? ⟨gv,lc*3+2,none⟩=some (.string u.2.2)):=qAq (fun y hy=>by rw[<- hu];exact (HOW.out y (HB.out y hy)).v lc hlcl);have HSU:=qAq hsucc;have HB6:=qAq hB;clear hB f0 hw hmem hlc hsucc hle hwd hq hv hu hB5 d1 hlb;subst hw5;go_upto_region 32 with fail;clear f3 fl dl d0;refine Par.wp_region_par 12 [.agg #[.string nm,.slice (some ⟨bc,oc,none⟩) m kc,.string key,.slice (some ⟨bd,od,none⟩) nd kd],.pointer (some ⟨g,3,none⟩),.slice (some ⟨bd,od,none⟩) nd kd,.int .i64 ((i:Int)),.pointer (some ⟨bd,od+i*2,none⟩),.pointer (some ⟨bd,od+i*2,none⟩),.slice (some ⟨bw,ow,none⟩) nl cl,.int .i64 ((x:Int)),.pointer (some ⟨bw,ow+x,none⟩),.string wd,.int .i64 ((lc:Int)),.int .i64 ((lc:Int))] (fun y=>Below w5.heap.size w5 y) ?A8 ?hm8 ?hB8 ?hA8 ((aF w5)) ?hop8 ?hT8
    case hm8=>kernel_rfl
    case hB8=>kernel_rfl
    case hA8 =>
     simp only[Par.putA,Par.dstAt,Act.put,qDq,qEq,qFq,qLq,qGq,qHq,qIq,qJq,qKq];rfl
    case hop8 =>
     simp only[qMq,List.take_zero,Par.GiveAll,and_true];and_intros<;>intro w' hR<;>have HR:=qAq hR
     have z0:=aA (HK.out w' (HB5.out w' hR)) 0;have z1:=aA (HK.out w' (HB5.out w' hR)) 1;have z2:=aA (HK.out w' (HB5.out w' hR)) 2;have z3:=aA (HK.out w' (HB5.out w' hR)) 3;have zl:=aC (HK.out w' (HB5.out w' hR));rotate_left;have zl:=aC (HK.out w' (HB5.out w' hR));rotate_left;have z0:=aA (HK.out w' (HB5.out w' hR)) 3;rotate_left 3;have zl:=(HDX.out w' (HB5.out w' hR)).1;rotate_left;have z0:=(HDX.out w' (HB5.out w' hR)).2.1;rotate_left 3;have z0:=(HWD.out w' hR).2;rotate_left
     ·clear hR;simp only[Par.Gives];go_simp;exact (HCL.out w' HR.out).mono (fun e w'' ⟨he,hb⟩=>⟨he,aB HR.out hb⟩)
     rotate_left
     all_goals(clear hR;simp only[Par.Gives];go_simp;all_goals exact HR.out)
    intro w' hR;simp only[qNq,List.drop_nil];have HA5:=qAq (HB5.out _ hR);clear hR;obtain⟨w6,rfl⟩:∃ z,z=w':=⟨_,rfl⟩;have HB7:Hid (∀ y,Below w6.heap.size w6 y->Below w1.heap.size w1 y):=qAq (fun y hy=>aB HA5.out hy);have HX7:Hid (∀ y,Below w6.heap.size w6 y->_):=qAq (fun y hy=>HX.out y (HB.out y (HB7.out y hy)));cases lb
    ·go_upto_region 33 with fail;refine Par.wp_region_par 22 [.bool false,.bool false,undef,undef,undef,undef,undef,undef,undef,undef,undef,undef,undef,undef,undef,undef,undef,undef,undef,undef,undef,.bool false] (fun y=>Below w6.heap.size w6 y) ?A9 ?hm9 ?hB9 ?hA9 ((aF w6)) ?hop9 ?hT9
     case hm9=>kernel_rfl
     case hB9=>kernel_rfl
     case hA9 =>
      simp only[Par.putA,Par.dstAt,Act.put,qDq,qEq,qFq,qLq,qGq,qHq,qIq,qJq,qKq];rfl
     case hop9 =>
      simp only[qMq,List.take_zero,Par.GiveAll,and_true];and_intros<;>intro w' hR<;>have HR:=qAq hR
      rotate_left 22
      all_goals(clear hR;simp only[Par.Gives];go_simp;all_goals exact HR.out)
     intro w' hR;simp only[qNq,List.drop_zero];have HA6:=qAq (HB7.out _ hR);clear hR;go_wp2_with fail;go_roundg (nl-x)
     case measure=>omega
     exact⟨x+1,by go_num,by omega,by omega,by rw[HSU.out,Bool.false_and],HA6.out⟩
    go_upto_region 33 with fail;refine Par.wp_region_par 22 [.bool true,.bool true,.pointer (some ⟨b,0,none⟩),.pointer (some ⟨b,0,none⟩),.pointer (some ⟨b,1,none⟩),.slice (some ⟨go,0,none⟩) nt co,.int .i64 ((t:Int)),.pointer (some ⟨go,t,none⟩),.slice (some ⟨gr,0,none⟩) na cr,.int .i64 ((j:Int)),.pointer (some ⟨gr,j*2,none⟩),.pointer (some ⟨gr,j*2+1,none⟩),.slice (some ⟨gm,0,none⟩) m cm,.int .i64 ((lc:Int)),.pointer (some ⟨gm,lc*3,none⟩),.agg #[.int .i64 (v.1),.int .i64 (v.2.1),.string (v.2.2)],.slice (some ⟨gv,0,none⟩) m cv,.int .i64 ((lc:Int)),.pointer (some ⟨gv,lc*3,none⟩),.agg #[.int .i64 (u.1),.int .i64 (u.2.1),.string (u.2.2)],.bool q,.bool q] (fun y=>Below w6.heap.size w6 y) ?A10 ?hm10 ?hB10 ?hA10 ((aF w6)) ?hop10 ?hT10
    case hm10=>kernel_rfl
    case hB10=>kernel_rfl
    case hA10 =>
     simp only[Par.putA,Par.dstAt,Act.put,qDq,qEq,qFq,qLq,qGq,qHq,qIq,qJq,qKq];rfl
    case hop10 =>
     simp only[qMq,List.take_zero,Par.GiveAll,and_true];and_intros<;>intro w' hR<;>have HR:=qAq hR
     rotate_left 3;have zl:=(HX7.out w' hR).bl;rotate_left;have zl:=(HX7.out w' hR).bl;rotate_left;have x0:=(HX7.out w' hR).b1;rotate_left 3;have x0:=(HX7.out w' hR).o0;rotate_left 3;have zl:=(HR1.out w' (HB7.out _ hR)).rl;rotate_left;have x0:=(HR1.out w' (HB7.out _ hR)).r0;rotate_left 3;have x0:=(HV1.out w' (HB7.out _ hR)).1;have x1:=(HV1.out w' (HB7.out _ hR)).2.1;have x2:=(HV1.out w' (HB7.out _ hR)).2.2;rotate_left 4;have x0:=(HV2.out w' (HB7.out _ hR)).1;have x1:=(HV2.out w' (HB7.out _ hR)).2.1;have x2:=(HV2.out w' (HB7.out _ hR)).2.2;rotate_left
     ·clear hR;simp only[Par.Gives];go_simp;exact (HEQ2.out w').mono (fun e w'' ⟨he,hb⟩=>⟨he,aB HR.out hb⟩)
     rotate_left
     all_goals(clear hR;simp only[Par.Gives];go_simp;all_goals exact HR.out)
    intro w' hR;simp only[qNq,List.drop_zero];have HA6:=qAq (HB7.out _ hR);clear hR;go_wp2_with fail;go_roundg (nl-x)
    case measure=>omega
    exact⟨x+1,by go_num,by omega,by omega,by rw[HSU.out,Bool.true_and],HA6.out⟩
   obtain rfl:x=nl:=(by omega);have hall:(l.all fun n=>likeP T0 n r a)=lb:=(by rw[<- hlb,<- HD0.out.2.2.2.1,aDS]);obtain⟨v,hv⟩:∃ v,a.getD rc z3=v:=⟨_,rfl⟩;obtain⟨u,hu⟩:∃ v,r.getD rc z3=v:=⟨_,rfl⟩;have hle:=rR (r:=r) (a:=a) HD0.out.2.2.2.2.1;rw[HD0.out.2.1] at hle;obtain⟨q,hq⟩:∃ q,likeP T0 rt r a=q:=⟨_,rfl⟩;rw[hq,hv,hu] at hle;have HEQ2:Hid (∀ w,Calls Tryz.prog 86 #[.agg #[.int .i64 (v.1),.int .i64 (v.2.1),.string (v.2.2)],.agg #[.int .i64 (u.1),.int .i64 (u.2.1),.string (u.2.2)]] w fun e w'=>e=.returned (.bool q)/\Below w.heap.size w w'):=qAq (fun w=>by rw[<- hle];exact HEQ.out v u w);have HV1:Hid (∀ y,Below w1.heap.size w1 y->y.cell? ⟨gm,rc*3,none⟩=some (.int .i64 v.1)/\y.cell? ⟨gm,rc*3+1,none⟩=some (.int .i64 v.2.1)/\y.cell? ⟨gm,rc*3+2,none⟩=some (.string v.2.2)):=qAq (fun y hy=>by rw[<- hv];exact (HR1.out y hy).v rc hrcl);have HV2:Hid (∀ y,Below w1.heap.size w1 y->y.cell? ⟨gv,rc*3,none⟩=some (.int .i64 u.1)/\y.cell? ⟨gv,rc*3+1,none⟩=some (.int .i64 u.2.1)/\y.cell? ⟨gv,rc*3+2,none⟩=some (.string u.2.2)):=qAq (fun y hy=>by rw[<- hu];exact (HOW.out y (HB.out y hy)).v rc hrcl);have hfin:((l.all fun n=>likeP T0 n r a)&&!likeP T0 rt r a)=(lb&&!q):=(by rw[hall,hq]);have HFIN:=qAq hfin;have HA6:=qAq hB;obtain⟨w6,hw6⟩:∃ z,z=wr:=⟨_,rfl⟩;have hB5:=hB;rw[<- hw6] at hB5;have HB7:Hid (∀ y,Below w6.heap.size w6 y->Below w1.heap.size w1 y):=qAq (fun y hy=>aB hB5 hy);have HX7:Hid (∀ y,Below w6.heap.size w6 y->_):=qAq (fun y hy=>HX.out y (HB.out y (HB7.out y hy)));clear hB f0 hall hv hu hle hq hfin hB5 d1 hlb hlt;subst hw6
   have hnext:(lb&&!q)=false->∀ z,z<j+1->((l.all fun n=>likeP T0 n r (B.getD z []))&&!likeP T0 rt r (B.getD z []))=false:=fun h z hz=>by
    by_cases e:z=j
    ·subst e;rw[HAE.out,HFIN.out];exact h
    exact HI4.out.1 z (by omega)
   have HNX:=qAq hnext;clear hnext;cases lb
   ·go_upto_region 34 with fail;clear f3 fl dl d0;refine Par.wp_region_par 23 [.bool false,.bool false,undef,undef,undef,undef,undef,undef,undef,undef,undef,undef,undef,undef,undef,undef,undef,undef,undef,undef,undef,undef,.bool false] (fun y=>Below w6.heap.size w6 y) ?A11 ?hm11 ?hB11 ?hA11 ((aF w6)) ?hop11 ?hT11
    case hm11=>kernel_rfl
    case hB11=>kernel_rfl
    case hA11 =>
     simp only[Par.putA,Par.dstAt,Act.put,qDq,qEq,qFq,qLq,qGq,qHq,qIq,qJq,qKq];rfl
    case hop11 =>
     simp only[qMq,List.take_zero,Par.GiveAll,and_true];and_intros<;>intro w' hR<;>have HR:=qAq hR
     rotate_left 23
     all_goals(clear hR;simp only[Par.Gives];go_simp;all_goals exact HR.out)
    intro w' hR;simp only[qNq,List.drop_nil];have HA7:=qAq (HB7.out _ hR);clear hR;go_wp2_with fail;go_roundg (k-j)
    case measure=>omega
    exact⟨j+1,by go_num,by omega,by omega,HNX.out (by rw[Bool.false_and]),HA7.out⟩
   go_upto_region 34 with fail;clear f3 fl dl d0;refine Par.wp_region_par 23 [.bool true,.bool true,.pointer (some ⟨b,0,none⟩),.pointer (some ⟨b,0,none⟩),.pointer (some ⟨b,1,none⟩),.slice (some ⟨go,0,none⟩) nt co,.int .i64 ((t:Int)),.pointer (some ⟨go,t,none⟩),.slice (some ⟨gr,0,none⟩) na cr,.int .i64 ((j:Int)),.pointer (some ⟨gr,j*2,none⟩),.pointer (some ⟨gr,j*2+1,none⟩),.slice (some ⟨gm,0,none⟩) m cm,.int .i64 ((rc:Int)),.pointer (some ⟨gm,rc*3,none⟩),.agg #[.int .i64 (v.1),.int .i64 (v.2.1),.string (v.2.2)],.slice (some ⟨gv,0,none⟩) m cv,.int .i64 ((rc:Int)),.pointer (some ⟨gv,rc*3,none⟩),.agg #[.int .i64 (u.1),.int .i64 (u.2.1),.string (u.2.2)],.bool q,.bool (!q),.bool (!q)] (fun y=>Below w6.heap.size w6 y) ?A12 ?hm12 ?hB12 ?hA12 ((aF w6)) ?hop12 ?hT12
   case hm12=>kernel_rfl
   case hB12=>kernel_rfl
   case hA12 =>
    simp only[Par.putA,Par.dstAt,Act.put,qDq,qEq,qFq,qLq,qGq,qHq,qIq,qJq,qKq];rfl
   case hop12 =>
    simp only[qMq,List.take_zero,Par.GiveAll,and_true];and_intros<;>intro w' hR<;>have HR:=qAq hR
    rotate_left 3;have zl:=(HX7.out w' hR).bl;rotate_left;have zl:=(HX7.out w' hR).bl;rotate_left;have x0:=(HX7.out w' hR).b1;rotate_left 3;have x0:=(HX7.out w' hR).o0;rotate_left 3;have zl:=(HR1.out w' (HB7.out _ hR)).rl;rotate_left;have x0:=(HR1.out w' (HB7.out _ hR)).r0;rotate_left 3;have x0:=(HV1.out w' (HB7.out _ hR)).1;have x1:=(HV1.out w' (HB7.out _ hR)).2.1;have x2:=(HV1.out w' (HB7.out _ hR)).2.2;rotate_left 4;have x0:=(HV2.out w' (HB7.out _ hR)).1;have x1:=(HV2.out w' (HB7.out _ hR)).2.1;have x2:=(HV2.out w' (HB7.out _ hR)).2.2;rotate_left
    ·clear hR;simp only[Par.Gives];go_simp;exact (HEQ2.out w').mono (fun e w'' ⟨he,hb⟩=>⟨he,aB HR.out hb⟩)
    rotate_left 2
    all_goals(clear hR;simp only[Par.Gives];go_simp;all_goals exact HR.out)
   intro w' hR;simp only[qNq,List.drop_nil];have HA7:=qAq (HB7.out _ hR);clear hR;cases q
   ·go_upto_region 35 with fail;obtain⟨w8,rfl⟩:∃ z,z=w':=⟨_,rfl⟩;refine Par.wp_region_par 8 [.pointer (some ⟨g,3,none⟩),.slice (some ⟨bd,od,none⟩) nd kd,.int .i64 ((i:Int)),.pointer (some ⟨bd,od+i*2,none⟩),.pointer (some ⟨bd,od+i*2+1,none⟩),.string rt,.int .i64 10,.string rt] (fun y=>Below w8.heap.size w8 y) ?A13 ?hm13 ?hB13 ?hA13 ((aF w8)) ?hop13 ?hT13
    case hm13=>kernel_rfl
    case hB13=>kernel_rfl
    case hA13 =>
     simp only[Par.putA,Par.dstAt,Act.put,qDq,qEq,qFq,qLq,qGq,qHq,qIq,qJq,qKq];rfl
    case hop13 =>
     simp only[qMq,List.take_zero,Par.GiveAll,and_true];and_intros<;>intro w' hR<;>have HR:=qAq hR
     have zl:=aC (HK.out w' (aB HA7.out hR));rotate_left;have z0:=aA (HK.out w' (aB HA7.out hR)) 3;rotate_left 3;have zl:=(HDX.out w' (aB HA7.out hR)).1;rotate_left;have z0:=(HDX.out w' (aB HA7.out hR)).2.2;rotate_left 3
     all_goals(clear hR;simp only[Par.Gives];go_simp;all_goals exact HR.out)
    intro w' hR;simp only[qNq,List.drop_nil];have HR2:=qAq (HB.out _ (aB HA7.out hR));clear hR;go_wp2_with fail;go_ret2
    have hb0:brokenB T0 d r B=true:=by
     rw[HBRK.out];exact aAs (p:=fun a=>(l.all fun n=>likeP T0 n r a)&&!likeP T0 rt r a) (by rw[HF.out.2.2.2.2.2.1];exact hlk) (by rw[HAE.out,HFIN.out];rfl)
    have e:=uQ (ts:=ts) (As:=As) HNUL.out HKB.out.1 HREF.out hil (by rw[HD0.out.1];exact hb0) HI3.out.1;rw[HD0.out.1,HD0.out.2.1] at e;exact⟨cQ e,HR2.out⟩
   go_wp2_with fail;go_roundg (k-j)
   case measure=>omega
   exact⟨j+1,by go_num,by omega,by omega,HNX.out rfl,HA7.out⟩
  obtain rfl:j=k:=(by omega);clear hno hB;go_wp2_with fail;go_roundg (nd-i)
  case measure=>omega
  refine⟨i+1,by go_num,by omega,by omega,fun x hx=>?_,HI4.out.2⟩;by_cases e:x=i
  ·subst e;rw[HD0.out.1,HBRK.out];exact aDR (p:=fun a=>(l.all fun n=>likeP T0 n r a)&&!likeP T0 rt r a) HF.out.2.2.2.2.2.1 HI4.out.1
  exact HI3.out.1 x (by omega)
 obtain rfl:i=nd:=(by omega);have e:=pW (ts:=ts) (As:=As) HNUL.out HKB.out.1 HREF.out (fun k hk=>HI3.out.1 k (by rw[<- HF.out.2.2.2.1];exact hk));have HE:=qAq (cQ e);clear hno hB e f0;go_wp2_with fail;go_ret2;exact⟨HE.out,HB.out _ HI3.out.2⟩
