import Derived.Test.YthlccadnojnkaaaGreatZk43
import Derived.Test.YthlccadnojnkaaaGreatZk35
import Derived.Test.YthlccadnojnkaaaGreatZk40
set_option maxHeartbeats 8000000
set_option maxRecDepth 100000
namespace Go.Proofs.YthlccadnojnkaaaGreat
open Go Go.RowKit Go.Proofs Co Co.S
structure FormOk (t:T):Prop where
 key:t.key=e0∨isCol t t.key
 deps:∀ d∈t.deps,DepOk t d
 nc:t.cols.length<=1000
 nd:t.deps.length<=1000
section
variable {ts:List T} {As:List (List R1)} {t:T} {r:List T3} {B:List (List T3)} {k:Nat}
def dAt (t:T) (k:Nat):D:=t.deps.getD k ⟨[],e0⟩
theorem yI (hk:k<t.deps.length):dAt t k=t.deps[k]:=by unfold dAt;rw[List.getD_eq_getElem?_getD,List.getElem?_eq_getElem hk];rfl
theorem oA (hk:k<t.cols.length):cAt t k=t.cols[k]:=by unfold cAt;rw[List.getD_eq_getElem?_getD,List.getElem?_eq_getElem hk];rfl
theorem pV (hk:k<t.cols.length) (h:nullB t r k=true) (h0:∀ j,j<k->nullB t r j=false):rowF ts As t r B=(7,(cAt t k).nm):=by
 unfold rowF;rw[aZ hk h h0]
theorem uO (h1:∀ j,j<t.cols.length->nullB t r j=false) (h:keyB t r B=true):rowF ts As t r B=(8,t.key):=by
 unfold rowF;rw[aV h1];simp only;rw[if_pos h]
theorem uP (h1:∀ j,j<t.cols.length->nullB t r j=false) (h2:keyB t r B=false) (hk:k<t.cols.length) (h:refB ts As t r k=true) (h0:∀ j,j<k->refB ts As t r j=false):rowF ts As t r B=(9,(cAt t k).nm):=by
 unfold rowF;rw[aV h1];simp only;rw[if_neg (by rw[h2];decide),aZ hk h h0]
theorem uQ (h1:∀ j,j<t.cols.length->nullB t r j=false) (h2:keyB t r B=false) (h3:∀ j,j<t.cols.length->refB ts As t r j=false) (hk:k<t.deps.length) (h:brokenB t (dAt t k) r B=true) (h0:∀ j,j<k->brokenB t (dAt t j) r B=false):rowF ts As t r B=(10,(dAt t k).right):=by
 unfold rowF;rw[aV h1];simp only;rw[if_neg (by rw[h2];decide),aV h3];simp only
 rw[aZ (p:=fun k=>brokenB t (t.deps.getD k ⟨[],e0⟩) r B) hk h h0];rfl
theorem pW (h1:∀ j,j<t.cols.length->nullB t r j=false) (h2:keyB t r B=false) (h3:∀ j,j<t.cols.length->refB ts As t r j=false) (h0:∀ j,j<t.deps.length->brokenB t (dAt t j) r B=false):rowF ts As t r B=(0,e0):=by
 unfold rowF;rw[aV h1];simp only;rw[if_neg (by rw[h2];decide),aV h3];simp only
 rw[aV (p:=fun k=>brokenB t (t.deps.getD k ⟨[],e0⟩) r B) h0]
end
theorem cQ {x:Int×ByteArray} {a:Int} {b:ByteArray} (h:x=(a,b)):Ending.returned (.tuple #[.int .i64 a,.string b])=.returned (.tuple #[.int .i64 x.1,.string x.2]):=by rw[h]
section
variable {w:World} {cv dv va rv:Value} {ts:List T} {As:List (List R1)} {t:T} {r:List T3} {B:List (List T3)} {dp:Nat}
theorem aBM (hT:RdT w cv dv t) (hf:FormOk t) (ha:InV TT w va r) (hR:RL w rv B) (hro:RowsOf t r B)
  (hbk:∀ w1,Below w.heap.size w w1->∀ (x:ByteArray) (u:T3),Calls Tryz.prog 100 #[.pointer (some ⟨dp,0,none⟩),.string x,.agg #[.int .i64 (u.1),.int .i64 (u.2.1),.string (u.2.2)]] w1 fun e w'=>e=.returned (.tuple #[.int .i64 ((byKeyP ts As x u).getD 0),.bool (byKeyP ts As x u).isSome])/\Below w1.heap.size w1 w') :
  Calls Tryz.prog 85 #[.pointer (some ⟨dp,0,none⟩),.agg #[.string t.nm,cv,.string t.key,dv],va,rv] w fun e w'=>e=.returned (.tuple #[.int .i64 (rowF ts As t r B).1,.string (rowF ts As t r B).2])/\Below w.heap.size w w':=by
 obtain⟨pc,cc,rfl,_,_⟩:=hT.c.slice;obtain⟨pd,cd,rfl,_,_⟩:=hT.d.slice;obtain⟨pa,ca,rfl,_,_⟩:=ha.slice;obtain⟨pr,cr,hrv⟩:∃ p c,rv=.slice p B.length c:=(by obtain⟨p,c,e,_⟩:=hR;exact⟨p,c,e⟩);have b1:=aD w (.cells #[.string t.nm,.slice pc t.cols.length cc,.string t.key,.slice pd t.deps.length cd] 77);have k1:=heap_alloc_new w (.cells #[.string t.nm,.slice pc t.cols.length cc,.string t.key,.slice pd t.deps.length cd] 77);obtain⟨w1,hw1⟩:∃ y,w.alloc (.cells #[.string t.nm,.slice pc t.cols.length cc,.string t.key,.slice pd t.deps.length cd] 77)=y:=⟨_,rfl⟩;obtain⟨F,hF⟩:∃ F,w.heap.size=F:=⟨_,rfl⟩;rw[hw1] at b1 k1;rw[hF] at k1;have HKT:Hid (∀ y,Below w1.heap.size w1 y->Calls Tryz.prog 120 #[.agg #[.string t.nm,.slice pc t.cols.length cc,.string t.key,.slice pd t.deps.length cd],.slice pa r.length ca,rv] y fun e w'=>e=.returned (.bool (keyB t r B))/\Below y.heap.size y w'):=qAq (fun y hy=>rQ (hT.later (aB b1 hy)) (ha.later (aB b1 hy)) (hR.later (aB b1 hy)) hf.key hro)
 have HCOL:Hid (∀ y,Below w1.heap.size w1 y->∀ k (hk:k<t.cols.length),∃ b off,pc=some ⟨b,off,none⟩/\b<y.heap.size/\y.cell? ⟨b,off+k*4,none⟩=some (.string (cAt t k).nm)/\y.cell? ⟨b,off+k*4+1,none⟩=some (.int .i64 (cAt t k).kd)/\y.cell? ⟨b,off+k*4+2,none⟩=some (.bool (cAt t k).mu)/\y.cell? ⟨b,off+k*4+3,none⟩=some (.string (cAt t k).tgt)):=qAq (fun y hy k hk=>by
  rw[oA hk];obtain⟨b,off,e,h1,h2,h3,h4,h5⟩:=RdC.col (hT.c.later (aB b1 hy)) hk;exact⟨b,off,e,h1,h2,h3,h4,h5⟩)
 have HVAL:Hid (∀ y,Below w1.heap.size w1 y->∀ k (hk:k<r.length),∃ b off,pa=some ⟨b,off,none⟩/\∀ y',Below y.heap.size y y'->y'.cell? ⟨b,off+k*3,none⟩=some (.int .i64 (r.getD k z3).1)/\y'.cell? ⟨b,off+k*3+1,none⟩=some (.int .i64 (r.getD k z3).2.1)/\y'.cell? ⟨b,off+k*3+2,none⟩=some (.string (r.getD k z3).2.2)/\b<y'.heap.size):=qAq (fun y hy k hk=>(ha.later (aB b1 hy)).cells hk);have HLD:Hid (∀ y,Below w1.heap.size w1 y->∀ (x:ByteArray) (u:T3),Calls Tryz.prog 121 #[.pointer (some ⟨dp,0,none⟩),.string x,.agg #[.int .i64 (u.1),.int .i64 (u.2.1),.string (u.2.2)]] y fun e w'=>e=.returned (.bool (decide (u.1≠0)&&(byKeyP ts As x u).isNone))/\Below y.heap.size y w'):=qAq (fun y hy x u=>yH (fun y2 hy2=>hbk y2 (aB (aB b1 hy) hy2) x u))
 have HDEP:Hid (∀ y,Below w1.heap.size w1 y->∀ k (hk:k<t.deps.length),∃ b off pl cl,pd=some ⟨b,off,none⟩/\b<y.heap.size/\y.cell? ⟨b,off+k*2,none⟩=some (.slice pl (dAt t k).left.length cl)/\y.cell? ⟨b,off+k*2+1,none⟩=some (.string (dAt t k).right)/\∀ y',Below y.heap.size y y'->Calls Tryz.prog 122 #[.agg #[.string t.nm,.slice pc t.cols.length cc,.string t.key,.slice pd t.deps.length cd],.agg #[.slice pl (dAt t k).left.length cl,.string (dAt t k).right],.slice pa r.length ca,rv] y' fun e w'=>e=.returned (.bool (brokenB t (dAt t k) r B))/\Below y'.heap.size y' w'):=qAq (fun y hy k hk=>by
  rw[yI hk];obtain⟨b,off,lv,e,h1,h2,h3,h4⟩:=RdD.dep (hT.d.later (aB b1 hy)) hk;obtain⟨pl,cl,rfl,_,_⟩:=h4.slice;exact⟨b,off,pl,cl,e,h1,h2,h3,fun y' hy'=>yG (hT.later (aB (aB b1 hy) hy')) (h4.later hy') (hf.deps _ (List.getElem_mem hk)) (ha.later (aB (aB b1 hy) hy')) (hR.later (aB (aB b1 hy) hy')) hro⟩)
 have HK:Hid (∀ y,Below w1.heap.size w1 y->y.heap[F]?=some (.cells #[.string t.nm,.slice pc t.cols.length cc,.string t.key,.slice pd t.deps.length cd] 77)):=qAq (fun y hy=>aE hy k1);subst hrv;obtain⟨nc,hnc⟩:∃ n,t.cols.length=n:=⟨_,rfl⟩;obtain⟨nd,hnd⟩:∃ n,t.deps.length=n:=⟨_,rfl⟩;obtain⟨nb,hnb⟩:∃ n,B.length=n:=⟨_,rfl⟩;have hnci:(nc:Int)<=1000:=(by have:=hf.nc;omega);have hndi:(nd:Int)<=1000:=(by have:=hf.nd;omega);have HN:=qAq (qBq hnc (qBq hnd (qBq hro.la hnb)));rw[hro.la,hnc,hnd,hnb];simp only[hro.la,hnc,hnd,hnb] at HKT HDEP HK;rw[hnc,hnd] at hw1;obtain⟨nm0,hnm0⟩:∃ x,t.nm=x:=⟨_,rfl⟩;obtain⟨key0,hkey0⟩:∃ x,t.key=x:=⟨_,rfl⟩;have HNM:=qAq hkey0;rw[hnm0,hkey0];rw[hnm0,hkey0] at hw1;simp only[hnm0,hkey0] at HKT HDEP HK;have HW:=qAq (qBq hw1 (qBq hF b1));clear hT hf ha hR hro hbk b1 k1 hw1 hF hnc hnd hnb hnm0 hkey0;go_enter Tryz.func85,Tryz.ntmps85;go_upto_region 1 with fail;rw[HW.out.1,HW.out.2.1];have x0:=HK.out w1 (Below.refl _ _);have x1:=aA x0 1;have xl:=aC x0;clear x0;go_wp2_with fail;clear x1 xl;go_loopg [19] (nc+1) (fun gh jv y=>∃ (j:Nat),jv=.int .i64 (j:Int)/\j<=nc/\nc+1<=j+gh/\(∀ i,i<j->nullB t r i=false)/\Below w1.heap.size w1 y)
 case atStart=>exact⟨0,rfl,Nat.zero_le _,by omega,fun i hi=>by omega,Below.refl _ _⟩
 obtain⟨j,rfl,hj,hg,hno,hB⟩:=hrel;have HI:=qAq (qBq hno hB);by_cases hlt:j<nc
 ·have hjl:j<t.cols.length:=(by rw[HN.out.1];exact hlt);have hji:(j:Int)<(nc:Int):=(by omega);obtain⟨b,off,rfl,bl,c0,c1,c2,c3⟩:=HCOL.out wr hB j hjl;have hjr:j<r.length:=(by rw[HN.out.2.2.1];exact hjl);obtain⟨gv,ov,rfl,hval⟩:=HVAL.out wr hB j hjr;obtain⟨c,hcc⟩:∃ c,cAt t j=c:=⟨_,rfl⟩;obtain⟨u,hu⟩:∃ u,r.getD j z3=u:=⟨_,rfl⟩;rw[hcc] at c0 c1 c2 c3;rw[hu] at hval;have hnb:nullB t r j=(c.mu&&decide (u.1=0)):=(by unfold nullB;rw[hcc,hu]);have b3:=aD wr (.cells #[.string c.nm,.int .i64 c.kd,.bool c.mu,.string c.tgt] 95);have k3:=heap_alloc_new wr (.cells #[.string c.nm,.int .i64 c.kd,.bool c.mu,.string c.tgt] 95);obtain⟨w3,hw3⟩:∃ y,wr.alloc (.cells #[.string c.nm,.int .i64 c.kd,.bool c.mu,.string c.tgt] 95)=y:=⟨_,rfl⟩;obtain⟨V,hV⟩:∃ V,wr.heap.size=V:=⟨_,rfl⟩;rw[hw3] at b3 k3;rw[hV] at k3;have hv3:=hval w3 b3;have z2:=aA k3 2;have z0:=aA k3 0;have zl:=aC k3;have v0:=hv3.1;have vl:=hv3.2.2.2;have HX:=qAq (qBq hw3 (qBq hV (qBq k3 (qBq (aB HI.out.2 b3) (qBq hnb hcc)))));clear hno hB hval b3 k3 hw3 hV hv3 hnb hcc hu;go_upto_region 4 with fail;rw[HX.out.1,HX.out.2.1];clear c0 c1 c2 c3 bl;obtain⟨mu,hmu⟩:∃ m,c.mu=m:=⟨_,rfl⟩;rw[hmu] at z2;have HMU:=qAq hmu;clear hmu
  have hnext:nullB t r j=false->∀ i,i<j+1->nullB t r i=false:=fun h i hi=>by
   by_cases e:i=j
   ·subst e;exact h
   exact HI.out.1 i (by omega)
  have HNX:=qAq hnext;clear hnext;cases mu
  ·have hf0:nullB t r j=false:=(by rw[HX.out.2.2.2.2.1,HMU.out];rfl);have HF0:=qAq hf0;clear hf0;go_wp2_with fail;go_roundg (nc-j)
   case measure=>omega
   exact⟨j+1,by go_num,by omega,by omega,HNX.out HF0.out,HX.out.2.2.2.1⟩
  by_cases hu0:u.1=0
  ·have hf0:nullB t r j=true:=(by rw[HX.out.2.2.2.2.1,HMU.out,decide_eq_true hu0];rfl);rw[hu0] at v0;have HF0:=qAq hf0;clear hf0 hu0;go_upto_region 5 with fail;clear v0 vl z2;refine Par.wp_region_par 4 [.pointer (some ⟨V,0,none⟩),.string c.nm,.int .i64 7,.string c.nm] (fun y=>Below w3.heap.size w3 y) ?A1 ?hm1 ?hB1 ?hA1 ((aF w3)) ?hop1 ?hT1
   case hm1=>kernel_rfl
   case hB1=>kernel_rfl
   case hA1 =>
    simp only[Par.putA,Par.dstAt,Act.put,qDq,qEq,qFq,qLq,qGq,qHq,qIq,qJq,qKq];rfl
   case hop1 =>
    simp only[qMq,List.take_zero,Par.GiveAll,and_true];and_intros<;>intro w' hR<;>have HR:=qAq hR
    have zl:=aC (aE hR HX.out.2.2.1);rotate_left;have z0:=aA (aE hR HX.out.2.2.1) 0;rotate_left 3
    all_goals(clear hR;simp only[Par.Gives];go_simp;all_goals exact HR.out)
   intro w' hR;simp only[qNq,List.drop_nil];have HR:=qAq (aB HX.out.2.2.2.1 hR);clear hR z0 zl;go_wp2_with fail;go_ret2;have e:=pV (ts:=ts) (As:=As) (B:=B) (by rw[HN.out.1];exact hlt) HF0.out HI.out.1;rw[HX.out.2.2.2.2.2] at e;exact⟨cQ e,aB HW.out.2.2 HR.out⟩
  have hf0:nullB t r j=false:=(by rw[HX.out.2.2.2.2.1,HMU.out,decide_eq_false hu0];rfl);have hb0:(u.1==0)=false:=beq_eq_false_iff_ne.2 hu0;have HF0:=qAq hf0;clear hf0 hu0;go_wp2_with fail;go_roundg (nc-j)
  case measure=>omega
  exact⟨j+1,by go_num,by omega,by omega,HNX.out HF0.out,HX.out.2.2.2.1⟩
 obtain rfl:j=nc:=(by omega);have hnone:∀ i,i<t.cols.length->nullB t r i=false:=(fun i hi=>HI.out.1 i (by rw[<- HN.out.1];exact hi));have HNUL:=qAq hnone;clear hno hB hnone hlt hj hg;have y0':=HK.out wr HI.out.2;have y0:=aA y0' 0;have y1:=aA y0' 1;have y2:=aA y0' 2;have y3:=aA y0' 3;have yl:=aC y0';have hkt:=HKT.out wr HI.out.2;clear y0';obtain⟨kb,hkb⟩:∃ b,keyB t r B=b:=⟨_,rfl⟩;rw[hkb] at hkt;have HKB:=qAq hkb;clear hkb;cases kb
 ·go_upto_region 9 with (go_at_call 120;(with_reducible refine hkt.mono ?_);rintro e w2 ⟨rfl,hb2⟩;have H2:=qAq (aB HI.out.2 hb2);clear hkt hb2);clear y0 y1 y2 y3 yl;have a1:=aA (HK.out w2 H2.out) 1;have al:=aC (HK.out w2 H2.out);go_wp2_with fail;clear a1 al;go_loopg [46] (j+1) (fun gh jv y=>∃ (m:Nat),jv=.int .i64 (m:Int)/\m<=j/\j+1<=m+gh/\(∀ i,i<m->refB ts As t r i=false)/\Below w1.heap.size w1 y)
  case atStart=>exact⟨0,rfl,Nat.zero_le _,by omega,fun i hi=>by omega,H2.out⟩
  obtain⟨m,rfl,hm,hg,hno,hB⟩:=hrel;have HI2:=qAq (qBq hno hB);by_cases hlt:m<j
  ·have hml:m<t.cols.length:=(by rw[HN.out.1];exact hlt);have hmi:(m:Int)<(j:Int):=(by omega);obtain⟨b,off,rfl,bl,c0,c1,c2,c3⟩:=HCOL.out wr hB m hml;have hmr:m<r.length:=(by rw[HN.out.2.2.1];exact hml);obtain⟨gv,ov,rfl,hval⟩:=HVAL.out wr hB m hmr;obtain⟨c,hcc⟩:∃ c,cAt t m=c:=⟨_,rfl⟩;obtain⟨u,hu⟩:∃ u,r.getD m z3=u:=⟨_,rfl⟩;rw[hcc] at c0 c1 c2 c3;rw[hu] at hval;have hrb:refB ts As t r m=(decide (c.tgt≠e0)&&(decide (u.1≠0)&&(byKeyP ts As c.tgt u).isNone)):=(by unfold refB;rw[hcc,hu]);have b3:=aD wr (.cells #[.string c.nm,.int .i64 c.kd,.bool c.mu,.string c.tgt] 95);have k3:=heap_alloc_new wr (.cells #[.string c.nm,.int .i64 c.kd,.bool c.mu,.string c.tgt] 95);obtain⟨w3,hw3⟩:∃ y,wr.alloc (.cells #[.string c.nm,.int .i64 c.kd,.bool c.mu,.string c.tgt] 95)=y:=⟨_,rfl⟩;obtain⟨V,hV⟩:∃ V,wr.heap.size=V:=⟨_,rfl⟩;rw[hw3] at b3 k3;rw[hV] at k3;have HVL:Hid (∀ y,Below w3.heap.size w3 y->_):=qAq (fun y hy=>hval y (aB b3 hy));have HX:=qAq (qBq hw3 (qBq hV (qBq k3 (qBq (aB HI2.out.2 b3) (qBq hrb hcc)))))
   have hnext:refB ts As t r m=false->∀ i,i<m+1->refB ts As t r i=false:=fun h i hi=>by
    by_cases e:i=m
    ·subst e;exact h
    exact HI2.out.1 i (by omega)
   have HNX:=qAq hnext;clear hno hB hval b3 k3 hw3 hV hrb hcc hu hnext;go_upto_region 12 with fail;rw[HX.out.1,HX.out.2.1];clear c0 c1 c2 c3 bl;obtain⟨nm,hnm⟩:∃ x,c.nm=x:=⟨_,rfl⟩;obtain⟨tg,htg⟩:∃ x,c.tgt=x:=⟨_,rfl⟩;rw[hnm,htg] at HX;have HCN:=qAq (qBq hnm htg);clear hnm htg;by_cases ht0:tg=e0
   ·subst ht0;have hf0:refB ts As t r m=false:=(by rw[HX.out.2.2.2.2.1];rfl);have HF0:=qAq hf0;clear hf0;refine Par.wp_region_par 13 [.pointer (some ⟨V,3,none⟩),.string e0,.bool false,.bool false,undef,undef,undef,undef,undef,undef,undef,undef,.bool false] (fun y=>Below w3.heap.size w3 y) ?A2 ?hm2 ?hB2 ?hA2 ((aF w3)) ?hop2 ?hT2
    case hm2=>kernel_rfl
    case hB2=>kernel_rfl
    case hA2 =>
     simp only[Par.putA,Par.dstAt,Act.put,qDq,qEq,qFq,qLq,qGq,qHq,qIq,qJq,qKq];rfl
    case hop2 =>
     simp only[qMq,List.take_zero,Par.GiveAll,and_true];and_intros<;>intro w' hR<;>have HR:=qAq hR
     have zl:=aC (aE hR HX.out.2.2.1);rotate_left;have z0:=aA (aE hR HX.out.2.2.1) 3;rotate_left 12
     all_goals(clear hR;simp only[Par.Gives];go_simp;all_goals exact HR.out)
    intro w' hR;simp only[qNq,List.drop_nil];have HR:=qAq (aB HX.out.2.2.2.1 hR);clear hR;go_wp2_with fail;go_roundg (j-m)
    case measure=>omega
    exact⟨m+1,by go_num,by omega,by omega,HNX.out HF0.out,HR.out⟩
   have htl:=nZ ht0
   have HLQ:Hid (∀ y,Below w3.heap.size w3 y->Calls Tryz.prog 121 #[.pointer (some ⟨dp,0,none⟩),.string tg,.agg #[.int .i64 (u.1),.int .i64 (u.2.1),.string (u.2.2)]] y fun e w'=>e=.returned (.bool (refB ts As t r m))/\Below y.heap.size y w'):=qAq (fun y hy=>by
    have e:refB ts As t r m=(decide (u.1≠0)&&(byKeyP ts As tg u).isNone):=(by rw[HX.out.2.2.2.2.1,decide_eq_true ht0,Bool.true_and]);rw[e];exact HLD.out y (aB HX.out.2.2.2.1 hy) tg u)
   obtain⟨q,hq⟩:∃ q,refB ts As t r m=q:=⟨_,rfl⟩;rw[hq] at HLQ;have HQ:=qAq hq;clear hq ht0;refine Par.wp_region_par 13 [.pointer (some ⟨V,3,none⟩),.string tg,.bool true,.bool true,.pointer (some ⟨dp,0,none⟩),.pointer (some ⟨V,3,none⟩),.string tg,.slice (some ⟨gv,ov,none⟩) j ca,.int .i64 (m:Int),.pointer (some ⟨gv,ov+m*3,none⟩),.agg #[.int .i64 (u.1),.int .i64 (u.2.1),.string (u.2.2)],.bool q,.bool q] (fun y=>Below w3.heap.size w3 y) ?A3 ?hm3 ?hB3 ?hA3 ((aF w3)) ?hop3 ?hT3
   case hm3=>kernel_rfl
   case hB3=>kernel_rfl
   case hA3 =>
    simp only[Par.putA,Par.dstAt,Act.put,qDq,qEq,qFq,qLq,qGq,qHq,qIq,qJq,qKq];rfl
   case hop3 =>
    simp only[qMq,List.take_zero,Par.GiveAll,and_true];and_intros<;>intro w' hR<;>have HR:=qAq hR
    have zl:=aC (aE hR HX.out.2.2.1);rotate_left;have z0:=aA (aE hR HX.out.2.2.1) 3;rotate_left 4;have zl:=aC (aE hR HX.out.2.2.1);rotate_left;have z0:=aA (aE hR HX.out.2.2.1) 3;rotate_left 4;have z1:=(HVL.out w' hR).1;have z2:=(HVL.out w' hR).2.1;have z3':=(HVL.out w' hR).2.2.1;rotate_left
    ·clear hR;simp only[Par.Gives];go_simp;exact (HLQ.out w' HR.out).mono (fun e w'' ⟨he,hb⟩=>⟨he,aB HR.out hb⟩)
    rotate_left
    all_goals(clear hR;simp only[Par.Gives];go_simp;all_goals exact HR.out)
   intro w' hR;simp only[qNq,List.drop_nil];have HR:=qAq (aB HX.out.2.2.2.1 hR);have HC3:=qAq (aE hR HX.out.2.2.1);clear hR;cases q
   ·go_wp2_with fail;go_roundg (j-m)
    case measure=>omega
    exact⟨m+1,by go_num,by omega,by omega,HNX.out HQ.out,HR.out⟩
   go_upto_region 13 with fail;obtain⟨w4,rfl⟩:∃ x,x=w':=⟨_,rfl⟩;refine Par.wp_region_par 4 [.pointer (some ⟨V,0,none⟩),.string nm,.int .i64 9,.string nm] (fun y=>Below w4.heap.size w4 y) ?A4 ?hm4 ?hB4 ?hA4 ((aF w4)) ?hop4 ?hT4
   case hm4=>kernel_rfl
   case hB4=>kernel_rfl
   case hA4 =>
    simp only[Par.putA,Par.dstAt,Act.put,qDq,qEq,qFq,qLq,qGq,qHq,qIq,qJq,qKq];rfl
   case hop4 =>
    simp only[qMq,List.take_zero,Par.GiveAll,and_true];and_intros<;>intro w' hR<;>have HR:=qAq hR
    have zl:=aC (aE hR HC3.out);rotate_left;have z0:=aA (aE hR HC3.out) 0;rotate_left 3
    all_goals(clear hR;simp only[Par.Gives];go_simp;all_goals exact HR.out)
   intro w' hR;simp only[qNq,List.drop_nil];have HR2:=qAq (aB HR.out hR);clear hR;go_wp2_with fail;go_ret2;have e:=uP (ts:=ts) (As:=As) (B:=B) HNUL.out HKB.out (by rw[HN.out.1];exact hlt) HQ.out HI2.out.1;rw[HX.out.2.2.2.2.2,HCN.out.1] at e;exact⟨cQ e,aB HW.out.2.2 HR2.out⟩
  obtain rfl:m=j:=(by omega);have hnone:∀ i,i<t.cols.length->refB ts As t r i=false:=(fun i hi=>HI2.out.1 i (by rw[<- HN.out.1];exact hi));have HREF:=qAq hnone;have q0:=HK.out wr hB;have q3:=aA q0 3;have ql:=aC q0;clear hno hB hnone hlt hm hg q0;go_wp2_with fail;clear q3 ql;go_loopg [70] (nd+1) (fun gh jv y=>∃ (i:Nat),jv=.int .i64 (i:Int)/\i<=nd/\nd+1<=i+gh/\(∀ k,k<i->brokenB t (dAt t k) r B=false)/\Below w1.heap.size w1 y)
  case atStart=>exact⟨0,rfl,Nat.zero_le _,by omega,fun i hi=>by omega,HI2.out.2⟩
  obtain⟨i,rfl,hi,hg,hno,hB⟩:=hrel;have HI3:=qAq (qBq hno hB);by_cases hlt:i<nd
  ·have hil:i<t.deps.length:=(by rw[HN.out.2.1];exact hlt);have hii:(i:Int)<(nd:Int):=(by omega);obtain⟨b,off,pl,cl,rfl,bl,c0,c1,hcall⟩:=HDEP.out wr hB i hlt;obtain⟨nl,hnl⟩:∃ n,(dAt t i).left.length=n:=⟨_,rfl⟩;obtain⟨rt,hrt⟩:∃ n,(dAt t i).right=n:=⟨_,rfl⟩;obtain⟨q,hq⟩:∃ q,brokenB t (dAt t i) r B=q:=⟨_,rfl⟩;simp only[hnl,hrt,hq] at c0 c1 hcall;have b3:=aD wr (.cells #[.slice pl nl cl,.string rt] 124);have k3:=heap_alloc_new wr (.cells #[.slice pl nl cl,.string rt] 124);obtain⟨w3,hw3⟩:∃ y,wr.alloc (.cells #[.slice pl nl cl,.string rt] 124)=y:=⟨_,rfl⟩;obtain⟨V,hV⟩:∃ V,wr.heap.size=V:=⟨_,rfl⟩;rw[hw3] at b3 k3;rw[hV] at k3;have hc:=hcall w3 b3;have hb13:=aB HI3.out.2 b3;have f0:=HK.out w3 hb13;have y0:=aA f0 0;have y1:=aA f0 1;have y2:=aA f0 2;have y3:=aA f0 3;have yl:=aC f0;have z0:=aA k3 0;have z1:=aA k3 1;have zl:=aC k3;have HX:=qAq (qBq hw3 (qBq hV (qBq k3 (qBq hb13 (qBq hrt hq)))));clear hno hB hcall b3 k3 hw3 hV hnl hrt hq hb13 f0;go_upto_region 18 with fail;rw[HX.out.1,HX.out.2.1];clear c0 c1 bl;cases q
   ·go_wp2_with (go_at_call 122;(with_reducible refine hc.mono ?_);rintro e w4 ⟨rfl,hb4⟩;have H4:=qAq (aB HX.out.2.2.2.1 hb4);clear hc hb4);go_roundg (nd-i)
    case measure=>omega
    refine⟨i+1,by go_num,by omega,by omega,fun k hk=>?_,H4.out⟩;by_cases e:k=i
    ·subst e;exact HX.out.2.2.2.2.2
    exact HI3.out.1 k (by omega)
   go_upto_region 19 with (go_at_call 122;(with_reducible refine hc.mono ?_);rintro e w4 ⟨rfl,hb4⟩;have H4:=qAq (qBq (aB HX.out.2.2.2.1 hb4) (aE hb4 HX.out.2.2.1));clear hc hb4);clear y0 y1 y2 y3 yl z0 z1 zl;refine Par.wp_region_par 4 [.pointer (some ⟨V,1,none⟩),.string rt,.int .i64 10,.string rt] (fun y=>Below w4.heap.size w4 y) ?A5 ?hm5 ?hB5 ?hA5 ((aF w4)) ?hop5 ?hT5
   case hm5=>kernel_rfl
   case hB5=>kernel_rfl
   case hA5 =>
    simp only[Par.putA,Par.dstAt,Act.put,qDq,qEq,qFq,qLq,qGq,qHq,qIq,qJq,qKq];rfl
   case hop5 =>
    simp only[qMq,List.take_zero,Par.GiveAll,and_true];and_intros<;>intro w' hR<;>have HR:=qAq hR
    have zl:=aC (aE hR H4.out.2);rotate_left;have z0:=aA (aE hR H4.out.2) 1;rotate_left 3
    all_goals(clear hR;simp only[Par.Gives];go_simp;all_goals exact HR.out)
   intro w' hR;simp only[qNq,List.drop_nil];have HR:=qAq (aB H4.out.1 hR);clear hR;go_wp2_with fail;go_ret2;have e:=uQ (ts:=ts) (As:=As) HNUL.out HKB.out HREF.out (by rw[HN.out.2.1];exact hlt) HX.out.2.2.2.2.2 HI3.out.1;rw[HX.out.2.2.2.2.1] at e;exact⟨cQ e,aB HW.out.2.2 HR.out⟩
  obtain rfl:i=nd:=(by omega);have e:=pW (ts:=ts) (As:=As) HNUL.out HKB.out HREF.out (fun k hk=>HI3.out.1 k (by rw[<- HN.out.2.1];exact hk));have HE:=qAq (cQ e);clear hno hB e;go_wp2_with fail;go_ret2;exact⟨HE.out,aB HW.out.2.2 HI3.out.2⟩
 go_upto_region 8 with (go_at_call 120;(with_reducible refine hkt.mono ?_);rintro e w2 ⟨rfl,hb2⟩;have H2:=qAq (aB HI.out.2 hb2);clear hkt hb2);clear y0 y1 y2 y3 yl;refine Par.wp_region_par 4 [.pointer (some ⟨F,2,none⟩),.string key0,.int .i64 8,.string key0] (fun y=>Below w2.heap.size w2 y) ?A6 ?hm6 ?hB6 ?hA6 ((aF w2)) ?hop6 ?hT6
 case hm6=>kernel_rfl
 case hB6=>kernel_rfl
 case hA6 =>
  simp only[Par.putA,Par.dstAt,Act.put,qDq,qEq,qFq,qLq,qGq,qHq,qIq,qJq,qKq];rfl
 case hop6 =>
  simp only[qMq,List.take_zero,Par.GiveAll,and_true];and_intros<;>intro w' hR<;>have HR:=qAq hR
  have zl:=aC (HK.out w' (aB H2.out hR));rotate_left;have z0:=aA (HK.out w' (aB H2.out hR)) 2;rotate_left 3
  all_goals(clear hR;simp only[Par.Gives];go_simp;all_goals exact HR.out)
 intro w' hR;simp only[qNq,List.drop_nil];have HR:=qAq (aB H2.out hR);clear hR;go_wp2_with fail;go_ret2;have e:=uO (ts:=ts) (As:=As) (B:=B) HNUL.out HKB.out;rw[HNM.out] at e;exact⟨cQ e,aB HW.out.2.2 HR.out⟩
end
end Go.Proofs.YthlccadnojnkaaaGreat
namespace Go.Proofs.YthlccadnojnkaaaGreat
open Go Go.RowKit Go.Shelf Go.Proofs Co Co.S
theorem aFK:(Tryz.prog.info? 27).map (fun i=>(i.zero,i.size,i.bytes))=some (some (.slice none 0 0),1,24):=by kernel_rfl
structure WrB where
 D:Nat
 F:Nat
 R:Nat
 T:Nat
 L:Nat
structure WrG (W:World) (x:WrB) (dp tb:Nat) (nm key:ByteArray) (cv dv:Value) (A:List R1) (k:Nat) (S:Nat->Prop) (w:World):Prop where
 cd:w.heap[x.D]?=some (.cells #[(Value.pointer (some ⟨dp,0,none⟩))] 23)
 cf:w.heap[x.F]?=some (.cells #[.string nm,cv,.string key,dv] 77)
 cr:w.heap[x.R]?=some (.cells zF 39)
 ct:w.heap[x.T]?=some (.cells #[(Value.pointer (some ⟨tb,0,none⟩))] 62)
 lv:∃ v vs,w.heap[x.L]?=some (.cells #[v] 135)/\HRow w W.heap.size 27 1 v k vs/\(∀ q,v.ownBlock=some q->S q/\q≠x.L/\q≠x.R)/\∀ i (hi:i<A.length),i<k->∃ vi,vs[i]?=some vi/\HRow w W.heap.size 32 3 vi A[i].2.length (cells3 A[i].2)
 sR:S x.R
 sL:S x.L
 lo:W.heap.size<=x.R/\W.heap.size<=x.L/\x.R≠x.L/\x.D≠x.L/\x.F≠x.L/\x.T≠x.L
 old:∀ b,b<W.heap.size->S b∨∃ cur e m,w.heap[b]?=some (.cells cur e m)
 bel:Below W.heap.size W w
structure WrX (W:World) (R:Nat) (er id:Int) (col:ByteArray) (S:Nat->Prop) (w:World):Prop where
 cr:w.heap[R]?=some (.cells #[.int .i64 er,.int .i64 0,.string e0,.int .i64 id,.string col] 39)
 old:∀ b,b<W.heap.size->S b∨∃ cur e m,w.heap[b]?=some (.cells cur e m)
 bel:Below W.heap.size W w
section
variable {W A' B' w1 w2:World} {x:WrB} {dp tb k R:Nat} {nm key col:ByteArray} {cv dv:Value} {A:List R1} {S:Nat->Prop} {er id:Int}
theorem HRow.kept {base n size:Nat} {e:TypeId} {v:Value} {xs:List Value} (h:HRow A' base e size v n xs) (hkc:∀ (b:Nat) (cur:Array Value) (e:TypeId) (m:Nat×Nat),A'.heap[b]?=some (Obj.cells cur e m)->B'.heap[b]?=some (Obj.cells cur e m)):HRow B' base e size v n xs :=
 h.of (fun q hq=>by
  obtain⟨_,cur,e1⟩:=HRow.block h q hq;rw[hkc _ _ _ _ e1,e1])
theorem WrG.loc (h:WrG W x dp tb nm key cv dv A k S A') (hsz:A'.heap.size<=B'.heap.size) (hb:∀ b,S b->B'.heap[b]?=A'.heap[b]?) (hkc:∀ (b:Nat) (cur:Array Value) (e:TypeId) (m:Nat×Nat),A'.heap[b]?=some (Obj.cells cur e m)->B'.heap[b]?=some (Obj.cells cur e m))
  (hos:B'.os=A'.os/\B'.tape=A'.tape/\B'.output=A'.output):WrG W x dp tb nm key cv dv A k S B':=by
 obtain⟨k1,k2⟩:=lV hb hkc hsz hos h.old h.bel;obtain⟨v,vs,l1,l2,l3,l4⟩:=h.lv
 exact⟨hkc _ _ _ _ h.cd,hkc _ _ _ _ h.cf,hkc _ _ _ _ h.cr,hkc _ _ _ _ h.ct,⟨v,vs,hkc _ _ _ _ l1,l2.kept hkc,l3,fun i hi hk=>by
  obtain⟨vi,e1,e2⟩:=l4 i hi hk;exact⟨vi,e1,e2.kept hkc⟩⟩,h.sR,h.sL,h.lo,k1,k2⟩
theorem WrX.loc (h:WrX W R er id col S A') (hsz:A'.heap.size<=B'.heap.size) (hb:∀ b,S b->B'.heap[b]?=A'.heap[b]?) (hkc:∀ (b:Nat) (cur:Array Value) (e:TypeId) (m:Nat×Nat),A'.heap[b]?=some (Obj.cells cur e m)->B'.heap[b]?=some (Obj.cells cur e m))
  (hos:B'.os=A'.os/\B'.tape=A'.tape/\B'.output=A'.output):WrX W R er id col S B':=by
 obtain⟨k1,k2⟩:=lV hb hkc hsz hos h.old h.bel;exact⟨hkc _ _ _ _ h.cr,k1,k2⟩
theorem eT (hk:k<=A.length):(lessR A k).length=k:=by unfold lessR;rw[List.length_map,List.length_take];omega
theorem uR {j:Nat} (hk:k<=A.length) (hj:j<(lessR A k).length):(lessR A k)[j]=(A[j]'(by rw[eT hk] at hj;omega)).2:=by
 simp[lessR]
theorem WrG.rl (h:WrG W x dp tb nm key cv dv A k S w1) (hk:k<=A.length):∃ v,w1.heap[x.L]?=some (.cells #[v] 135)/\RL w1 v (lessR A k):=by
 obtain⟨v,vs,l1,l2,l3,l4⟩:=h.lv;obtain⟨p,c,e,_,_⟩:=HRow.isslice l2;refine⟨v,l1,p,c,by rw[eT hk];exact e,fun j hj=>?_⟩;have hjk:j<k:=(by rw[eT hk] at hj;exact hj);have hjA:j<A.length:=(by omega);obtain⟨vi,e1,e2⟩:=l4 j hjA hjk;obtain⟨g,c',e3,_,_⟩:=HRow.slice l2 (by omega);rw[e] at e3;cases e3;rw[e] at l2;refine⟨g,vi,rfl,(HRow.lt l2 g rfl).2,HRow.cell l2 e1,?_⟩;rw[uR hk hj];exact (InV.of_row e2 rfl).mono (fun _ _ _=>trivial)
theorem WrG.more (h:WrG W x dp tb nm key cv dv A k S w1) (hin:InW S w1) (hb:Below w1.heap.size w1 w2) (hk:k<A.length) {vr:Value} {nr:Nat} (hnr:A[k].2.length=nr) (hr:HRow w2 w1.heap.size 32 3 vr nr (cells3 A[k].2)) {v v':Value} {vs:List Value} {w4 w5:World} (hv:w1.heap[x.L]?=some (.cells #[v] 135)) (hrow:HRow w1 W.heap.size 27 1 v k vs)
  (hb4:Below w2.heap.size w2 w4) (hr5:HRow w5 W.heap.size 27 1 v' (k+1) (vs++[vr])) (hg5:w4.grownBy w5 v.ownBlock) (ho5:∀ q,v'.ownBlock=some q->v.ownBlock=some q∨w4.heap.size<=q) :
  ∃ S2,Grows S S2 w1/\InW S2 (w5.setCell ⟨x.L,0,none⟩ v')/\Chg S w1 (w5.setCell ⟨x.L,0,none⟩ v')/\WrG W x dp tb nm key cv dv A (k+1) S2 (w5.setCell ⟨x.L,0,none⟩ v'):=by
 subst hnr;have hb14:=aB hb hb4;obtain⟨v0,vs0,l1,l2,l3,l4⟩:=h.lv;obtain rfl:v0=v:=by rw[hv] at l1;cases l1;rfl
 obtain rfl:vs0=vs:=by
  rcases l2.2 with ⟨e1,e2⟩ | ⟨g,cap,cur,e1,_,e3,_,_,_,e4⟩
  ·rcases hrow.2 with ⟨e5,e6⟩ | ⟨g',cap',cur',e5,_⟩
   ·have a1:=l2.1;have a2:=hrow.1;rw[e2,Nat.zero_mul] at a1 a2;rw[List.length_eq_zero_iff.1 a1,List.length_eq_zero_iff.1 a2]
   rw[e1] at e5;cases e5
  rcases hrow.2 with ⟨e5,e6⟩ | ⟨g',cap',cur',e5,_,e7,_,_,_,e8⟩
  ·rw[e1] at e5;cases e5
  rw[e1] at e5;cases e5
  rw[e3] at e7;cases e7
  rw[<- e4,<- e8]
 have hz:=hb14.size;have hz5:=hg5.size;have hLw:x.L<w1.heap.size:=aC hv
 have hstay:∀ q,q<w1.heap.size->v0.ownBlock≠some q->q≠x.L->(w5.setCell ⟨x.L,0,none⟩ v').heap[q]?=w1.heap[q]?:=fun q hq h1 h2=>by
  rw[heap_setCell_other w5 ⟨x.L,0,none⟩ q v' h2,hg5.block q (by omega) (fun e=>h1 e.symm)];exact hb14.block q hq
 have hLrow:v0.ownBlock≠some x.L:=fun e=>(l3 _ e).2.1 rfl
 have hL5:w5.heap[x.L]?=some (.cells #[v0] 135):=by
  rw[hg5.block x.L (by omega) (fun e=>hLrow e.symm)];exact aE hb14 hv
 have hown:∀ q,v0.ownBlock=some q->∃ cur,w1.heap[q]?=some (.cells cur 27):=(fun q hq=>(HRow.block hrow q hq).2);have hL6:=heap_setCell_same w5 x.L 0 #[v0] 135 v' hL5
 have hap:∀ {vv:Value} {n:Nat} {xs:List Value} {base:Nat} {ee:TypeId} {sz:Nat},HRow w4 base ee sz vv n xs->ee≠27->ee≠135->HRow (w5.setCell ⟨x.L,0,none⟩ v') base ee sz vv n xs:=fun {vv n xs base ee sz} hh hne hne2=>hh.of (fun q hq=>by
  obtain⟨_,cur,e1⟩:=HRow.block hh q hq
  have hqL:q≠x.L:=fun e=>by
   have e2:=aE hb14 hv;rw[<- e,e1] at e2
   injection e2 with e2;injection e2 with _ e2;exact hne2 e2
  rw[heap_setCell_other w5 ⟨x.L,0,none⟩ q v' hqL,hg5.block q (aC e1) (fun e=>by
   obtain⟨cur2,e2⟩:=hown q e.symm;have e3:=aE hb14 e2;rw[e1] at e3
   injection e3 with e3;injection e3 with _ e3;exact hne e3)])
 have hsz:(w5.setCell ⟨x.L,0,none⟩ v').heap.size=w5.heap.size:=(by simp);refine⟨fun b=>S b∨(w1.heap.size<=b/\b<w5.heap.size),fun b hb=>hb.imp id (fun h=>h.1),fun b hb=>?_,?_,?_⟩
 ·rw[hsz];rcases hb with hb|hb
  ·have:=hin b hb;omega
  exact hb.2
 ·have hc:Chg S w1 w5:=⟨hg5.os.trans hb14.os,hg5.tape.trans hb14.tape,hg5.output.trans hb14.output,by omega,fun q hq hn=>by
   rw[hg5.block q (by omega) (fun e=>hn (l3 q e.symm).1)];exact hb14.block q hq⟩
  exact hc.setCell (p:=⟨x.L,0,none⟩) (fun _=>h.sL) _
 have hne:∀ q,q<w1.heap.size->(∃ o ty,w1.heap[q]?=some (.cells o ty)/\ty≠27)->v0.ownBlock≠some q:=fun q _ ⟨o,ty,h1,h2⟩ e=>by
  obtain⟨cur,e1⟩:=hown q e;rw[h1] at e1
  injection e1 with e1;injection e1 with _ e1;exact h2 e1
 have keep:∀ {q:Nat} {o:Array Value} {ty:TypeId},w1.heap[q]?=some (.cells o ty)->ty≠27->q≠x.L->(w5.setCell ⟨x.L,0,none⟩ v').heap[q]?=some (.cells o ty):=(fun {q o ty} h1 h2 h3=>(hstay q (aC h1) (hne q (aC h1) ⟨o,ty,h1,h2⟩) h3).trans h1);refine⟨keep h.cd (by decide) h.lo.2.2.2.1,keep h.cf (by decide) h.lo.2.2.2.2.1,keep h.cr (by decide) h.lo.2.2.1,keep h.ct (by decide) h.lo.2.2.2.2.2,⟨v',vs0++[vr],hL6,hr5.of (fun q hq=>?_),fun q hq=>?_,fun i hi hik=>?_⟩,.inl h.sR,.inl h.sL,h.lo,fun b hlt=>?_,?_⟩
 ·refine heap_setCell_other w5 ⟨x.L,0,none⟩ q v' (fun e=>?_);rcases ho5 q hq with h1|h1
  ·exact (l3 q h1).2.1 e
  have:q=x.L:=e;omega
 ·rcases ho5 q hq with h1|h1
  ·exact⟨.inl (l3 q h1).1,(l3 q h1).2⟩
  have h2:=(HRow.lt hr5 q hq).2;have h3:=aC h.cr;exact⟨.inr ⟨by omega,h2⟩,by omega,by omega⟩
 ·have hvl:vs0.length=k:=(by have:=hrow.1;rw[Nat.mul_one] at this;exact this);by_cases e:i=k
  ·subst e;refine⟨vr,by rw[<- hvl,List.getElem?_append_right (Nat.le_refl _),Nat.sub_self];rfl,?_⟩;exact hap ((hr.later hb4).mono h.bel.size) (by decide) (by decide)
  obtain⟨vi,e1,e2⟩:=l4 i hi (by omega);exact⟨vi,by rw[List.getElem?_append_left (by omega)];exact e1,hap (e2.later hb14) (by decide) (by decide)⟩
 ·rcases h.old b hlt with h5|⟨cur,e,m,h5⟩
  ·exact .inl (.inl h5)
  have hbl:=aC h5;by_cases e1:v0.ownBlock=some b
  ·exact .inl (.inl (l3 b e1).1)
  refine .inr ⟨cur,e,m,(hstay b hbl e1 (fun e2=>?_)).trans h5⟩
  have:=h.lo.2.1
  omega
 refine ((aB h.bel hb14).trans ⟨hg5.os,hg5.tape,hg5.output,hz5,fun q hq=>hg5.block q (by have:=h.bel.size;omega) (fun e=>?_)⟩).setCell (p:=⟨x.L,0,none⟩) h.lo.2.1 _
 have:=(HRow.lt hrow q e.symm).1
 omega
theorem WrG.found (h:WrG W x dp tb nm key cv dv A k S w1) (hin:InW S w1) (hb:Below w1.heap.size w1 w2) :
  ∃ S2,Grows S S2 w1/\InW S2 (((((w2.setCell ⟨x.R,0,none⟩ (.int .i64 er)).setCell ⟨x.R,1,none⟩ (.int .i64 0)).setCell ⟨x.R,2,none⟩ (.string e0)).setCell ⟨x.R,3,none⟩ (.int .i64 id)).setCell ⟨x.R,4,none⟩ (.string col))/\Chg S w1 (((((w2.setCell ⟨x.R,0,none⟩ (.int .i64 er)).setCell ⟨x.R,1,none⟩ (.int .i64 0)).setCell ⟨x.R,2,none⟩ (.string e0)).setCell ⟨x.R,3,none⟩ (.int .i64 id)).setCell ⟨x.R,4,none⟩ (.string col))/\WrX W x.R er id col S2 (((((w2.setCell ⟨x.R,0,none⟩ (.int .i64 er)).setCell ⟨x.R,1,none⟩ (.int .i64 0)).setCell ⟨x.R,2,none⟩ (.string e0)).setCell ⟨x.R,3,none⟩ (.int .i64 id)).setCell ⟨x.R,4,none⟩ (.string col)):=by
 have h5:=gS (aE hb h.cr) (.int .i64 er) (.int .i64 0) (.string e0) (.int .i64 id) (.string col);have hg:=aW w2 x.R (.int .i64 er) (.int .i64 0) (.string e0) (.int .i64 id) (.string col);generalize ((((w2.setCell ⟨x.R,0,none⟩ (.int .i64 er)).setCell ⟨x.R,1,none⟩ (.int .i64 0)).setCell ⟨x.R,2,none⟩ (.string e0)).setCell ⟨x.R,3,none⟩ (.int .i64 id)).setCell ⟨x.R,4,none⟩ (.string col)=w6 at h5 hg ⊢;have hz:=hb.size;have hz6:=hg.size;refine⟨fun b=>S b∨(w1.heap.size<=b/\b<w6.heap.size),fun b hb=>hb.imp (fun h=>h) (fun h=>h.1),fun b hb=>?_,⟨hg.os.trans hb.os,hg.tape.trans hb.tape,hg.output.trans hb.output,by omega,fun q hq hn=>?_⟩,h5,fun b hlt=>?_,?_⟩
 ·rcases hb with hb|hb
  ·have:=hin b hb;omega
  exact hb.2
 ·rw[hg.block q (by omega) (fun e=>hn (by cases e;exact h.sR))];exact hb.block q hq
 ·rcases h.old b hlt with h6|⟨cur,e,m,h6⟩
  ·exact .inl (.inl h6)
  have hl:=aC h6;refine .inr ⟨cur,e,m,(hg.block b (by omega) (fun e=>?_)).trans (aE hb h6)⟩;cases e
  have:=h.lo.1
  omega
 exact (aB h.bel hb).trans ⟨hg.os,hg.tape,hg.output,hz6,fun q hq=>hg.block q (by have:=h.bel.size;omega) (fun e=>by cases e;have:=h.lo.1;omega)⟩
end
end Go.Proofs.YthlccadnojnkaaaGreat
namespace Go.Proofs.YthlccadnojnkaaaGreat
open Go Go.RowKit Go.Proofs Co Co.S
theorem yJ (w:World) (g:Nat) (a b c d:Value):w.grownBy ((((w.setCell ⟨g,0,none⟩ a).setCell ⟨g,1,none⟩ b).setCell ⟨g,2,none⟩ c).setCell ⟨g,3,none⟩ d) (some g) :=
 aP (aP (aP (aP (cK w (some g)) 0 a) 1 b) 2 c) 3 d
structure RowW (w:World) (gr m gv cv nc:Nat) (r:List T3):Prop where
 rl:gr<w.heap.size
 r0:w.cell? ⟨gr,m*2+1,none⟩=some (.slice (some ⟨gv,0,none⟩) nc cv)
 id:∃ v,w.cell? ⟨gr,m*2,none⟩=some v
 vl:gv<w.heap.size
 v:∀ c,c<nc->w.cell? ⟨gv,c*3,none⟩=some (.int .i64 (r.getD c z3).1)/\w.cell? ⟨gv,c*3+1,none⟩=some (.int .i64 (r.getD c z3).2.1)/\w.cell? ⟨gv,c*3+2,none⟩=some (.string (r.getD c z3).2.2)
structure NRW (w:World) (b nt t na nc nd gs cs go co gr cr:Nat) (pc:Option Addr) (kc:Nat) (pd:Option Addr) (kd:Nat) (T0:T):Prop where
 b0:w.cell? ⟨b,0,none⟩=some (.slice (some ⟨gs,0,none⟩) nt cs)
 bl:b<w.heap.size
 sl:gs<w.heap.size
 s0:w.cell? ⟨gs,t*4,none⟩=some (.string T0.nm)
 s1:w.cell? ⟨gs,t*4+1,none⟩=some (.slice pc nc kc)
 s2:w.cell? ⟨gs,t*4+2,none⟩=some (.string T0.key)
 s3:w.cell? ⟨gs,t*4+3,none⟩=some (.slice pd nd kd)
 b1:w.cell? ⟨b,1,none⟩=some (.slice (some ⟨go,0,none⟩) nt co)
 ol:go<w.heap.size
 o0:w.cell? ⟨go,t,none⟩=some (.slice (some ⟨gr,0,none⟩) na cr)
 rt:RdT w (.slice pc nc kc) (.slice pd nd kd) T0
section
variable {W:World} {b:Nat} {ts:List T} {tt:List RT} {i:NI} {O:Nat->Nat} {t k:Nat} {y:RT}
theorem yK (h:DbN W b ts tt i O) (ht:t<ts.length) (hy:tt[t]?=some y) (hk:k<y.A.length) (h0:0<ts[t].cols.length) :
  ∃ gs cs go co gr cr pc kc pd kd,(∀ w,Below W.heap.size W w->NRW w b ts.length t y.A.length ts[t].cols.length ts[t].deps.length gs cs go co gr cr pc kc pd kd ts[t]) /\
   ∀ m (hm:m<y.A.length),∃ gv cv,∀ w,Below W.heap.size W w->RowW w gr m gv cv ts[t].cols.length y.A[m].2:=by
 obtain⟨⟨gs,cs,go,co,pr,cr,pc,kc,pd,kd⟩,hr0,hr1⟩:=h.nreads ht hy h0;dsimp only at hr0 hr1;obtain⟨gr,_,_,rfl,_⟩:=hr1 k hk;refine⟨gs,cs,go,co,gr,cr,pc,kc,pd,kd,fun w hw=>?_,fun m hm=>?_⟩
 ·obtain⟨x1,x2,x3,x4,x5,x6,x7,x8,x9,x10,x11⟩:=hr0 w hw;exact⟨x5,x3,x6,x7,x8,x9,x10,x1,x4,x2,x11⟩
 obtain⟨gr',gv,cv,e,hq⟩:=hr1 m hm;cases e;refine⟨gv,cv,fun w hw=>?_⟩;obtain⟨q1,q2,q3,q4,q5,q6⟩:=hq w hw;refine⟨q1,q3,⟨_,q2⟩,q4,fun c hc=>?_⟩;obtain⟨b',o',e,hh⟩:=InV.cells q5 (k:=c) (by rw[q6];exact hc);cases e;obtain⟨r1,r2,r3,_⟩:=hh w (Below.refl _ _);rw[Nat.zero_add] at r1 r2 r3;exact⟨r1,r2,r3⟩
end
section
variable {W:World} {pc pd:Option Addr} {nc nd kc kd:Nat} {t:T}
theorem pX (hT:RdT W (.slice pc nc kc) (.slice pd nd kd) t) (h0:0<t.cols.length):∃ bc oc,pc=some ⟨bc,oc,none⟩/\∀ y,Below W.heap.size W y->bc<y.heap.size/\∀ j,j<t.cols.length ->
  y.cell? ⟨bc,oc+j*4,none⟩=some (.string (cAt t j).nm)/\y.cell? ⟨bc,oc+j*4+1,none⟩=some (.int .i64 (cAt t j).kd)/\y.cell? ⟨bc,oc+j*4+2,none⟩=some (.bool (cAt t j).mu)/\y.cell? ⟨bc,oc+j*4+3,none⟩=some (.string (cAt t j).tgt):=by
 obtain⟨b,off,rfl,_⟩:=RdC.col hT.c h0;refine⟨b,off,rfl,fun y hy=>⟨?_,fun j hj=>?_⟩⟩
 ·obtain⟨_,_,e,h1,_⟩:=RdC.col (hT.c.later hy) h0;cases e;exact h1
 rw[oA hj];obtain⟨_,_,e,h1,h2,h3,h4,h5⟩:=RdC.col (hT.c.later hy) hj;cases e;exact⟨h2,h3,h4,h5⟩
theorem aBN (hT:RdT W (.slice pc nc kc) (.slice pd nd kd) t) {i:Nat} (hi:i<t.deps.length):∃ bd od pl cl,pd=some ⟨bd,od,none⟩ /\
  (∀ y,Below W.heap.size W y->bd<y.heap.size/\y.cell? ⟨bd,od+i*2,none⟩=some (.slice pl (dAt t i).left.length cl)/\y.cell? ⟨bd,od+i*2+1,none⟩=some (.string (dAt t i).right)) /\
  ∀ j,j<(dAt t i).left.length->∃ bl ol,pl=some ⟨bl,ol,none⟩/\∀ y,Below W.heap.size W y->bl<y.heap.size/\y.cell? ⟨bl,ol+j,none⟩=some (.string ((dAt t i).left.getD j e0)):=by
 rw[yI hi];obtain⟨b,off,lv,rfl,h1,h2,h3,h4⟩:=RdD.dep hT.d hi;obtain⟨pl,cl,rfl,_,_⟩:=h4.slice;refine⟨b,off,pl,cl,rfl,fun y hy=>⟨Nat.lt_of_lt_of_le h1 hy.size,?_,?_⟩,fun j hj=>?_⟩
 ·exact (World.cell?_of_block (w:=W) (hy.block _ h1)).trans h2
 ·exact (World.cell?_of_block (w:=W) (hy.block _ h1)).trans h3
 obtain⟨bl,ol,rfl,_,_⟩:=RdS.word h4 hj;refine⟨bl,ol,rfl,fun y hy=>?_⟩;obtain⟨_,_,e,k1,k2⟩:=RdS.word (h4.later hy) hj;cases e;refine⟨k1,?_⟩;rw[List.getD_eq_getElem?_getD,List.getElem?_eq_getElem hj];exact k2
end
section
variable {t:T} {r a:List T3} {B:List (List T3)} {p:List T3->Bool}
theorem rR {x:ByteArray} {q:Nat} (h:ixC t.cols x=(q:Int)):decide (a.getD q z3=r.getD q z3)=likeP t x r a:=by
 unfold likeP valC;rw[h,Int.toNat_natCast];exact decide_eq_decide.2 eq_comm
theorem aDR {n:Nat} (hn:B.length=n) (h:∀ m,m<n->p (B.getD m [])=false):B.any p=false:=by
 rw[List.any_eq_false];intro a ha;obtain⟨m,hm,rfl⟩:=List.getElem_of_mem ha
 have:=h m (by omega)
 rw[List.getD_eq_getElem?_getD,List.getElem?_eq_getElem hm] at this;simpa using this
theorem aAs {m:Nat} (hm:m<B.length) (h:p (B.getD m [])=true):B.any p=true:=by
 rw[List.getD_eq_getElem?_getD,List.getElem?_eq_getElem hm] at h;exact List.any_eq_true.2 ⟨_,List.getElem_mem hm,h⟩
theorem aFL (h:t.key=e0):keyB t r B=false:=by unfold keyB;rw[h];rfl
def andP (t:T) (l:List ByteArray) (k:Nat) (r a:List T3):Bool:=(l.take k).all fun x=>likeP t x r a
theorem aBO (l:List ByteArray):andP t l 0 r a=true:=by simp[andP]
theorem aBP {l:List ByteArray} {k:Nat} (hk:k<l.length):andP t l (k+1) r a=(andP t l k r a&&likeP t (l.getD k e0) r a):=by
 unfold andP;rw[List.take_add_one,List.all_append,List.getD_eq_getElem?_getD,List.getElem?_eq_getElem hk]
 simp
theorem aDS (l:List ByteArray):andP t l l.length r a=l.all fun x=>likeP t x r a:=by
 unfold andP;rw[List.take_length]
end
