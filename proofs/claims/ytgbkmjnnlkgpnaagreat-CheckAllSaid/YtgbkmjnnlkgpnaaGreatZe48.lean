import Derived.Test.YtgbkmjnnlkgpnaaGreatZe47
set_option maxHeartbeats 8000000
set_option maxRecDepth 100000
namespace Go.Proofs.YtgbkmjnnlkgpnaaGreat
open Go Go.RowKit Go.Proofs Co Co.S
structure FormOk (t:T):Prop where
 key:t.key=e0∨rS t t.key
 deps:∀ d∈t.deps,DepOk t d
 nc:t.cols.length<=1000
 nd:t.deps.length<=1000
section
variable {ts:List T} {As:List (List R1)} {t:T} {r:List T3} {B:List (List T3)} {k:Nat}
def dAt (t:T) (k:Nat):D:=t.deps.getD k ⟨[],e0⟩
theorem zU (hk:k<t.deps.length):dAt t k=t.deps[k]:=by unfold dAt;rw[List.getD_eq_getElem?_getD,qQq hk];rfl
theorem qE (hk:k<t.cols.length):cAt t k=t.cols[k]:=by unfold cAt;rw[List.getD_eq_getElem?_getD,qQq hk];rfl
theorem rT (hk:k<t.cols.length) (h:cN t r k=true) (h0:∀ j,j<k->cN t r j=false):dG ts As t r B=(7,(cAt t k).nm):=by
 unfold dG;rw[bM hk h h0]
theorem wN (h1:∀ j,j<t.cols.length->cN t r j=false) (h:fO t r B=true):dG ts As t r B=(8,t.key):=by
 unfold dG;rw[aZ h1];simp only;rw[if_pos h]
theorem wO (h1:∀ j,j<t.cols.length->cN t r j=false) (h2:fO t r B=false) (hk:k<t.cols.length) (h:eO ts As t r k=true) (h0:∀ j,j<k->eO ts As t r j=false):dG ts As t r B=(9,(cAt t k).nm):=by
 unfold dG;rw[aZ h1];simp only;rw[if_neg (by rw[h2];decide),bM hk h h0]
theorem wP (h1:∀ j,j<t.cols.length->cN t r j=false) (h2:fO t r B=false) (h3:∀ j,j<t.cols.length->eO ts As t r j=false) (hk:k<t.deps.length) (h:cC t (dAt t k) r B=true) (h0:∀ j,j<k->cC t (dAt t j) r B=false):dG ts As t r B=(10,(dAt t k).right):=by
 unfold dG;rw[aZ h1];simp only;rw[if_neg (by rw[h2];decide),aZ h3];simp only
 rw[bM (p:=fun k=>cC t (t.deps.getD k ⟨[],e0⟩) r B) hk h h0];rfl
theorem rU (h1:∀ j,j<t.cols.length->cN t r j=false) (h2:fO t r B=false) (h3:∀ j,j<t.cols.length->eO ts As t r j=false) (h0:∀ j,j<t.deps.length->cC t (dAt t j) r B=false):dG ts As t r B=(0,e0):=by
 unfold dG;rw[aZ h1];simp only;rw[if_neg (by rw[h2];decide),aZ h3];simp only
 rw[aZ (p:=fun k=>cC t (t.deps.getD k ⟨[],e0⟩) r B) h0]
end
theorem eE {x:Int×ByteArray} {a:Int} {b:ByteArray} (h:x=(a,b)):Ending.returned (.tuple #[.int .i64 a,.string b])=.returned (.tuple #[.int .i64 x.1,.string x.2]):=by rw[h]
section
variable {w:World} {cv dv va rv:Value} {ts:List T} {As:List (List R1)} {t:T} {r:List T3} {B:List (List T3)} {dp:Nat}
theorem aCa (hT:RdT w cv dv t) (hf:FormOk t) (ha:InV TT w va r) (hR:RL w rv B) (hro:RowsOf t r B)
  (hbk:∀ w1,Below w.heap.size w w1->∀ (x:ByteArray) (u:T3),Calls Tryz.prog 88 #[.pointer (some ⟨dp,0,none⟩),.string x,.agg #[.int .i64 (u.1),.int .i64 (u.2.1),.string (u.2.2)]] w1 fun e w'=>e=.returned (.tuple #[.int .i64 ((aX ts As x u).getD 0),.bool (aX ts As x u).isSome])/\Below w1.heap.size w1 w') :
  Calls Tryz.prog 82 #[.pointer (some ⟨dp,0,none⟩),.agg #[.string t.nm,cv,.string t.key,dv],va,rv] w fun e w'=>e=.returned (.tuple #[.int .i64 (dG ts As t r B).1,.string (dG ts As t r B).2])/\Below w.heap.size w w':=by
 obtain⟨pc,cc,rfl,_,_⟩:=hT.c.slice;obtain⟨pd,cd,rfl,_,_⟩:=hT.d.slice;obtain⟨pa,ca,rfl,_,_⟩:=ha.slice;obtain⟨pr,cr,hrv⟩:∃ p c,rv=.slice p B.length c:=(by obtain⟨p,c,e,_⟩:=hR;exact⟨p,c,e⟩);have b1:=aC w (.cells #[.string t.nm,.slice pc t.cols.length cc,.string t.key,.slice pd t.deps.length cd] 70);have k1:=qOq w (.cells #[.string t.nm,.slice pc t.cols.length cc,.string t.key,.slice pd t.deps.length cd] 70);obtain⟨w1,hw1⟩:∃ y,w.alloc (.cells #[.string t.nm,.slice pc t.cols.length cc,.string t.key,.slice pd t.deps.length cd] 70)=y:=⟨_,rfl⟩;obtain⟨F,hF⟩:∃ F,w.heap.size=F:=⟨_,rfl⟩;rw[hw1] at b1 k1;rw[hF] at k1;have HKT:Hid (∀ y,Below w1.heap.size w1 y->Calls Tryz.prog 113 #[.agg #[.string t.nm,.slice pc t.cols.length cc,.string t.key,.slice pd t.deps.length cd],.slice pa r.length ca,rv] y fun e w'=>e=.returned (.bool (fO t r B))/\Below y.heap.size y w'):=qAq (fun y hy=>tV (hT.later (aB b1 hy)) (ha.later (aB b1 hy)) (hR.later (aB b1 hy)) hf.key hro)
 have HCOL:Hid (∀ y,Below w1.heap.size w1 y->∀ k (hk:k<t.cols.length),∃ b off,pc=some ⟨b,off,none⟩/\b<y.heap.size/\y.cell? ⟨b,off+k*4,none⟩=some (.string (cAt t k).nm)/\y.cell? ⟨b,off+k*4+1,none⟩=some (.int .i64 (cAt t k).kd)/\y.cell? ⟨b,off+k*4+2,none⟩=some (.bool (cAt t k).mu)/\y.cell? ⟨b,off+k*4+3,none⟩=some (.string (cAt t k).tgt)):=qAq (fun y hy k hk=>by
  rw[qE hk];obtain⟨b,off,e,h1,h2,h3,h4,h5⟩:=RdC.col (hT.c.later (aB b1 hy)) hk;exact⟨b,off,e,h1,h2,h3,h4,h5⟩)
 have HVAL:Hid (∀ y,Below w1.heap.size w1 y->∀ k (hk:k<r.length),∃ b off,pa=some ⟨b,off,none⟩/\∀ y',Below y.heap.size y y'->y'.cell? ⟨b,off+k*3,none⟩=some (.int .i64 (r.getD k z3).1)/\y'.cell? ⟨b,off+k*3+1,none⟩=some (.int .i64 (r.getD k z3).2.1)/\y'.cell? ⟨b,off+k*3+2,none⟩=some (.string (r.getD k z3).2.2)/\b<y'.heap.size):=qAq (fun y hy k hk=>(ha.later (aB b1 hy)).cells hk);have HLD:Hid (∀ y,Below w1.heap.size w1 y->∀ (x:ByteArray) (u:T3),Calls Tryz.prog 114 #[.pointer (some ⟨dp,0,none⟩),.string x,.agg #[.int .i64 (u.1),.int .i64 (u.2.1),.string (u.2.2)]] y fun e w'=>e=.returned (.bool (decide (u.1≠0)&&(aX ts As x u).isNone))/\Below y.heap.size y w'):=qAq (fun y hy x u=>zT (fun y2 hy2=>hbk y2 (aB (aB b1 hy) hy2) x u))
 have HDEP:Hid (∀ y,Below w1.heap.size w1 y->∀ k (hk:k<t.deps.length),∃ b off pl cl,pd=some ⟨b,off,none⟩/\b<y.heap.size/\y.cell? ⟨b,off+k*2,none⟩=some (.slice pl (dAt t k).left.length cl)/\y.cell? ⟨b,off+k*2+1,none⟩=some (.string (dAt t k).right)/\∀ y',Below y.heap.size y y'->Calls Tryz.prog 115 #[.agg #[.string t.nm,.slice pc t.cols.length cc,.string t.key,.slice pd t.deps.length cd],.agg #[.slice pl (dAt t k).left.length cl,.string (dAt t k).right],.slice pa r.length ca,rv] y' fun e w'=>e=.returned (.bool (cC t (dAt t k) r B))/\Below y'.heap.size y' w'):=qAq (fun y hy k hk=>by
  rw[zU hk];obtain⟨b,off,lv,e,h1,h2,h3,h4⟩:=RdD.dep (hT.d.later (aB b1 hy)) hk;obtain⟨pl,cl,rfl,_,_⟩:=h4.slice;exact⟨b,off,pl,cl,e,h1,h2,h3,fun y' hy'=>zS (hT.later (aB (aB b1 hy) hy')) (h4.later hy') (hf.deps _ (List.getElem_mem hk)) (ha.later (aB (aB b1 hy) hy')) (hR.later (aB (aB b1 hy) hy')) hro⟩)
 have HK:Hid (∀ y,Below w1.heap.size w1 y->y.heap[F]?=some (.cells #[.string t.nm,.slice pc t.cols.length cc,.string t.key,.slice pd t.deps.length cd] 70)):=qAq (fun y hy=>aD hy k1);subst hrv;obtain⟨nc,hnc⟩:∃ n,t.cols.length=n:=⟨_,rfl⟩;obtain⟨nd,hnd⟩:∃ n,t.deps.length=n:=⟨_,rfl⟩;obtain⟨nb,hnb⟩:∃ n,B.length=n:=⟨_,rfl⟩;have hnci:(nc:Int)<=1000:=(by have:=hf.nc;omega);have hndi:(nd:Int)<=1000:=(by have:=hf.nd;omega);have HN:=qAq (qBq hnc (qBq hnd (qBq hro.la hnb)));rw[hro.la,hnc,hnd,hnb];simp only[hro.la,hnc,hnd,hnb] at HKT HDEP HK;rw[hnc,hnd] at hw1;obtain⟨nm0,hnm0⟩:∃ x,t.nm=x:=⟨_,rfl⟩;obtain⟨key0,hkey0⟩:∃ x,t.key=x:=⟨_,rfl⟩;have HNM:=qAq hkey0;rw[hnm0,hkey0];rw[hnm0,hkey0] at hw1;simp only[hnm0,hkey0] at HKT HDEP HK;have HW:=qAq (qBq hw1 (qBq hF b1));clear hT hf ha hR hro hbk b1 k1 hw1 hF hnc hnd hnb hnm0 hkey0;go_enter Tryz.func82,Tryz.ntmps82;go_upto_region 1 with fail;rw[HW.out.1,HW.out.2.1];have x0:=HK.out w1 (Below.refl _ _);have x1:=aA x0 1;have xl:=lt_of_heap x0;clear x0;go_wp2_with fail;clear x1 xl;go_loopg [19] (nc+1) (fun gh jv y=>∃ (j:Nat),jv=.int .i64 (j:Int)/\j<=nc/\nc+1<=j+gh/\(∀ i,i<j->cN t r i=false)/\Below w1.heap.size w1 y)
 case atStart=>exact⟨0,rfl,Nat.zero_le _,by omega,fun i hi=>by omega,Below.refl _ _⟩
 obtain⟨j,rfl,hj,hg,hno,hB⟩:=hrel;have HI:=qAq (qBq hno hB);by_cases hlt:j<nc
 ·have hjl:j<t.cols.length:=(by rw[HN.out.1];exact hlt);have hji:(j:Int)<(nc:Int):=(by omega);obtain⟨b,off,rfl,bl,c0,c1,c2,c3⟩:=HCOL.out wr hB j hjl;have hjr:j<r.length:=(by rw[HN.out.2.2.1];exact hjl);obtain⟨gv,ov,rfl,hval⟩:=HVAL.out wr hB j hjr;obtain⟨c,hcc⟩:∃ c,cAt t j=c:=⟨_,rfl⟩;obtain⟨u,hu⟩:∃ u,r.getD j z3=u:=⟨_,rfl⟩;rw[hcc] at c0 c1 c2 c3;rw[hu] at hval;have hnb:cN t r j=(c.mu&&decide (u.1=0)):=(by unfold cN;rw[hcc,hu]);have b3:=aC wr (.cells #[.string c.nm,.int .i64 c.kd,.bool c.mu,.string c.tgt] 98);have k3:=qOq wr (.cells #[.string c.nm,.int .i64 c.kd,.bool c.mu,.string c.tgt] 98);obtain⟨w3,hw3⟩:∃ y,wr.alloc (.cells #[.string c.nm,.int .i64 c.kd,.bool c.mu,.string c.tgt] 98)=y:=⟨_,rfl⟩;obtain⟨V,hV⟩:∃ V,wr.heap.size=V:=⟨_,rfl⟩;rw[hw3] at b3 k3;rw[hV] at k3;have hv3:=hval w3 b3;have z2:=aA k3 2;have z0:=aA k3 0;have zl:=lt_of_heap k3;have v0:=hv3.1;have vl:=hv3.2.2.2;have HX:=qAq (qBq hw3 (qBq hV (qBq k3 (qBq (aB HI.out.2 b3) (qBq hnb hcc)))));clear hno hB hval b3 k3 hw3 hV hv3 hnb hcc hu;go_upto_region 4 with fail;rw[HX.out.1,HX.out.2.1];clear c0 c1 c2 c3 bl;obtain⟨mu,hmu⟩:∃ m,c.mu=m:=⟨_,rfl⟩;rw[hmu] at z2;have HMU:=qAq hmu;clear hmu
  have hnext:cN t r j=false->∀ i,i<j+1->cN t r i=false:=fun h i hi=>by
   by_cases e:i=j
   ·subst e;exact h
   exact HI.out.1 i (by omega)
  have HNX:=qAq hnext;clear hnext;cases mu
  ·have hf0:cN t r j=false:=(by rw[HX.out.2.2.2.2.1,HMU.out];rfl);have HF0:=qAq hf0;clear hf0;go_wp2_with fail;go_roundg (nc-j)
   case measure=>omega
   exact⟨j+1,by go_num,by omega,by omega,HNX.out HF0.out,HX.out.2.2.2.1⟩
  by_cases hu0:u.1=0
  ·have hf0:cN t r j=true:=(by rw[HX.out.2.2.2.2.1,HMU.out,decide_eq_true hu0];rfl);rw[hu0] at v0;have HF0:=qAq hf0;clear hf0 hu0;go_upto_region 5 with fail;clear v0 vl z2;refine Par.wp_region_par 4 [.pointer (some ⟨V,0,none⟩),.string c.nm,.int .i64 7,.string c.nm] (fun y=>Below w3.heap.size w3 y) ?A1 ?hm1 ?hB1 ?hA1 ((aE w3)) ?hop1 ?hT1
   case hm1=>kernel_rfl
   case hB1=>kernel_rfl
   case hA1 =>
    simp only[Par.putA,Par.dstAt,Act.put,qDq,qEq,qFq,qLq,qGq,qHq,qIq,qJq,qKq];rfl
   case hop1 =>
    simp only[qMq,List.take_zero,Par.GiveAll,and_true];and_intros<;>intro w' hR<;>have HR:=qAq hR
    have zl:=lt_of_heap (aD hR HX.out.2.2.1);rotate_left;have z0:=aA (aD hR HX.out.2.2.1) 0;rotate_left 3
    all_goals(clear hR;simp only[Par.Gives];go_simp;all_goals exact HR.out)
   intro w' hR;simp only[qNq,List.drop_nil];have HR:=qAq (aB HX.out.2.2.2.1 hR);clear hR z0 zl;go_wp2_with fail;go_ret2;have e:=rT (ts:=ts) (As:=As) (B:=B) (by rw[HN.out.1];exact hlt) HF0.out HI.out.1;rw[HX.out.2.2.2.2.2] at e;exact⟨eE e,aB HW.out.2.2 HR.out⟩
  have hf0:cN t r j=false:=(by rw[HX.out.2.2.2.2.1,HMU.out,decide_eq_false hu0];rfl);have hb0:(u.1==0)=false:=beq_eq_false_iff_ne.2 hu0;have HF0:=qAq hf0;clear hf0 hu0;go_wp2_with fail;go_roundg (nc-j)
  case measure=>omega
  exact⟨j+1,by go_num,by omega,by omega,HNX.out HF0.out,HX.out.2.2.2.1⟩
 obtain rfl:j=nc:=(by omega);have hnone:∀ i,i<t.cols.length->cN t r i=false:=(fun i hi=>HI.out.1 i (by rw[<- HN.out.1];exact hi));have HNUL:=qAq hnone;clear hno hB hnone hlt hj hg;have y0':=HK.out wr HI.out.2;have y0:=aA y0' 0;have y1:=aA y0' 1;have y2:=aA y0' 2;have y3:=aA y0' 3;have yl:=lt_of_heap y0';have hkt:=HKT.out wr HI.out.2;clear y0';obtain⟨kb,hkb⟩:∃ b,fO t r B=b:=⟨_,rfl⟩;rw[hkb] at hkt;have HKB:=qAq hkb;clear hkb;cases kb
 ·go_upto_region 9 with (go_at_call 113;(with_reducible refine hkt.mono ?_);rintro e w2 ⟨rfl,hb2⟩;have H2:=qAq (aB HI.out.2 hb2);clear hkt hb2);clear y0 y1 y2 y3 yl;have a1:=aA (HK.out w2 H2.out) 1;have al:=lt_of_heap (HK.out w2 H2.out);go_wp2_with fail;clear a1 al;go_loopg [46] (j+1) (fun gh jv y=>∃ (m:Nat),jv=.int .i64 (m:Int)/\m<=j/\j+1<=m+gh/\(∀ i,i<m->eO ts As t r i=false)/\Below w1.heap.size w1 y)
  case atStart=>exact⟨0,rfl,Nat.zero_le _,by omega,fun i hi=>by omega,H2.out⟩
  obtain⟨m,rfl,hm,hg,hno,hB⟩:=hrel;have HI2:=qAq (qBq hno hB);by_cases hlt:m<j
  ·have hml:m<t.cols.length:=(by rw[HN.out.1];exact hlt);have hmi:(m:Int)<(j:Int):=(by omega);obtain⟨b,off,rfl,bl,c0,c1,c2,c3⟩:=HCOL.out wr hB m hml;have hmr:m<r.length:=(by rw[HN.out.2.2.1];exact hml);obtain⟨gv,ov,rfl,hval⟩:=HVAL.out wr hB m hmr;obtain⟨c,hcc⟩:∃ c,cAt t m=c:=⟨_,rfl⟩;obtain⟨u,hu⟩:∃ u,r.getD m z3=u:=⟨_,rfl⟩;rw[hcc] at c0 c1 c2 c3;rw[hu] at hval;have hrb:eO ts As t r m=(decide (c.tgt≠e0)&&(decide (u.1≠0)&&(aX ts As c.tgt u).isNone)):=(by unfold eO;rw[hcc,hu]);have b3:=aC wr (.cells #[.string c.nm,.int .i64 c.kd,.bool c.mu,.string c.tgt] 98);have k3:=qOq wr (.cells #[.string c.nm,.int .i64 c.kd,.bool c.mu,.string c.tgt] 98);obtain⟨w3,hw3⟩:∃ y,wr.alloc (.cells #[.string c.nm,.int .i64 c.kd,.bool c.mu,.string c.tgt] 98)=y:=⟨_,rfl⟩;obtain⟨V,hV⟩:∃ V,wr.heap.size=V:=⟨_,rfl⟩;rw[hw3] at b3 k3;rw[hV] at k3;have HVL:Hid (∀ y,Below w3.heap.size w3 y->_):=qAq (fun y hy=>hval y (aB b3 hy));have HX:=qAq (qBq hw3 (qBq hV (qBq k3 (qBq (aB HI2.out.2 b3) (qBq hrb hcc)))))
   have hnext:eO ts As t r m=false->∀ i,i<m+1->eO ts As t r i=false:=fun h i hi=>by
    by_cases e:i=m
    ·subst e;exact h
    exact HI2.out.1 i (by omega)
   have HNX:=qAq hnext;clear hno hB hval b3 k3 hw3 hV hrb hcc hu hnext;go_upto_region 12 with fail;rw[HX.out.1,HX.out.2.1];clear c0 c1 c2 c3 bl;obtain⟨nm,hnm⟩:∃ x,c.nm=x:=⟨_,rfl⟩;obtain⟨tg,htg⟩:∃ x,c.tgt=x:=⟨_,rfl⟩;rw[hnm,htg] at HX;have HCN:=qAq (qBq hnm htg);clear hnm htg;by_cases ht0:tg=e0
   ·subst ht0;have hf0:eO ts As t r m=false:=(by rw[HX.out.2.2.2.2.1];rfl);have HF0:=qAq hf0;clear hf0;refine Par.wp_region_par 13 [.pointer (some ⟨V,3,none⟩),.string e0,.bool false,.bool false,undef,undef,undef,undef,undef,undef,undef,undef,.bool false] (fun y=>Below w3.heap.size w3 y) ?A2 ?hm2 ?hB2 ?hA2 ((aE w3)) ?hop2 ?hT2
    case hm2=>kernel_rfl
    case hB2=>kernel_rfl
    case hA2 =>
     simp only[Par.putA,Par.dstAt,Act.put,qDq,qEq,qFq,qLq,qGq,qHq,qIq,qJq,qKq];rfl
    case hop2 =>
     simp only[qMq,List.take_zero,Par.GiveAll,and_true];and_intros<;>intro w' hR<;>have HR:=qAq hR
     have zl:=lt_of_heap (aD hR HX.out.2.2.1);rotate_left;have z0:=aA (aD hR HX.out.2.2.1) 3;rotate_left 12
     all_goals(clear hR;simp only[Par.Gives];go_simp;all_goals exact HR.out)
    intro w' hR;simp only[qNq,List.drop_nil];have HR:=qAq (aB HX.out.2.2.2.1 hR);clear hR;go_wp2_with fail;go_roundg (j-m)
    case measure=>omega
    exact⟨m+1,by go_num,by omega,by omega,HNX.out HF0.out,HR.out⟩
   have htl:=qD ht0
   have HLQ:Hid (∀ y,Below w3.heap.size w3 y->Calls Tryz.prog 114 #[.pointer (some ⟨dp,0,none⟩),.string tg,.agg #[.int .i64 (u.1),.int .i64 (u.2.1),.string (u.2.2)]] y fun e w'=>e=.returned (.bool (eO ts As t r m))/\Below y.heap.size y w'):=qAq (fun y hy=>by
    have e:eO ts As t r m=(decide (u.1≠0)&&(aX ts As tg u).isNone):=(by rw[HX.out.2.2.2.2.1,decide_eq_true ht0,Bool.true_and]);rw[e];exact HLD.out y (aB HX.out.2.2.2.1 hy) tg u)
   obtain⟨q,hq⟩:∃ q,eO ts As t r m=q:=⟨_,rfl⟩;rw[hq] at HLQ;have HQ:=qAq hq;clear hq ht0;refine Par.wp_region_par 13 [.pointer (some ⟨V,3,none⟩),.string tg,.bool true,.bool true,.pointer (some ⟨dp,0,none⟩),.pointer (some ⟨V,3,none⟩),.string tg,.slice (some ⟨gv,ov,none⟩) j ca,.int .i64 (m:Int),.pointer (some ⟨gv,ov+m*3,none⟩),.agg #[.int .i64 (u.1),.int .i64 (u.2.1),.string (u.2.2)],.bool q,.bool q] (fun y=>Below w3.heap.size w3 y) ?A3 ?hm3 ?hB3 ?hA3 ((aE w3)) ?hop3 ?hT3
   case hm3=>kernel_rfl
   case hB3=>kernel_rfl
   case hA3 =>
    simp only[Par.putA,Par.dstAt,Act.put,qDq,qEq,qFq,qLq,qGq,qHq,qIq,qJq,qKq];rfl
   case hop3 =>
    simp only[qMq,List.take_zero,Par.GiveAll,and_true];and_intros<;>intro w' hR<;>have HR:=qAq hR
    have zl:=lt_of_heap (aD hR HX.out.2.2.1);rotate_left;have z0:=aA (aD hR HX.out.2.2.1) 3;rotate_left 4;have zl:=lt_of_heap (aD hR HX.out.2.2.1);rotate_left;have z0:=aA (aD hR HX.out.2.2.1) 3;rotate_left 4;have z1:=(HVL.out w' hR).1;have z2:=(HVL.out w' hR).2.1;have z3':=(HVL.out w' hR).2.2.1;rotate_left
    ·clear hR;simp only[Par.Gives];go_simp;exact (HLQ.out w' HR.out).mono (fun e w'' ⟨he,hb⟩=>⟨he,aB HR.out hb⟩)
    rotate_left
    all_goals(clear hR;simp only[Par.Gives];go_simp;all_goals exact HR.out)
   intro w' hR;simp only[qNq,List.drop_nil];have HR:=qAq (aB HX.out.2.2.2.1 hR);have HC3:=qAq (aD hR HX.out.2.2.1);clear hR;cases q
   ·go_wp2_with fail;go_roundg (j-m)
    case measure=>omega
    exact⟨m+1,by go_num,by omega,by omega,HNX.out HQ.out,HR.out⟩
   go_upto_region 13 with fail;obtain⟨w4,rfl⟩:∃ x,x=w':=⟨_,rfl⟩;refine Par.wp_region_par 4 [.pointer (some ⟨V,0,none⟩),.string nm,.int .i64 9,.string nm] (fun y=>Below w4.heap.size w4 y) ?A4 ?hm4 ?hB4 ?hA4 ((aE w4)) ?hop4 ?hT4
   case hm4=>kernel_rfl
   case hB4=>kernel_rfl
   case hA4 =>
    simp only[Par.putA,Par.dstAt,Act.put,qDq,qEq,qFq,qLq,qGq,qHq,qIq,qJq,qKq];rfl
   case hop4 =>
    simp only[qMq,List.take_zero,Par.GiveAll,and_true];and_intros<;>intro w' hR<;>have HR:=qAq hR
    have zl:=lt_of_heap (aD hR HC3.out);rotate_left;have z0:=aA (aD hR HC3.out) 0;rotate_left 3
    all_goals(clear hR;simp only[Par.Gives];go_simp;all_goals exact HR.out)
   intro w' hR;simp only[qNq,List.drop_nil];have HR2:=qAq (aB HR.out hR);clear hR;go_wp2_with fail;go_ret2;have e:=wO (ts:=ts) (As:=As) (B:=B) HNUL.out HKB.out (by rw[HN.out.1];exact hlt) HQ.out HI2.out.1;rw[HX.out.2.2.2.2.2,HCN.out.1] at e;exact⟨eE e,aB HW.out.2.2 HR2.out⟩
  obtain rfl:m=j:=(by omega);have hnone:∀ i,i<t.cols.length->eO ts As t r i=false:=(fun i hi=>HI2.out.1 i (by rw[<- HN.out.1];exact hi));have HREF:=qAq hnone;have q0:=HK.out wr hB;have q3:=aA q0 3;have ql:=lt_of_heap q0;clear hno hB hnone hlt hm hg q0;go_wp2_with fail;clear q3 ql;go_loopg [70] (nd+1) (fun gh jv y=>∃ (i:Nat),jv=.int .i64 (i:Int)/\i<=nd/\nd+1<=i+gh/\(∀ k,k<i->cC t (dAt t k) r B=false)/\Below w1.heap.size w1 y)
  case atStart=>exact⟨0,rfl,Nat.zero_le _,by omega,fun i hi=>by omega,HI2.out.2⟩
  obtain⟨i,rfl,hi,hg,hno,hB⟩:=hrel;have HI3:=qAq (qBq hno hB);by_cases hlt:i<nd
  ·have hil:i<t.deps.length:=(by rw[HN.out.2.1];exact hlt);have hii:(i:Int)<(nd:Int):=(by omega);obtain⟨b,off,pl,cl,rfl,bl,c0,c1,hcall⟩:=HDEP.out wr hB i hlt;obtain⟨nl,hnl⟩:∃ n,(dAt t i).left.length=n:=⟨_,rfl⟩;obtain⟨rt,hrt⟩:∃ n,(dAt t i).right=n:=⟨_,rfl⟩;obtain⟨q,hq⟩:∃ q,cC t (dAt t i) r B=q:=⟨_,rfl⟩;simp only[hnl,hrt,hq] at c0 c1 hcall;have b3:=aC wr (.cells #[.slice pl nl cl,.string rt] 106);have k3:=qOq wr (.cells #[.slice pl nl cl,.string rt] 106);obtain⟨w3,hw3⟩:∃ y,wr.alloc (.cells #[.slice pl nl cl,.string rt] 106)=y:=⟨_,rfl⟩;obtain⟨V,hV⟩:∃ V,wr.heap.size=V:=⟨_,rfl⟩;rw[hw3] at b3 k3;rw[hV] at k3;have hc:=hcall w3 b3;have hb13:=aB HI3.out.2 b3;have f0:=HK.out w3 hb13;have y0:=aA f0 0;have y1:=aA f0 1;have y2:=aA f0 2;have y3:=aA f0 3;have yl:=lt_of_heap f0;have z0:=aA k3 0;have z1:=aA k3 1;have zl:=lt_of_heap k3;have HX:=qAq (qBq hw3 (qBq hV (qBq k3 (qBq hb13 (qBq hrt hq)))));clear hno hB hcall b3 k3 hw3 hV hnl hrt hq hb13 f0;go_upto_region 18 with fail;rw[HX.out.1,HX.out.2.1];clear c0 c1 bl;cases q
   ·go_wp2_with (go_at_call 115;(with_reducible refine hc.mono ?_);rintro e w4 ⟨rfl,hb4⟩;have H4:=qAq (aB HX.out.2.2.2.1 hb4);clear hc hb4);go_roundg (nd-i)
    case measure=>omega
    refine⟨i+1,by go_num,by omega,by omega,fun k hk=>?_,H4.out⟩;by_cases e:k=i
    ·subst e;exact HX.out.2.2.2.2.2
    exact HI3.out.1 k (by omega)
   go_upto_region 19 with (go_at_call 115;(with_reducible refine hc.mono ?_);rintro e w4 ⟨rfl,hb4⟩;have H4:=qAq (qBq (aB HX.out.2.2.2.1 hb4) (aD hb4 HX.out.2.2.1));clear hc hb4);clear y0 y1 y2 y3 yl z0 z1 zl;refine Par.wp_region_par 4 [.pointer (some ⟨V,1,none⟩),.string rt,.int .i64 10,.string rt] (fun y=>Below w4.heap.size w4 y) ?A5 ?hm5 ?hB5 ?hA5 ((aE w4)) ?hop5 ?hT5
   case hm5=>kernel_rfl
   case hB5=>kernel_rfl
   case hA5 =>
    simp only[Par.putA,Par.dstAt,Act.put,qDq,qEq,qFq,qLq,qGq,qHq,qIq,qJq,qKq];rfl
   case hop5 =>
    simp only[qMq,List.take_zero,Par.GiveAll,and_true];and_intros<;>intro w' hR<;>have HR:=qAq hR
    have zl:=lt_of_heap (aD hR H4.out.2);rotate_left;have z0:=aA (aD hR H4.out.2) 1;rotate_left 3
    all_goals(clear hR;simp only[Par.Gives];go_simp;all_goals exact HR.out)
   intro w' hR;simp only[qNq,List.drop_nil];have HR:=qAq (aB H4.out.1 hR);clear hR;go_wp2_with fail;go_ret2;have e:=wP (ts:=ts) (As:=As) HNUL.out HKB.out HREF.out (by rw[HN.out.2.1];exact hlt) HX.out.2.2.2.2.2 HI3.out.1;rw[HX.out.2.2.2.2.1] at e;exact⟨eE e,aB HW.out.2.2 HR.out⟩
  obtain rfl:i=nd:=(by omega);have e:=rU (ts:=ts) (As:=As) HNUL.out HKB.out HREF.out (fun k hk=>HI3.out.1 k (by rw[<- HN.out.2.1];exact hk));have HE:=qAq (eE e);clear hno hB e;go_wp2_with fail;go_ret2;exact⟨HE.out,aB HW.out.2.2 HI3.out.2⟩
 go_upto_region 8 with (go_at_call 113;(with_reducible refine hkt.mono ?_);rintro e w2 ⟨rfl,hb2⟩;have H2:=qAq (aB HI.out.2 hb2);clear hkt hb2);clear y0 y1 y2 y3 yl;refine Par.wp_region_par 4 [.pointer (some ⟨F,2,none⟩),.string key0,.int .i64 8,.string key0] (fun y=>Below w2.heap.size w2 y) ?A6 ?hm6 ?hB6 ?hA6 ((aE w2)) ?hop6 ?hT6
 case hm6=>kernel_rfl
 case hB6=>kernel_rfl
 case hA6 =>
  simp only[Par.putA,Par.dstAt,Act.put,qDq,qEq,qFq,qLq,qGq,qHq,qIq,qJq,qKq];rfl
 case hop6 =>
  simp only[qMq,List.take_zero,Par.GiveAll,and_true];and_intros<;>intro w' hR<;>have HR:=qAq hR
  have zl:=lt_of_heap (HK.out w' (aB H2.out hR));rotate_left;have z0:=aA (HK.out w' (aB H2.out hR)) 2;rotate_left 3
  all_goals(clear hR;simp only[Par.Gives];go_simp;all_goals exact HR.out)
 intro w' hR;simp only[qNq,List.drop_nil];have HR:=qAq (aB H2.out hR);clear hR;go_wp2_with fail;go_ret2;have e:=wN (ts:=ts) (As:=As) (B:=B) HNUL.out HKB.out;rw[HNM.out] at e;exact⟨eE e,aB HW.out.2.2 HR.out⟩
end
