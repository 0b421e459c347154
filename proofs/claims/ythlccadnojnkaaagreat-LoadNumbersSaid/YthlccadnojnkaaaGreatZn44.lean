import Derived.Test.YthlccadnojnkaaaGreatZn43
set_option maxHeartbeats 8000000
set_option maxRecDepth 100000
namespace Go.Proofs.YthlccadnojnkaaaGreat
open Go.Proofs.Tryz
open Go Go.RowKit Go.Proofs Co Co.S Par
structure qd (t:T):Prop where
 key:t.key=e0∨re t t.key
 deps:∀d∈t.deps,AV t d
 nc:t.cols.length<=1000
 nd:t.deps.length<=1000
section
variable {ts:List T}{As:List (List R1)}{t:T}{r:List T3}{B:List (List T3)}{k:Nat}
def qt(t:T)(k:Nat):D:=t.deps.getD k ⟨[],e0⟩
theorem yI(hk:k<t.deps.length):qt t k=t.deps[k]:=by unfold qt;rw[zu,z6 hk];rfl
theorem oA(hk:k<t.cols.length):mx t k=t.cols[k]:=by unfold mx;rw[zu,z6 hk];rfl
theorem pV(hk:k<t.cols.length)(h:eh t r k=true)(h0:∀j,j<k->eh t r j=false):fg ts As t r B=(7,(mx t k).nm):=by
 unfold fg;rw[aZ hk h h0]
theorem uO(h1:∀j,j<t.cols.length->eh t r j=false)(h:jd t r B=true):fg ts As t r B=(8,t.key):=by
 unfold fg;rw[aV h1];simp only;rw[zv h]
theorem uP(h1:∀j,j<t.cols.length->eh t r j=false)(h2:jd t r B=false)(hk:k<t.cols.length)(h:iw ts As t r k=true)(h0:∀j,j<k->iw ts As t r j=false):fg ts As t r B=(9,(mx t k).nm):=by
 unfold fg;rw[aV h1];simp only;rw[zq (by rw[h2];decide),aZ hk h h0]
theorem uQ(h1:∀j,j<t.cols.length->eh t r j=false)(h2:jd t r B=false)(h3:∀j,j<t.cols.length->iw ts As t r j=false)(hk:k<t.deps.length)(h:dh t (qt t k) r B=true)(h0:∀j,j<k->dh t (qt t j) r B=false):fg ts As t r B=(10,(qt t k).right):=by
 unfold fg;rw[aV h1];simp only;rw[zq (by rw[h2];decide),aV h3];simp only
 rw[aZ (p:=fun k=>dh t (t.deps.getD k ⟨[],e0⟩) r B) hk h h0];rfl
theorem pW(h1:∀j,j<t.cols.length->eh t r j=false)(h2:jd t r B=false)(h3:∀j,j<t.cols.length->iw ts As t r j=false)(h0:∀j,j<t.deps.length->dh t (qt t j) r B=false):fg ts As t r B=(0,e0):=by
 unfold fg;rw[aV h1];simp only;rw[zq (by rw[h2];decide),aV h3];simp only
 rw[aV (p:=fun k=>dh t (t.deps.getD k ⟨[],e0⟩) r B) h0]
end
theorem cQ{x:Int×ByteArray}{a:Int}{b:ByteArray}(h:x=(a,b)):Ending.returned (.tuple #[.int .i64 a,.string b])=.returned (.tuple #[.int .i64 x.1,.string x.2]):=by rw[h]
section
variable {w:World}{cv dv va rv:Value}{ts:List T}{As:List (List R1)}{t:T}{r:List T3}{B:List (List T3)}{dp:Nat}
theorem Gn(hT:ey w cv dv t)(hf:qd t)(ha:eb TT w va r)(a:RL w rv B)(hro:tj t r B)(hbk:∀w1,Below w.heap.size w w1->∀(x:ByteArray) (u:T3),Calls prog 100 #[.pointer (some ⟨dp,0,none⟩),.string x,.agg #[.int .i64 u.1,.int .i64 u.2.1,.string u.2.2]] w1 fun e l=>e=.returned (.tuple #[.int .i64 ((bg ts As x u).getD 0),.bool (bg ts As x u).isSome])/\Below w1.heap.size w1 l):Calls prog 85 #[.pointer (some ⟨dp,0,none⟩),.agg #[.string t.nm,cv,.string t.key,dv],va,rv] w fun e l=>e=.returned (.tuple #[.int .i64 (fg ts As t r B).1,.string (fg ts As t r B).2])/\Below w.heap.size w l:=by
 obtain⟨pc,cc,rfl,_,_⟩:=hT.c.slice;obtain⟨pd,cd,rfl,_,_⟩:=hT.d.slice;obtain⟨pa,ca,rfl,_,_⟩:=ha.slice;obtain⟨pr,cr,e1⟩:∃p c,rv=.slice p B.length c:=(by obtain⟨p,c,e,_⟩:=a;exact⟨p,c,e⟩);have b1:=aD w (.cells #[.string t.nm,.slice pc t.cols.length cc,.string t.key,.slice pd t.deps.length cd] 77);have k1:=z7 w (.cells #[.string t.nm,.slice pc t.cols.length cc,.string t.key,.slice pd t.deps.length cd] 77);obtain⟨w1,a0⟩:=ag (w.alloc (.cells #[.string t.nm,.slice pc t.cols.length cc,.string t.key,.slice pd t.deps.length cd] 77));obtain⟨F,hF⟩:=ag w.heap.size;rw[a0]at b1 k1;rw[hF]at k1;have c4:Hid (∀y,Below w1.heap.size w1 y->Calls prog 120 #[.agg #[.string t.nm,.slice pc t.cols.length cc,.string t.key,.slice pd t.deps.length cd],.slice pa r.length ca,rv] y fun e l=>e=.returned (.bool (jd t r B))/\Below y.heap.size y l):=aa (fun y I=>rQ (hT.later (aB b1 I)) (ha.later (aB b1 I)) (a.later (aB b1 I)) hf.key hro)
 have b6:Hid (∀y,Below w1.heap.size w1 y->∀k (R:k<t.cols.length),∃b f,pc=some ⟨b,f,none⟩/\b<y.heap.size/\y.cell? ⟨b,f+k*4,none⟩=some (.string (mx t k).nm)/\y.cell? ⟨b,f+k*4+1,none⟩=some (.int .i64 (mx t k).kd)/\y.cell? ⟨b,f+k*4+2,none⟩=some (.bool (mx t k).mu)/\y.cell? ⟨b,f+k*4+3,none⟩=some (.string (mx t k).tgt)):=aa (fun y I k R=>by
  rw[oA R];obtain⟨b,f,e,h1,h2,h3,h4,h5⟩:=fu.col (hT.c.later (aB b1 I)) R;exact⟨b,f,e,h1,h2,h3,h4,h5⟩)
 have b7:Hid (∀y,Below w1.heap.size w1 y->∀k (R:k<r.length),∃b f,pa=some ⟨b,f,none⟩/\∀y',Below y.heap.size y y'->y'.cell? ⟨b,f+k*3,none⟩=some (.int .i64 (r.getD k z3).1)/\y'.cell? ⟨b,f+k*3+1,none⟩=some (.int .i64 (r.getD k z3).2.1)/\y'.cell? ⟨b,f+k*3+2,none⟩=some (.string (r.getD k z3).2.2)/\b<y'.heap.size):=aa (fun y I k R=>(ha.later (aB b1 I)).cells R);have e2:Hid (∀y,Below w1.heap.size w1 y->∀(x:ByteArray) (u:T3),Calls prog 121 #[.pointer (some ⟨dp,0,none⟩),.string x,.agg #[.int .i64 u.1,.int .i64 u.2.1,.string u.2.2]] y fun e l=>e=.returned (.bool (decide (u.1≠0)&&(bg ts As x u).isNone))/\Below y.heap.size y l):=aa (fun y I x u=>yH (fun y2 e3=>hbk y2 (aB (aB b1 I) e3) x u))
 have a2:Hid (∀y,Below w1.heap.size w1 y->∀k (R:k<t.deps.length),∃b f pl cl,pd=some ⟨b,f,none⟩/\b<y.heap.size/\y.cell? ⟨b,f+k*2,none⟩=some (.slice pl (qt t k).left.length cl)/\y.cell? ⟨b,f+k*2+1,none⟩=some (.string (qt t k).right)/\∀y',Below y.heap.size y y'->Calls prog 122 #[.agg #[.string t.nm,.slice pc t.cols.length cc,.string t.key,.slice pd t.deps.length cd],.agg #[.slice pl (qt t k).left.length cl,.string (qt t k).right],.slice pa r.length ca,rv] y' fun e l=>e=.returned (.bool (dh t (qt t k) r B))/\Below y'.heap.size y' l):=aa (fun y I k R=>by
  rw[yI R];obtain⟨b,f,lv,e,h1,h2,h3,h4⟩:=pz.dep (hT.d.later (aB b1 I)) R;obtain⟨pl,cl,rfl,_,_⟩:=h4.slice;exact⟨b,f,pl,cl,e,h1,h2,h3,fun y' b2=>yG (hT.later (aB (aB b1 I) b2)) (h4.later b2) (hf.deps _ (z8 R)) (ha.later (aB (aB b1 I) b2)) (a.later (aB (aB b1 I) b2)) hro⟩)
 have HK:Hid (∀y,Below w1.heap.size w1 y->y.heap[F]?=some (.cells #[.string t.nm,.slice pc t.cols.length cc,.string t.key,.slice pd t.deps.length cd] 77)):=aa (fun y I=>aE I k1);subst e1;obtain⟨nc,a3⟩:=ag t.cols.length;obtain⟨nd,a4⟩:=ag t.deps.length;obtain⟨nb,O⟩:=ag B.length;have e9:(nc:Int)<=1000:=(by have:=hf.nc;omega);have f1:(nd:Int)<=1000:=(by have:=hf.nd;omega);have HN:=aa (ab a3 (ab a4 (ab hro.la O)));rw[hro.la,a3,a4,O];simp only[hro.la,a3,a4,O]at c4 a2 HK;rw[a3,a4]at a0;obtain⟨f2,S⟩:=ag t.nm;obtain⟨b8,o⟩:=ag t.key;have e4:=aa o;rw[S,o];rw[S,o]at a0;simp only[S,o]at c4 a2 HK;have HW:=aa (ab a0 (ab hF b1));clear hT hf ha a hro hbk b1 k1 a0 hF a3 a4 O S o;go_enter func85,ntmps85;go_upto_region 1 with fail;rw[HW.1,HW.2.1];have x0:=HK.out w1 (zb _ _);have x1:=aA x0 1;have xl:=aC x0;clear x0;go_wp2_with fail;clear x1 xl;go_loopg [19] (nc+1) (fun gh jv y=>∃(j:Nat),jv=.int .i64 (j:Int)/\j<=nc/\nc+1<=j+gh/\(∀i,i<j->eh t r i=false)/\Below w1.heap.size w1 y)
 case atStart=>exact⟨0,rfl,zh _,by omega,fun i hi=>by omega,zb _ _⟩
 obtain⟨j,rfl,hj,hg,s,N⟩:=hrel;have HI:=aa (ab s N);by_cases v:j<nc
 ·have d4:j<t.cols.length:=(by rw[HN.1];exact v);have f3:(j:Int)<(nc:Int):=(by omega);obtain⟨b,f,rfl,bl,c0,c1,c2,c3⟩:=b6.out wr N j d4;have e5:j<r.length:=(by rw[HN.2.2.1];exact d4);obtain⟨gv,ov,rfl,z⟩:=b7.out wr N j e5;obtain⟨c,L⟩:=ag (mx t j);obtain⟨u,hu⟩:=ag (r.getD j z3);rw[L]at c0 c1 c2 c3;rw[hu]at z;have O:eh t r j=(c.mu&&decide (u.1=0)):=(by unfold eh;rw[L,hu]);have U:=aD wr (.cells #[.string c.nm,.int .i64 c.kd,.bool c.mu,.string c.tgt] 95);have J:=z7 wr (.cells #[.string c.nm,.int .i64 c.kd,.bool c.mu,.string c.tgt] 95);obtain⟨M,A⟩:=ag (wr.alloc (.cells #[.string c.nm,.int .i64 c.kd,.bool c.mu,.string c.tgt] 95));obtain⟨V,hV⟩:=ag wr.heap.size;rw[A]at U J;rw[hV]at J;have c5:=z M U;have z2:=aA J 2;have z0:=aA J 0;have zl:=aC J;have v0:=c5.1;have vl:=c5.2.2.2;have g:=aa (ab A (ab hV (ab J (ab (aB HI.2 U) (ab O L)))));clear s N z U J A hV c5 O L hu;go_upto_region 4 with fail;rw[g.1,g.2.1];clear c0 c1 c2 c3 bl;obtain⟨mu,c6⟩:=ag c.mu;rw[c6]at z2;have c7:=aa c6;clear c6
  have E:eh t r j=false->∀i,i<j+1->eh t r i=false:=fun h i hi=>by
   by_cases e:i=j
   ·subst e;exact h
   exact HI.1 i (by omega)
  have a5:=aa E;clear E;cases mu
  ·have G:eh t r j=false:=(by rw[g.2.2.2.2.1,c7.out];rfl);have P:=aa G;clear G;go_wp2_with fail;go_roundg (nc-j)
   case measure=>omega
   exact⟨j+1,by go_num,by omega,by omega,a5.out P.out,g.2.2.2.1⟩
  by_cases X:u.1=0
  ·have G:eh t r j=true:=(by rw[g.2.2.2.2.1,c7.out,xd X];rfl);rw[X]at v0;have P:=aa G;clear G X;go_upto_region 5 with fail;clear v0 vl z2;refine ae 4 [.pointer (some ⟨V,0,none⟩),.string c.nm,.int .i64 7,.string c.nm] (fun y=>Below M.heap.size M y) ?A1 ?hm1 ?hB1 ?hA1 (aF M) ?hop1 ?hT1
   case hm1=>kernel_rfl
   case hB1=>kernel_rfl
   case hA1 =>
    simp only[am,ai,Act.put,cy,db,bt,cp,dc,da,bu,eg,ed];rfl
   case hop1 =>
    simp only[ce,ze,ah,yu];and_intros<;>intro l a<;>have n:=aa a
    have zl:=aC (aE a g.2.2.1);rotate_left;have z0:=aA (aE a g.2.2.1) 0;rotate_left 3
    all_goals(clear a;simp only[Par.Gives];go_simp;all_goals exact n.out)
   intro l a;simp only[cw,yq];have n:=aa (aB g.2.2.2.1 a);clear a z0 zl;go_wp2_with fail;go_ret2;have e:=pV (ts:=ts) (As:=As) (B:=B) (by rw[HN.1];exact v) P.out HI.1;rw[g.2.2.2.2.2]at e;exact⟨cQ e,aB HW.2.2 n.out⟩
  have G:eh t r j=false:=(by rw[g.2.2.2.2.1,c7.out,yw X];rfl);have f4:(u.1==0)=false:=beq_eq_false_iff_ne.2 X;have P:=aa G;clear G X;go_wp2_with fail;go_roundg (nc-j)
  case measure=>omega
  exact⟨j+1,by go_num,by omega,by omega,a5.out P.out,g.2.2.2.1⟩
 obtain rfl:j=nc:=(by omega);have H:∀i,i<t.cols.length->eh t r i=false:=(fun i hi=>HI.1 i (by rw[<-HN.1];exact hi));have W:=aa H;clear s N H v hj hg;have Y:=HK.out wr HI.2;have y0:=aA Y 0;have y1:=aA Y 1;have y2:=aA Y 2;have y3:=aA Y 3;have yl:=aC Y;have a6:=c4.out wr HI.2;clear Y;obtain⟨kb,c8⟩:=ag (jd t r B);rw[c8]at a6;have b4:=aa c8;clear c8;cases kb
 ·go_upto_region 9 with (go_at_call 120;refine a6.mono ?_;rintro e w2⟨rfl,a7⟩;have H2:=aa (aB HI.2 a7);clear a6 a7);clear y0 y1 y2 y3 yl;have a1:=aA (HK.out w2 H2.out) 1;have al:=aC (HK.out w2 H2.out);go_wp2_with fail;clear a1 al;go_loopg [46] (j+1) (fun gh jv y=>∃(m:Nat),jv=.int .i64 (m:Int)/\m<=j/\j+1<=m+gh/\(∀i,i<m->iw ts As t r i=false)/\Below w1.heap.size w1 y)
  case atStart=>exact⟨0,rfl,zh _,by omega,fun i hi=>by omega,H2.out⟩
  obtain⟨m,rfl,hm,hg,s,N⟩:=hrel;have a8:=aa (ab s N);by_cases v:m<j
  ·have d5:m<t.cols.length:=(by rw[HN.1];exact v);have f5:(m:Int)<(j:Int):=(by omega);obtain⟨b,f,rfl,bl,c0,c1,c2,c3⟩:=b6.out wr N m d5;have e6:m<r.length:=(by rw[HN.2.2.1];exact d5);obtain⟨gv,ov,rfl,z⟩:=b7.out wr N m e6;obtain⟨c,L⟩:=ag (mx t m);obtain⟨u,hu⟩:=ag (r.getD m z3);rw[L]at c0 c1 c2 c3;rw[hu]at z;have d6:iw ts As t r m=(decide (c.tgt≠e0)&&(decide (u.1≠0)&&(bg ts As c.tgt u).isNone)):=(by unfold iw;rw[L,hu]);have U:=aD wr (.cells #[.string c.nm,.int .i64 c.kd,.bool c.mu,.string c.tgt] 95);have J:=z7 wr (.cells #[.string c.nm,.int .i64 c.kd,.bool c.mu,.string c.tgt] 95);obtain⟨M,A⟩:=ag (wr.alloc (.cells #[.string c.nm,.int .i64 c.kd,.bool c.mu,.string c.tgt] 95));obtain⟨V,hV⟩:=ag wr.heap.size;rw[A]at U J;rw[hV]at J;have d0:Hid (∀y,Below M.heap.size M y->_):=aa (fun y I=>z y (aB U I));have g:=aa (ab A (ab hV (ab J (ab (aB a8.2 U) (ab d6 L)))))
   have E:iw ts As t r m=false->∀i,i<m+1->iw ts As t r i=false:=fun h i hi=>by
    by_cases e:i=m
    ·subst e;exact h
    exact a8.1 i (by omega)
   have a5:=aa E;clear s N z U J A hV d6 L hu E;go_upto_region 12 with fail;rw[g.1,g.2.1];clear c0 c1 c2 c3 bl;obtain⟨nm,d1⟩:=ag c.nm;obtain⟨tg,d2⟩:=ag c.tgt;rw[d1,d2]at g;have e7:=aa (ab d1 d2);clear d1 d2;by_cases b5:tg=e0
   ·subst b5;have G:iw ts As t r m=false:=(by rw[g.2.2.2.2.1];rfl);have P:=aa G;clear G;refine ae 13 [.pointer (some ⟨V,3,none⟩),.string e0,.bool false,.bool false,undef,undef,undef,undef,undef,undef,undef,undef,.bool false] (fun y=>Below M.heap.size M y) ?A2 ?hm2 ?hB2 ?hA2 (aF M) ?hop2 ?hT2
    case hm2=>kernel_rfl
    case hB2=>kernel_rfl
    case hA2 =>
     simp only[am,ai,Act.put,cy,db,bt,cp,dc,da,bu,eg,ed];rfl
    case hop2 =>
     simp only[ce,ze,ah,yu];and_intros<;>intro l a<;>have n:=aa a
     have zl:=aC (aE a g.2.2.1);rotate_left;have z0:=aA (aE a g.2.2.1) 3;rotate_left 12
     all_goals(clear a;simp only[Par.Gives];go_simp;all_goals exact n.out)
    intro l a;simp only[cw,yq];have n:=aa (aB g.2.2.2.1 a);clear a;go_wp2_with fail;go_roundg (j-m)
    case measure=>omega
    exact⟨m+1,by go_num,by omega,by omega,a5.out P.out,n.out⟩
   have f6:=nZ b5
   have d7:Hid (∀y,Below M.heap.size M y->Calls prog 121 #[.pointer (some ⟨dp,0,none⟩),.string tg,.agg #[.int .i64 u.1,.int .i64 u.2.1,.string u.2.2]] y fun e l=>e=.returned (.bool (iw ts As t r m))/\Below y.heap.size y l):=aa (fun y I=>by
    have e:iw ts As t r m=(decide (u.1≠0)&&(bg ts As tg u).isNone):=(by rw[g.2.2.2.2.1,xd b5,vt]);rw[e];exact e2.out y (aB g.2.2.2.1 I) tg u)
   obtain⟨q,hq⟩:=ag (iw ts As t r m);rw[hq]at d7;have HQ:=aa hq;clear hq b5;refine ae 13 [.pointer (some ⟨V,3,none⟩),.string tg,.bool true,.bool true,.pointer (some ⟨dp,0,none⟩),.pointer (some ⟨V,3,none⟩),.string tg,.slice (some ⟨gv,ov,none⟩) j ca,.int .i64 (m:Int),.pointer (some ⟨gv,ov+m*3,none⟩),.agg #[.int .i64 u.1,.int .i64 u.2.1,.string u.2.2],.bool q,.bool q] (fun y=>Below M.heap.size M y) ?A3 ?hm3 ?hB3 ?hA3 (aF M) ?hop3 ?hT3
   case hm3=>kernel_rfl
   case hB3=>kernel_rfl
   case hA3 =>
    simp only[am,ai,Act.put,cy,db,bt,cp,dc,da,bu,eg,ed];rfl
   case hop3 =>
    simp only[ce,ze,ah,yu];and_intros<;>intro l a<;>have n:=aa a
    have zl:=aC (aE a g.2.2.1);rotate_left;have z0:=aA (aE a g.2.2.1) 3;rotate_left 4;have zl:=aC (aE a g.2.2.1);rotate_left;have z0:=aA (aE a g.2.2.1) 3;rotate_left 4;have z1:=(d0.out l a).1;have z2:=(d0.out l a).2.1;have f7:=(d0.out l a).2.2.1;rotate_left
    ·clear a;simp only[Par.Gives];go_simp;exact(d7.out l n.out).mono (fun e f8⟨he,hb⟩=>⟨he,aB n.out hb⟩)
    rotate_left
    all_goals(clear a;simp only[Par.Gives];go_simp;all_goals exact n.out)
   intro l a;simp only[cw,yq];have n:=aa (aB g.2.2.2.1 a);have d8:=aa (aE a g.2.2.1);clear a;cases q
   ·go_wp2_with fail;go_roundg (j-m)
    case measure=>omega
    exact⟨m+1,by go_num,by omega,by omega,a5.out HQ.out,n.out⟩
   go_upto_region 13 with fail;obtain⟨w4,rfl⟩:∃x,x=l:=⟨_,rfl⟩;refine ae 4 [.pointer (some ⟨V,0,none⟩),.string nm,.int .i64 9,.string nm] (fun y=>Below w4.heap.size w4 y) ?A4 ?hm4 ?hB4 ?hA4 (aF w4) ?hop4 ?hT4
   case hm4=>kernel_rfl
   case hB4=>kernel_rfl
   case hA4 =>
    simp only[am,ai,Act.put,cy,db,bt,cp,dc,da,bu,eg,ed];rfl
   case hop4 =>
    simp only[ce,ze,ah,yu];and_intros<;>intro l a<;>have n:=aa a
    have zl:=aC (aE a d8.out);rotate_left;have z0:=aA (aE a d8.out) 0;rotate_left 3
    all_goals(clear a;simp only[Par.Gives];go_simp;all_goals exact n.out)
   intro l a;simp only[cw,yq];have e8:=aa (aB n.out a);clear a;go_wp2_with fail;go_ret2;have e:=uP (ts:=ts) (As:=As) (B:=B) W.out b4.out (by rw[HN.1];exact v) HQ.out a8.1;rw[g.2.2.2.2.2,e7.1]at e;exact⟨cQ e,aB HW.2.2 e8.out⟩
  obtain rfl:m=j:=(by omega);have H:∀i,i<t.cols.length->iw ts As t r i=false:=(fun i hi=>a8.1 i (by rw[<-HN.1];exact hi));have b9:=aa H;have q0:=HK.out wr N;have q3:=aA q0 3;have ql:=aC q0;clear s N H v hm hg q0;go_wp2_with fail;clear q3 ql;go_loopg [70] (nd+1) (fun gh jv y=>∃(i:Nat),jv=.int .i64 (i:Int)/\i<=nd/\nd+1<=i+gh/\(∀k,k<i->dh t (qt t k) r B=false)/\Below w1.heap.size w1 y)
  case atStart=>exact⟨0,rfl,zh _,by omega,fun i hi=>by omega,a8.2⟩
  obtain⟨i,rfl,hi,hg,s,N⟩:=hrel;have a9:=aa (ab s N);by_cases v:i<nd
  ·have f9:i<t.deps.length:=(by rw[HN.2.1];exact v);have g0:(i:Int)<(nd:Int):=(by omega);obtain⟨b,f,pl,cl,rfl,bl,c0,c1,Q⟩:=a2.out wr N i v;obtain⟨nl,d9⟩:=ag ((qt t i).left.length);obtain⟨rt,d3⟩:=ag ((qt t i).right);obtain⟨q,hq⟩:=ag (dh t (qt t i) r B);simp only[d9,d3,hq]at c0 c1 Q;have U:=aD wr (.cells #[.slice pl nl cl,.string rt] 124);have J:=z7 wr (.cells #[.slice pl nl cl,.string rt] 124);obtain⟨M,A⟩:=ag (wr.alloc (.cells #[.slice pl nl cl,.string rt] 124));obtain⟨V,hV⟩:=ag wr.heap.size;rw[A]at U J;rw[hV]at J;have hc:=Q M U;have b0:=aB a9.2 U;have f0:=HK.out M b0;have y0:=aA f0 0;have y1:=aA f0 1;have y2:=aA f0 2;have y3:=aA f0 3;have yl:=aC f0;have z0:=aA J 0;have z1:=aA J 1;have zl:=aC J;have g:=aa (ab A (ab hV (ab J (ab b0 (ab d3 hq)))));clear s N Q U J A hV d9 d3 hq b0 f0;go_upto_region 18 with fail;rw[g.1,g.2.1];clear c0 c1 bl;cases q
   ·go_wp2_with (go_at_call 122;refine hc.mono ?_;rintro e w4⟨rfl,Z⟩;have H4:=aa (aB g.2.2.2.1 Z);clear hc Z);go_roundg (nd-i)
    case measure=>omega
    refine⟨i+1,by go_num,by omega,by omega,fun k R=>?_,H4.out⟩;by_cases e:k=i
    ·subst e;exact g.2.2.2.2.2
    exact a9.1 k (by omega)
   go_upto_region 19 with (go_at_call 122;refine hc.mono ?_;rintro e w4⟨rfl,Z⟩;have H4:=aa (ab (aB g.2.2.2.1 Z) (aE Z g.2.2.1));clear hc Z);clear y0 y1 y2 y3 yl z0 z1 zl;refine ae 4 [.pointer (some ⟨V,1,none⟩),.string rt,.int .i64 10,.string rt] (fun y=>Below w4.heap.size w4 y) ?A5 ?hm5 ?hB5 ?hA5 (aF w4) ?hop5 ?hT5
   case hm5=>kernel_rfl
   case hB5=>kernel_rfl
   case hA5 =>
    simp only[am,ai,Act.put,cy,db,bt,cp,dc,da,bu,eg,ed];rfl
   case hop5 =>
    simp only[ce,ze,ah,yu];and_intros<;>intro l a<;>have n:=aa a
    have zl:=aC (aE a H4.2);rotate_left;have z0:=aA (aE a H4.2) 1;rotate_left 3
    all_goals(clear a;simp only[Par.Gives];go_simp;all_goals exact n.out)
   intro l a;simp only[cw,yq];have n:=aa (aB H4.1 a);clear a;go_wp2_with fail;go_ret2;have e:=uQ (ts:=ts) (As:=As) W.out b4.out b9.out (by rw[HN.2.1];exact v) g.2.2.2.2.2 a9.1;rw[g.2.2.2.2.1]at e;exact⟨cQ e,aB HW.2.2 n.out⟩
  obtain rfl:i=nd:=(by omega);have e:=pW (ts:=ts) (As:=As) W.out b4.out b9.out (fun k R=>a9.1 k (by rw[<-HN.2.1];exact R));have HE:=aa (cQ e);clear s N e;go_wp2_with fail;go_ret2;exact⟨HE.out,aB HW.2.2 a9.2⟩
 go_upto_region 8 with (go_at_call 120;refine a6.mono ?_;rintro e w2⟨rfl,a7⟩;have H2:=aa (aB HI.2 a7);clear a6 a7);clear y0 y1 y2 y3 yl;refine ae 4 [.pointer (some ⟨F,2,none⟩),.string b8,.int .i64 8,.string b8] (fun y=>Below w2.heap.size w2 y) ?A6 ?hm6 ?hB6 ?hA6 (aF w2) ?hop6 ?hT6
 case hm6=>kernel_rfl
 case hB6=>kernel_rfl
 case hA6 =>
  simp only[am,ai,Act.put,cy,db,bt,cp,dc,da,bu,eg,ed];rfl
 case hop6 =>
  simp only[ce,ze,ah,yu];and_intros<;>intro l a<;>have n:=aa a
  have zl:=aC (HK.out l (aB H2.out a));rotate_left;have z0:=aA (HK.out l (aB H2.out a)) 2;rotate_left 3
  all_goals(clear a;simp only[Par.Gives];go_simp;all_goals exact n.out)
 intro l a;simp only[cw,yq];have n:=aa (aB H2.out a);clear a;go_wp2_with fail;go_ret2;have e:=uO (ts:=ts) (As:=As) (B:=B) W.out b4.out;rw[e4.out]at e;exact⟨cQ e,aB HW.2.2 n.out⟩
end
end Go.Proofs.YthlccadnojnkaaaGreat
namespace Go.Proofs.YthlccadnojnkaaaGreat
open Go.Proofs.Tryz
open Go Go.RowKit Go.Shelf Go.Proofs Co Co.S Par
theorem GV:(prog.info? 27).map (fun i=>(i.zero,i.size,i.bytes))=some (some (.slice none 0 0),1,24):=by kernel_rfl
structure Cr where
 D:Nat
 F:Nat
 R:Nat
 T:Nat
 L:Nat
structure uy (W:World) (x:Cr) (dp tb:Nat) (nm key:ByteArray) (cv dv:Value) (A:List R1) (k:Nat) (S:Nat->Prop) (w:World):Prop where
 cd:w.heap[x.D]?=some (.cells #[.pointer (some ⟨dp,0,none⟩)] 23)
 cf:w.heap[x.F]?=some (.cells #[.string nm,cv,.string key,dv] 77)
 cr:w.heap[x.R]?=some (.cells zF 39)
 ct:w.heap[x.T]?=some (.cells #[.pointer (some ⟨tb,0,none⟩)] 62)
 lv:∃v vs,w.heap[x.L]?=some (.cells #[v] 135)/\ac w W.heap.size 27 1 v k vs/\(∀q,v.ownBlock=some q->S q/\q≠x.L/\q≠x.R)/\∀i (hi:i<A.length),i<k->∃vi,vs[i]?=some vi/\ac w W.heap.size 32 3 vi A[i].2.length (cells3 A[i].2)
 sR:S x.R
 sL:S x.L
 lo:W.heap.size<=x.R/\W.heap.size<=x.L/\x.R≠x.L/\x.D≠x.L/\x.F≠x.L/\x.T≠x.L
 old:∀b,b<W.heap.size->S b∨∃cur e m,w.heap[b]?=some (.cells cur e m)
 bel:Below W.heap.size W w
structure BC (W:World) (R:Nat) (er id:Int) (col:ByteArray) (S:Nat->Prop) (w:World):Prop where
 cr:w.heap[R]?=some (.cells #[.int .i64 er,.int .i64 0,.string e0,.int .i64 id,.string col] 39)
 old:∀b,b<W.heap.size->S b∨∃cur e m,w.heap[b]?=some (.cells cur e m)
 bel:Below W.heap.size W w
section
variable {W A' B' w1 w2:World}{x:Cr}{dp tb k R:Nat}{nm key col:ByteArray}{cv dv:Value}{A:List R1}{S:Nat->Prop}{er id:Int}
theorem ac.kept{base n size:Nat}{e:TypeId}{v:Value}{xs:List Value}(h:ac A' base e size v n xs)(hkc:∀(b:Nat) (a:Array Value) (e:TypeId) (m:Nat×Nat),A'.heap[b]?=some (Obj.cells a e m)->B'.heap[b]?=some (Obj.cells a e m)):ac B' base e size v n xs:=
 h.of (fun q d=>by
  obtain⟨_,a,c⟩:=ac.block h q d;rw[hkc _ _ _ _ c,c])
theorem uy.loc(h:uy W x dp tb nm key cv dv A k S A')(hsz:A'.heap.size<=B'.heap.size)(hb:∀b,S b->B'.heap[b]?=A'.heap[b]?)(hkc:∀(b:Nat) (a:Array Value) (e:TypeId) (m:Nat×Nat),A'.heap[b]?=some (Obj.cells a e m)->B'.heap[b]?=some (Obj.cells a e m))(hos:B'.os=A'.os/\B'.tape=A'.tape/\B'.output=A'.output):uy W x dp tb nm key cv dv A k S B':=by
 obtain⟨c,d⟩:=lV hb hkc hsz hos h.old h.bel;obtain⟨v,vs,l1,l2,l3,l4⟩:=h.lv
 exact⟨hkc _ _ _ _ h.cd,hkc _ _ _ _ h.cf,hkc _ _ _ _ h.cr,hkc _ _ _ _ h.ct,⟨v,vs,hkc _ _ _ _ l1,l2.kept hkc,l3,fun i f g=>by
  obtain⟨j,l,n⟩:=l4 i f g;exact⟨j,l,n.kept hkc⟩⟩,h.sR,h.sL,h.lo,c,d⟩
theorem BC.loc(h:BC W R er id col S A')(hsz:A'.heap.size<=B'.heap.size)(hb:∀b,S b->B'.heap[b]?=A'.heap[b]?)(hkc:∀(b:Nat) (a:Array Value) (e:TypeId) (m:Nat×Nat),A'.heap[b]?=some (Obj.cells a e m)->B'.heap[b]?=some (Obj.cells a e m))(hos:B'.os=A'.os/\B'.tape=A'.tape/\B'.output=A'.output):BC W R er id col S B':=by
 obtain⟨c,d⟩:=lV hb hkc hsz hos h.old h.bel;exact⟨hkc _ _ _ _ h.cr,c,d⟩
theorem eT(hk:k<=A.length):(bk A k).length=k:=by unfold bk;rw[yh,we];omega
theorem uR{j:Nat}(hk:k<=A.length)(hj:j<(bk A k).length):(bk A k)[j]=(A[j]'(by rw[eT hk]at hj;omega)).2:=by
 simp[bk]
theorem uy.rl(h:uy W x dp tb nm key cv dv A k S w1)(hk:k<=A.length):∃v,w1.heap[x.L]?=some (.cells #[v] 135)/\RL w1 v (bk A k):=by
 obtain⟨v,vs,l1,l2,l3,l4⟩:=h.lv;obtain⟨p,c,e,_,_⟩:=ac.isslice l2;refine⟨v,l1,p,c,by rw[eT hk];exact e,fun j a=>?_⟩;have b:j<k:=(by rw[eT hk]at a;exact a);have d:j<A.length:=(by omega);obtain⟨i,l,m⟩:=l4 j d b;obtain⟨g,n,f,_,_⟩:=ac.slice l2 (by omega);rw[e]at f;cases f;rw[e]at l2;refine⟨g,i,rfl,(ac.lt l2 g rfl).2,ac.cell l2 l,?_⟩;rw[uR hk a];exact(eb.jk m rfl).mono (fun _ _ _=>trivial)
theorem uy.more(h:uy W x dp tb nm key cv dv A k S w1)(hin:ie S w1)(s:Below w1.heap.size w1 w2)(hk:k<A.length){vr:Value}{nr:Nat}(hnr:A[k].2.length=nr)(hr:ac w2 w1.heap.size 32 3 vr nr (cells3 A[k].2)){v v':Value}{vs:List Value}{w4 w5:World}(hv:w1.heap[x.L]?=some (.cells #[v] 135))(hrow:ac w1 W.heap.size 27 1 v k vs)(hb4:Below w2.heap.size w2 w4)(hr5:ac w5 W.heap.size 27 1 v' (k+1) (vs++[vr]))(hg5:w4.grownBy w5 v.ownBlock)(ho5:∀q,v'.ownBlock=some q->v.ownBlock=some q∨w4.heap.size<=q):∃J,Grows S J w1/\ie J (w5.setCell ⟨x.L,0,none⟩ v')/\Chg S w1 (w5.setCell ⟨x.L,0,none⟩ v')/\uy W x dp tb nm key cv dv A (k+1) J (w5.setCell ⟨x.L,0,none⟩ v'):=by
 subst hnr;have a:=aB s hb4;obtain⟨v0,y,l1,l2,l3,l4⟩:=h.lv;obtain rfl:v0=v:=by rw[hv]at l1;cases l1;rfl
 obtain rfl:y=vs:=by
  rcases l2.2 with ⟨c,f⟩ | ⟨g,a3,j,c,_,u,_,_,_,e4⟩
  ·rcases hrow.2 with ⟨t,e6⟩ | ⟨g',F,G,t,_⟩
   ·have X:=l2.1;have Y:=hrow.1;rw[f,Nat.zero_mul]at X Y;rw[List.length_eq_zero_iff.1 X,List.length_eq_zero_iff.1 Y]
   rw[c]at t;cases t
  rcases hrow.2 with ⟨t,e6⟩ | ⟨g',F,G,t,_,Z,_,_,_,e8⟩
  ·rw[c]at t;cases t
  rw[c]at t;cases t
  rw[u]at Z;cases Z
  rw[<-e4,<-e8]
 have hz:=a.size;have M:=hg5.size;have a4:x.L<w1.heap.size:=aC hv
 have r:∀q,q<w1.heap.size->v0.ownBlock≠some q->q≠x.L->(w5.setCell ⟨x.L,0,none⟩ v').heap[q]?=w1.heap[q]?:=fun q l d z=>by
  rw[yd w5 ⟨x.L,0,none⟩ q v' z,hg5.block q (by omega) (fun e=>d e.symm)];exact a.block q l
 have B:v0.ownBlock≠some x.L:=fun e=>(l3 _ e).2.1 rfl
 have N:w5.heap[x.L]?=some (.cells #[v0] 135):=by
  rw[hg5.block x.L (by omega) (fun e=>B e.symm)];exact aE a hv
 have w:∀q,v0.ownBlock=some q->∃j,w1.heap[q]?=some (.cells j 27):=(fun q l=>(ac.block hrow q l).2);have O:=y9 w5 x.L 0 #[v0] 135 v' N
 have H:∀{vv:Value} {n:Nat} {xs:List Value} {base:Nat} {ee:TypeId} {sz:Nat},ac w4 base ee sz vv n xs->ee≠27->ee≠135->ac (w5.setCell ⟨x.L,0,none⟩ v') base ee sz vv n xs:=fun{vv n xs base ee sz} hh E hne2=>hh.of (fun q l=>by
  obtain⟨_,j,c⟩:=ac.block hh q l
  have P:q≠x.L:=fun e=>by
   have f:=aE a hv;rw[<-e,c]at f
   injection f with f;injection f with _ f;exact hne2 f
  rw[yd w5 ⟨x.L,0,none⟩ q v' P,hg5.block q (aC c) (fun e=>by
   obtain⟨a0,f⟩:=w q e.symm;have u:=aE a f;rw[c]at u
   injection u with u;injection u with _ u;exact E u)])
 have Q:(w5.setCell ⟨x.L,0,none⟩ v').heap.size=w5.heap.size:=(by simp);refine⟨fun b=>S b∨(w1.heap.size<=b/\b<w5.heap.size),fun b s=>s.imp id (fun h=>h.1),fun b s=>?_,?_,?_⟩
 ·rw[Q];rcases s with s|s
  ·have:=hin b s;omega
  exact s.2
 ·have hc:Chg S w1 w5:=⟨hg5.os.trans a.os,hg5.tape.trans a.tape,hg5.output.trans a.output,by omega,fun q l hn=>by
   rw[hg5.block q (by omega) (fun e=>hn (l3 q e.symm).1)];exact a.block q l⟩
  exact hc.setCell (p:=⟨x.L,0,none⟩) (fun _=>h.sL) _
 have E:∀q,q<w1.heap.size->(∃o ty,w1.heap[q]?=some (.cells o ty)/\ty≠27)->v0.ownBlock≠some q:=fun q _⟨o,ty,d,z⟩ e=>by
  obtain⟨j,c⟩:=w q e;rw[d]at c
  injection c with c;injection c with _ c;exact z c
 have keep:∀{q:Nat} {o:Array Value} {ty:TypeId},w1.heap[q]?=some (.cells o ty)->ty≠27->q≠x.L->(w5.setCell ⟨x.L,0,none⟩ v').heap[q]?=some (.cells o ty):=(fun{q o ty} d z h3=>(r q (aC d) (E q (aC d) ⟨o,ty,d,z⟩) h3).trans d);refine⟨keep h.cd (by decide) h.lo.2.2.2.1,keep h.cf (by decide) h.lo.2.2.2.2.1,keep h.cr (by decide) h.lo.2.2.1,keep h.ct (by decide) h.lo.2.2.2.2.2,⟨v',y++[vr],O,hr5.of (fun q l=>?_),fun q l=>?_,fun i hi a5=>?_⟩,.inl h.sR,.inl h.sL,h.lo,fun b R=>?_,?_⟩
 ·refine yd w5 ⟨x.L,0,none⟩ q v' (fun e=>?_);rcases ho5 q l with d|d
  ·exact(l3 q d).2.1 e
  have:q=x.L:=e;omega
 ·rcases ho5 q l with d|d
  ·exact⟨.inl (l3 q d).1,(l3 q d).2⟩
  have z:=(ac.lt hr5 q l).2;have h3:=aC h.cr;exact⟨.inr ⟨by omega,z⟩,by omega,by omega⟩
 ·have U:y.length=k:=(by have:=hrow.1;rw[Nat.mul_one]at this;exact this);by_cases e:i=k
  ·subst e;refine⟨vr,by rw[<-U,ye (zm _),Nat.sub_self];rfl,?_⟩;exact H ((hr.later hb4).mono h.bel.size) (by decide) (by decide)
  obtain⟨vi,c,f⟩:=l4 i hi (by omega);exact⟨vi,by rw[wf (by omega)];exact c,H (f.later a) (by decide) (by decide)⟩
 ·rcases h.old b R with I|⟨j,e,m,I⟩
  ·exact .inl (.inl I)
  have V:=aC I;by_cases c:v0.ownBlock=some b
  ·exact .inl (.inl (l3 b c).1)
  refine .inr ⟨j,e,m,(r b V c (fun f=>?_)).trans I⟩
  have:=h.lo.2.1
  omega
 refine((aB h.bel a).trans ⟨hg5.os,hg5.tape,hg5.output,M,fun q l=>hg5.block q (by have:=h.bel.size;omega) (fun e=>?_)⟩).setCell (p:=⟨x.L,0,none⟩) h.lo.2.1 _
 have:=(ac.lt hrow q e.symm).1
 omega
theorem uy.found(h:uy W x dp tb nm key cv dv A k S w1)(hin:ie S w1)(a:Below w1.heap.size w1 w2):∃f,Grows S f w1/\ie f (((((w2.setCell ⟨x.R,0,none⟩ (.int .i64 er)).setCell ⟨x.R,1,none⟩ (.int .i64 0)).setCell ⟨x.R,2,none⟩ (.string e0)).setCell ⟨x.R,3,none⟩ (.int .i64 id)).setCell ⟨x.R,4,none⟩ (.string col))/\Chg S w1 (((((w2.setCell ⟨x.R,0,none⟩ (.int .i64 er)).setCell ⟨x.R,1,none⟩ (.int .i64 0)).setCell ⟨x.R,2,none⟩ (.string e0)).setCell ⟨x.R,3,none⟩ (.int .i64 id)).setCell ⟨x.R,4,none⟩ (.string col))/\BC W x.R er id col f (((((w2.setCell ⟨x.R,0,none⟩ (.int .i64 er)).setCell ⟨x.R,1,none⟩ (.int .i64 0)).setCell ⟨x.R,2,none⟩ (.string e0)).setCell ⟨x.R,3,none⟩ (.int .i64 id)).setCell ⟨x.R,4,none⟩ (.string col)):=by
 have l:=gS (aE a h.cr) (.int .i64 er) (.int .i64 0) (.string e0) (.int .i64 id) (.string col);have c:=aW w2 x.R (.int .i64 er) (.int .i64 0) (.string e0) (.int .i64 id) (.string col);generalize ((((w2.setCell ⟨x.R,0,none⟩ (.int .i64 er)).setCell ⟨x.R,1,none⟩ (.int .i64 0)).setCell ⟨x.R,2,none⟩ (.string e0)).setCell ⟨x.R,3,none⟩ (.int .i64 id)).setCell ⟨x.R,4,none⟩ (.string col)=w6 at l c ⊢;have p:=a.size;have g:=c.size;refine⟨fun b=>S b∨(w1.heap.size<=b/\b<w6.heap.size),fun b a=>a.imp (fun h=>h) (fun h=>h.1),fun b a=>?_,⟨c.os.trans a.os,c.tape.trans a.tape,c.output.trans a.output,by omega,fun q n o=>?_⟩,l,fun b i=>?_,?_⟩
 ·rcases a with a|a
  ·have:=hin b a;omega
  exact a.2
 ·rw[c.block q (by omega) (fun e=>o (by cases e;exact h.sR))];exact a.block q n
 ·rcases h.old b i with d|⟨j,e,m,d⟩
  ·exact .inl (.inl d)
  have r:=aC d;refine .inr ⟨j,e,m,(c.block b (by omega) (fun e=>?_)).trans (aE a d)⟩;cases e
  have:=h.lo.1
  omega
 exact(aB h.bel a).trans ⟨c.os,c.tape,c.output,g,fun q n=>c.block q (by have:=h.bel.size;omega) (fun e=>by cases e;have:=h.lo.1;omega)⟩
end
end Go.Proofs.YthlccadnojnkaaaGreat
namespace Go.Proofs.YthlccadnojnkaaaGreat
open Go.Proofs.Tryz
open Go Go.RowKit Go.Proofs Co Co.S Par
theorem yJ(w:World)(g:Nat)(a b c d:Value):w.grownBy ((((w.setCell ⟨g,0,none⟩ a).setCell ⟨g,1,none⟩ b).setCell ⟨g,2,none⟩ c).setCell ⟨g,3,none⟩ d) (some g):=
 aP (aP (aP (aP (cK w (some g)) 0 a) 1 b) 2 c) 3 d
structure AI (w:World) (gr m gv cv nc:Nat) (r:List T3):Prop where
 rl:gr<w.heap.size
 r0:w.cell? ⟨gr,m*2+1,none⟩=some (.slice (some ⟨gv,0,none⟩) nc cv)
 id:∃v,w.cell? ⟨gr,m*2,none⟩=some v
 vl:gv<w.heap.size
 v:∀c,c<nc->w.cell? ⟨gv,c*3,none⟩=some (.int .i64 (r.getD c z3).1)/\w.cell? ⟨gv,c*3+1,none⟩=some (.int .i64 (r.getD c z3).2.1)/\w.cell? ⟨gv,c*3+2,none⟩=some (.string (r.getD c z3).2.2)
structure Hg (w:World) (b nt t na nc nd gs cs go co gr cr:Nat) (pc:Option Addr) (kc:Nat) (pd:Option Addr) (kd:Nat) (T0:T):Prop where
 b0:w.cell? ⟨b,0,none⟩=some (.slice (some ⟨gs,0,none⟩) nt cs)
 bl:b<w.heap.size
 sl:gs<w.heap.size
 s0:w.cell? ⟨gs,t*4,none⟩=some (.string T0.nm)
 s1:w.cell? ⟨gs,t*4+1,none⟩=some (.slice pc nc kc)
 s2:w.cell? ⟨gs,t*4+2,none⟩=some (.string T0.key)
 s3:w.cell? ⟨gs,t*4+3,none⟩=some (.slice pd nd kd)
 b1:w.cell? ⟨b,1,none⟩=some (.slice (some ⟨go,0,none⟩) nt co)
 ol:go<w.heap.size
 o0:w.cell? ⟨go,t,none⟩=some (.slice (some ⟨gr,0,none⟩) na cr)
 rt:ey w (.slice pc nc kc) (.slice pd nd kd) T0
section
variable {W:World}{b:Nat}{ts:List T}{tt:List RT}{i:NI}{O:Nat->Nat}{t k:Nat}{y:RT}
theorem yK(h:ew W b ts tt i O)(ht:t<ts.length)(hy:tt[t]?=some y)(hk:k<y.A.length)(h0:0<ts[t].cols.length):∃gs cs go co gr cr pc kc pd kd,(∀w,Below W.heap.size W w->Hg w b ts.length t y.A.length ts[t].cols.length ts[t].deps.length gs cs go co gr cr pc kc pd kd ts[t])/\∀m (l:m<y.A.length),∃gv cv,∀w,Below W.heap.size W w->AI w gr m gv cv ts[t].cols.length y.A[m].2:=by
 obtain⟨⟨gs,cs,go,co,pr,cr,pc,kc,pd,kd⟩,d,a⟩:=h.nreads ht hy h0;dsimp only at d a;obtain⟨gr,_,_,rfl,_⟩:=a k hk;refine⟨gs,cs,go,co,gr,cr,pc,kc,pd,kd,fun w f=>?_,fun m l=>?_⟩
 ·obtain⟨p,q,r,s,u,v,x,z,B,g,j⟩:=d w f;exact⟨u,r,v,x,z,B,g,p,s,q,j⟩
 obtain⟨E,gv,cv,e,F⟩:=a m l;cases e;refine⟨gv,cv,fun w f=>?_⟩;obtain⟨G,H,I,J,L,M⟩:=F w f;refine⟨G,I,⟨_,H⟩,J,fun c N=>?_⟩;obtain⟨Q,R,e,P⟩:=eb.cells L (k:=c) (by rw[M];exact N);cases e;obtain⟨r1,n,o,_⟩:=P w (zb _ _);rw[xq]at r1 n o;exact⟨r1,n,o⟩
end
section
variable {W:World}{pc pd:Option Addr}{nc nd kc kd:Nat}{t:T}
theorem pX(hT:ey W (.slice pc nc kc) (.slice pd nd kd) t)(h0:0<t.cols.length):∃bc oc,pc=some ⟨bc,oc,none⟩/\∀y,Below W.heap.size W y->bc<y.heap.size/\∀j,j<t.cols.length ->
  y.cell? ⟨bc,oc+j*4,none⟩=some (.string (mx t j).nm)/\y.cell? ⟨bc,oc+j*4+1,none⟩=some (.int .i64 (mx t j).kd)/\y.cell? ⟨bc,oc+j*4+2,none⟩=some (.bool (mx t j).mu)/\y.cell? ⟨bc,oc+j*4+3,none⟩=some (.string (mx t j).tgt):=by
 obtain⟨b,a,rfl,_⟩:=fu.col hT.c h0;refine⟨b,a,rfl,fun y d=>⟨?_,fun j f=>?_⟩⟩
 ·obtain⟨_,_,e,g,_⟩:=fu.col (hT.c.later d) h0;cases e;exact g
 rw[oA f];obtain⟨_,_,e,g,h,i,k,l⟩:=fu.col (hT.c.later d) f;cases e;exact⟨h,i,k,l⟩
theorem Fo(hT:ey W (.slice pc nc kc) (.slice pd nd kd) t){i:Nat}(hi:i<t.deps.length):∃c od pl cl,pd=some ⟨c,od,none⟩/\(∀y,Below W.heap.size W y->c<y.heap.size/\y.cell? ⟨c,od+i*2,none⟩=some (.slice pl (qt t i).left.length cl)/\y.cell? ⟨c,od+i*2+1,none⟩=some (.string (qt t i).right))/\∀j,j<(qt t i).left.length->∃bl ol,pl=some ⟨bl,ol,none⟩/\∀y,Below W.heap.size W y->bl<y.heap.size/\y.cell? ⟨bl,ol+j,none⟩=some (.string ((qt t i).left.getD j e0)):=by
 rw[yI hi];obtain⟨b,f,lv,rfl,g,l,m,h⟩:=pz.dep hT.d hi;obtain⟨pl,cl,rfl,_,_⟩:=h.slice;refine⟨b,f,pl,cl,rfl,fun y a=>⟨z9 g a.size,?_,?_⟩,fun j k=>?_⟩
 ·exact(za (w:=W) (a.block _ g)).trans l
 ·exact(za (w:=W) (a.block _ g)).trans m
 obtain⟨bl,ol,rfl,_,_⟩:=lg.word h k;refine⟨bl,ol,rfl,fun y a=>?_⟩;obtain⟨_,_,e,n,o⟩:=lg.word (h.later a) k;cases e;refine⟨n,?_⟩;rw[zu,z6 k];exact o
end
section
variable {t:T}{r a:List T3}{B:List (List T3)}{p:List T3->Bool}
theorem rR{x:ByteArray}{q:Nat}(h:gx t.cols x=(q:Int)):decide (a.getD q z3=r.getD q z3)=ar t x r a:=by
 unfold ar ur;rw[h,v7];exact decide_eq_decide.2 eq_comm
theorem DX{n:Nat}(hn:B.length=n)(h:∀m,m<n->p (B.getD m [])=false):B.any p=false:=by
 rw[vn];intro a b;obtain⟨m,c,rfl⟩:=xz b
 have:=h m (by omega)
 rw[zu,z6 c]at this;simpa using this
theorem Eg{m:Nat}(hm:m<B.length)(h:p (B.getD m [])=true):B.any p=true:=by
 rw[zu,z6 hm]at h;exact List.any_eq_true.2 ⟨_,z8 hm,h⟩
theorem Ih(h:t.key=e0):jd t r B=false:=by unfold jd;rw[h];rfl
def ro(t:T)(l:List ByteArray)(k:Nat)(r a:List T3):Bool:=(l.take k).all fun x=>ar t x r a
theorem GG(l:List ByteArray):ro t l 0 r a=true:=by simp[ro]
theorem Jq{l:List ByteArray}{k:Nat}(hk:k<l.length):ro t l (k+1) r a=(ro t l k r a&&ar t (l.getD k e0) r a):=by
 unfold ro;rw[List.take_add_one,List.all_append,zu,z6 hk]
 simp
theorem JG(l:List ByteArray):ro t l l.length r a=l.all fun x=>ar t x r a:=by
 unfold ro;rw[List.take_length]
end
