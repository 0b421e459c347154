import Derived.Test.YthlccadnojnkaaaGreatZk42
import Derived.Test.YthlccadnojnkaaaGreatZk19
set_option maxHeartbeats 8000000
set_option maxRecDepth 100000
namespace Go.Proofs.YthlccadnojnkaaaGreat
open Go Go.RowKit Go.Proofs Co Co.S
abbrev TT:Nat->Prop:=fun _=>True
theorem yD {c:C} {x:ByteArray} {b:Nat} {w:World} (h:w.cell? ⟨b,0,none⟩=some (.string x)):Calls Tryz.prog 177 #[colV c,.pointer (some ⟨b,0,none⟩)] w fun e w'=>e=.returned (.bool (isC x c))/\Below w.heap.size w w':=by
 have hlt:b<w.heap.size:=World.block_lt_of_cell? w ⟨b,0,none⟩ h;have hx2:(c.nm.toList==x.toList)=isC x c:=(by rw[aR];rfl);generalize isC x c=r at hx2 ⊢;unfold colV;go_enter Tryz.func177,Tryz.ntmps177
 go_wp2
 go_ret;exact⟨rfl,aD w _⟩
theorem aFD {l:List C} {v:Value} {x:ByteArray} {b:Nat} {W:World} (h:RdC W v l) (hb:W.cell? ⟨b,0,none⟩=some (.string x)):Calls Tryz.prog 113 #[v,.func (.func 177) #[] #[.pointer (some ⟨b,0,none⟩)]] W fun e w'=>e=.returned (.int .i64 (ixC l x))/\Below W.heap.size W w':=by
 obtain⟨pc,cc,hcv,hc,hm⟩:=h.slice;obtain⟨n,hn⟩:∃ n,l.length=n:=⟨_,rfl⟩;unfold maxLen at hm;rw[hn] at hcv hc;subst hcv;have hbl:b<W.heap.size:=World.block_lt_of_cell? W ⟨b,0,none⟩ hb;have HN:=qAq hn;have HW:=qAq (qBq h (qBq hb hbl));have hent:=enters_of Tryz.func177 (by kernel_rfl) rfl;clear h hb hn hbl;go_enter Tryz.func113,Tryz.ntmps113;go_wp2_with fail;go_loopg [8] (n+1) (fun gh jv w=>∃ (j:Nat),jv=.int .i64 (j:Int)/\j<=n/\n+1<=j+gh/\(∀ i (h:i<l.length),i<j->isC x l[i]=false)/\Below W.heap.size W w)
 case atStart=>exact⟨0,rfl,Nat.zero_le _,by omega,fun i _ hi=>by omega,Below.refl _ _⟩
 obtain⟨j,rfl,hj,hg,hno,hB⟩:=hrel;have HI:=qAq (qBq hno hB);by_cases hlt:j<n
 ·have hjl:j<l.length:=(by rw[HN.out];exact hlt);obtain⟨bc,off,rfl,hbc,c0,c1,c2,c3⟩:=RdC.col (HW.out.1.later hB) hjl;have hcell:wr.cell? ⟨b,0,none⟩=some (.string x):=(World.cell?_of_block (w:=W) (hB.block b HW.out.2.2)).trans HW.out.2.1;have hcall:=yD (c:=l[j]) hcell;obtain⟨c,hcj⟩:∃ c,l[j]=c:=⟨_,rfl⟩;rw[hcj] at c0 c1 c2 c3 hcall;have HC:=qAq hcj;have hji:(j:Int)<(n:Int):=(by omega);clear hcj hno hB hcell;unfold colV at hcall;cases hx:isC x c
  ·have HX:=qAq hx;rw[hx] at hcall;clear hx;go_wp2_with (go_at_call 177;(with_reducible refine hcall.mono ?_);rintro e w2 ⟨rfl,hb2⟩);have HB2:=qAq hb2;go_roundg (n-j)
   case measure=>omega
   refine⟨j+1,by go_num,by omega,by omega,fun i hi hij=>?_,aB HI.out.2 HB2.out⟩;by_cases e:i=j
   ·subst e;rw[HC.out];exact HX.out
   exact HI.out.1 i hi (by omega)
  have HX:=qAq hx;rw[hx] at hcall;clear hx;go_wp2_with (go_at_call 177;(with_reducible refine hcall.mono ?_);rintro e w2 ⟨rfl,hb2⟩);go_ret;exact⟨aQ (wY j (by rw[HN.out];exact hlt) (by rw[HC.out];exact HX.out) (fun i hi=>HI.out.1 i _ hi)).symm,aB HI.out.2 hb2⟩
 go_wp2_with fail;go_ret;exact⟨aQ (mQ (fun i hi=>HI.out.1 i hi (by have:=HN.out;omega))).symm,HI.out.2⟩
theorem InV.cells {w:World} {p:Option Addr} {n c k:Nat} {A:List T3} (h:InV TT w (.slice p n c) A) (hk:k<A.length):∃ b off,p=some ⟨b,off,none⟩/\∀ w',Below w.heap.size w w'->w'.cell? ⟨b,off+k*3,none⟩=some (.int .i64 (A.getD k z3).1)/\w'.cell? ⟨b,off+k*3+1,none⟩=some (.int .i64 (A.getD k z3).2.1)/\w'.cell? ⟨b,off+k*3+2,none⟩=some (.string (A.getD k z3).2.2)/\b<w'.heap.size:=by
 obtain⟨b,off,rfl,_,_⟩:=InV.val h hk;have e:A[k]=A.getD k z3:=(by rw[List.getD_eq_getElem?_getD,List.getElem?_eq_getElem hk];rfl);refine⟨b,off,rfl,fun w' hw=>?_⟩;obtain⟨b',o',e2,q1,q2,q3,q4⟩:=InV.val (h.later hw) hk;cases e2;rw[e] at q2 q3 q4;exact⟨q2,q3,q4,q1⟩
theorem nY {w:World} {cv dv va vb:Value} {t:T} {nm key x:ByteArray} {k:Nat} {A B:List T3} (hT:RdT w cv dv t) (hx:ixC t.cols x=(k:Int)) (ha:InV TT w va A) (hb:InV TT w vb B) (hA:k<A.length) (hB:k<B.length) (hl:A.length<=1000/\B.length<=1000) :
  Calls Tryz.prog 152 #[.agg #[.string nm,cv,.string key,dv],.string x,va,vb] w fun e w'=>e=.returned (.bool (decide (A.getD k z3=B.getD k z3)))/\Below w.heap.size w w':=by
 obtain⟨pc,cc,rfl,_,_⟩:=hT.c.slice;obtain⟨pd,cd,rfl,_,_⟩:=hT.d.slice;obtain⟨pa,ca,rfl,_,_⟩:=ha.slice;obtain⟨pb,cb,rfl,_,_⟩:=hb.slice;obtain⟨ga,oa,rfl,hac⟩:=ha.cells hA;obtain⟨gb,ob,rfl,hbc⟩:=hb.cells hB;obtain⟨u,hu⟩:∃ u,A.getD k z3=u:=⟨_,rfl⟩;obtain⟨v,hv⟩:∃ v,B.getD k z3=v:=⟨_,rfl⟩;rw[hu] at hac;rw[hv] at hbc;rw[hu,hv];have b1:=aD w (.cells #[.string nm,.slice pc t.cols.length cc,.string key,.slice pd t.deps.length cd] 77);have k1:=heap_alloc_new w (.cells #[.string nm,.slice pc t.cols.length cc,.string key,.slice pd t.deps.length cd] 77);have b2:=aD (w.alloc (.cells #[.string nm,.slice pc t.cols.length cc,.string key,.slice pd t.deps.length cd] 77)) (.cells #[.string x] 9);have k2:=heap_alloc_new (w.alloc (.cells #[.string nm,.slice pc t.cols.length cc,.string key,.slice pd t.deps.length cd] 77)) (.cells #[.string x] 9);have k1:=aE b2 k1;rw[World.size_alloc] at k2;have b2:=aB b1 b2;obtain⟨w1,hw1⟩:∃ y,(w.alloc (.cells #[.string nm,.slice pc t.cols.length cc,.string key,.slice pd t.deps.length cd] 77)).alloc (.cells #[.string x] 9)=y:=⟨_,rfl⟩;obtain⟨F,hF⟩:∃ F,w.heap.size=F:=⟨_,rfl⟩;rw[hw1] at k1 k2 b2;rw[hF] at k1 k2;have hcall:=aFD (x:=x) (hT.c.later b2) (aA k2 0);rw[hx] at hcall;obtain⟨nc,hnc⟩:∃ n,t.cols.length=n:=⟨_,rfl⟩;obtain⟨nd,hnd⟩:∃ n,t.deps.length=n:=⟨_,rfl⟩;obtain⟨na,hna⟩:∃ n,A.length=n:=⟨_,rfl⟩;obtain⟨nb,hnb⟩:∃ n,B.length=n:=⟨_,rfl⟩;rw[hnc,hnd] at hw1 k1;rw[hnc] at hcall;rw[hna,hnb] at hl;rw[hna] at hA;rw[hnb] at hB;rw[hnc,hnd,hna,hnb];have hAi:(k:Int)<(na:Int):=(by omega);have hBi:(k:Int)<(nb:Int):=(by omega);have x1:=aA k1 1;have xl:=aC k1;have yl:=aC k2;have HW:=qAq (qBq hw1 (qBq hF b2));have HC:=qAq (qBq hac hbc);have heq:=(fun y=>zX u v y);obtain⟨r,hr⟩:∃ r,decide (u=v)=r:=⟨_,rfl⟩;rw[hr] at heq ⊢;have HEQ:=qAq heq;have hna3:(na:Int)<=1000:=(by omega);have hnb3:(nb:Int)<=1000:=(by omega);have hent:=enters_of Tryz.func177 (by kernel_rfl) rfl;clear hT ha hb hac hbc hu hv b1 b2 k1 k2 hw1 hF hx hnc hnd hna hnb hA hB hl hr heq;go_enter Tryz.func152,Tryz.ntmps152;go_upto_region 1 with fail;rw[HW.out.1,HW.out.2.1];go_upto_region 2 with (go_at_call 113;(with_reducible refine hcall.mono ?_);rintro e w2 ⟨rfl,hb2⟩;have H2:=qAq (aB HW.out.2.2 hb2);clear hcall hb2);clear x1 xl yl;refine Par.wp_region_par 10 [.slice (some ⟨ga,oa,none⟩) na ca,.int .i64 (k:Int),.pointer (some ⟨ga,oa+k*3,none⟩),.agg #[.int .i64 (u.1),.int .i64 (u.2.1),.string (u.2.2)],.slice (some ⟨gb,ob,none⟩) nb cb,.int .i64 (k:Int),.pointer (some ⟨gb,ob+k*3,none⟩),.agg #[.int .i64 (v.1),.int .i64 (v.2.1),.string (v.2.2)],.bool r,.bool r] (fun y=>Below w2.heap.size w2 y) ?A1 ?hm1 ?hB1 ?hA1 ((aF w2)) ?hop1 ?hT1
 case hm1=>kernel_rfl
 case hB1=>kernel_rfl
 case hA1 =>
  simp only[Par.putA,Par.dstAt,Act.put,qDq,qEq,qFq,qLq,qGq,qHq,qIq,qJq,qKq];rfl
 case hop1 =>
  simp only[qMq,List.take_zero,Par.GiveAll,and_true];and_intros<;>intro w' hR<;>have HR:=qAq hR
  rotate_left 3;have z1:=(HC.out.1 w' (aB H2.out hR)).1;have z2:=(HC.out.1 w' (aB H2.out hR)).2.1;have z3':=(HC.out.1 w' (aB H2.out hR)).2.2.1;rotate_left 4;have z1:=(HC.out.2 w' (aB H2.out hR)).1;have z2:=(HC.out.2 w' (aB H2.out hR)).2.1;have z3':=(HC.out.2 w' (aB H2.out hR)).2.2.1;rotate_left
  ·clear hR;simp only[Par.Gives];go_simp;exact (HEQ.out w').mono (fun e w'' ⟨he,hb⟩=>⟨he,aB HR.out hb⟩)
  rotate_left
  all_goals(clear hR;simp only[Par.Gives];go_simp;all_goals exact HR.out)
 intro w' hR;simp only[qNq,List.drop_nil];have HR:=qAq (aB H2.out hR);clear hR;go_wp2_with fail;go_ret;exact⟨rfl,HR.out⟩
theorem aFE {A:List R1} {c j:Nat} (hj:j<A.length) (hc:c<A[j].2.length):(colL A c).getD j z3=A[j].2[c]:=by
 rw[dE (by simpa [colL] using hj)];simp[colL,hc]
def isP (l:List T3) (j k:Nat):Bool:=decide ((l.getD j z3).1=2)&&(List.range k).all fun m=>decide (l.getD m z3≠l.getD j z3)
theorem aDM (l:List T3) (j:Nat):isP l j 0=decide ((l.getD j z3).1=2):=by simp[isP]
theorem aFF (l:List T3) (j:Nat):isP l j j=firstB l j:=rfl
theorem aDN (l:List T3) (j k:Nat):isP l j (k+1)=(isP l j k&&decide (l.getD k z3≠l.getD j z3)):=by
 unfold isP;rw[List.range_succ,List.all_append];simp[Bool.and_assoc]
theorem aHq {l:List T3} {j k:Nat} (hk:k<=j) (h:isP l j k=false):firstB l j=false:=by
 cases hf:firstB l j with
 | false=>rfl
 | true =>
  obtain⟨h1,h2⟩:=eA.1 hf
  have:isP l j k=true:=by
   unfold isP;rw[Bool.and_eq_true,List.all_eq_true];exact⟨decide_eq_true h1,fun m hm=>decide_eq_true (h2 m (by have:=List.mem_range.1 hm;omega))⟩
  rw[this] at h;cases h
structure XA where
 gs:Nat
 cs:Nat
 go:Nat
 co:Nat
 pr:Option Addr
 cr:Nat
 pc:Option Addr
 kc:Nat
 pd:Option Addr
 kd:Nat
section
variable {W:World} {b:Nat} {ts:List T} {tt:List RT} {i:NI} {O:Nat->Nat} {t:Nat} {y:RT}
theorem DbN.nreads (h:DbN W b ts tt i O) (ht:t<ts.length) (hy:tt[t]?=some y) (h0:0<ts[t].cols.length):∃ x:XA,(∀ w,Below W.heap.size W w->w.cell? ⟨b,1,none⟩=some (.slice (some ⟨x.go,0,none⟩) ts.length x.co)/\w.cell? ⟨x.go,t,none⟩=some (.slice x.pr y.A.length x.cr)/\b<w.heap.size/\x.go<w.heap.size /\
   w.cell? ⟨b,0,none⟩=some (.slice (some ⟨x.gs,0,none⟩) ts.length x.cs)/\x.gs<w.heap.size/\w.cell? ⟨x.gs,t*4,none⟩=some (.string ts[t].nm)/\w.cell? ⟨x.gs,t*4+1,none⟩=some (.slice x.pc ts[t].cols.length x.kc)/\w.cell? ⟨x.gs,t*4+2,none⟩=some (.string ts[t].key)/\w.cell? ⟨x.gs,t*4+3,none⟩=some (.slice x.pd ts[t].deps.length x.kd)/\RdT w (.slice x.pc ts[t].cols.length x.kc) (.slice x.pd ts[t].deps.length x.kd) ts[t]) /\
  ∀ k (hk:k<y.A.length),∃ gr gv cv,x.pr=some ⟨gr,0,none⟩/\∀ w,Below W.heap.size W w->gr<w.heap.size/\w.cell? ⟨gr,k*2,none⟩=some (.int .i64 y.A[k].1)/\w.cell? ⟨gr,k*2+1,none⟩=some (.slice (some ⟨gv,0,none⟩) ts[t].cols.length cv)/\gv<w.heap.size/\InV TT w (.slice (some ⟨gv,0,none⟩) ts[t].cols.length cv) y.A[k].2/\y.A[k].2.length=ts[t].cols.length:=by
 obtain⟨⟨gs,cs,go,co,gn,cn,pc,kc,pd,kd⟩,_,_,_,_,_,_,hR⟩:=h.reads ht hy;have hx1:=h.ok ht hy;obtain⟨pr,cr,hrv,_,_⟩:=hx1.rows.isslice;refine⟨⟨gs,cs,go,co,pr,cr,pc,kc,pd,kd⟩,fun w hw=>?_,fun k hk=>?_⟩
 ·have k:=hR w hw;have o0:=k.o0;rw[hrv] at o0;exact⟨k.b1,o0,k.bl,k.ol,k.b0,k.sl,k.s0,k.s1,k.s2,k.s3,k.rt⟩
 have hkv:k<y.vs.length:=(by rw[hx1.n];exact hk);have hlk:=hx1.len _ (List.getElem_mem hk);have hvr:=hx1.vals k hk hkv;rw[hlk] at hvr;obtain⟨gv,cv,r5,_,_⟩:=hvr.slice (by omega);rw[r5] at hvr;obtain⟨gr,cr',r1,_,_⟩:=hx1.rows.slice (by omega);have hrr:=hx1.rows;rw[r1] at hrr;rw[hrv] at r1;cases r1;obtain⟨q1,q2⟩:=dI hx1.n hk;rw[r5] at q2;refine⟨gr,gv,cv,rfl,fun w hb=>?_⟩;have hrw:=hrr.later hb;have hvw:=hvr.later hb;exact⟨(HRow.lt hrw gr rfl).2,hrw.cell q1,hrw.cell q2,(HRow.lt hvw gv rfl).2,(InV.of_row hvw hlk).mono (fun _ _ _=>trivial),hlk⟩
theorem aDO (x y:T3):eqV x.1 x.2.1 x.2.2 y.1 y.2.1 y.2.2=decide (x=y):=by
 obtain⟨a,b,c⟩:=x;obtain⟨a',b',c'⟩:=y;unfold eqV
 simp
theorem yE (h:DbN W b ts tt i O) (ht:t<ts.length) (hy:tt[t]?=some y) (hl:y.A.length<=100000) (hnt:ts.length<=1000) (hcl:ts[t].cols.length<=1000) (hc0:0<ts[t].cols.length) {c:Nat} (hc:c<ts[t].cols.length) :
  Calls Tryz.prog 48 #[.pointer (some ⟨b,0,none⟩),.int .i64 (t:Int),.int .i64 (c:Int)] W fun e w'=>e=.returned (.int .i64 ((firstsP (colL y.A c) y.A.length).length:Int))/\Below W.heap.size W w':=by
 have hrx:=h.nreads ht hy hc0;obtain⟨nt,hnt'⟩:∃ n,ts.length=n:=⟨_,rfl⟩;obtain⟨A,hAe⟩:∃ A,y.A=A:=⟨_,rfl⟩;obtain⟨nc,hnc⟩:∃ n,ts[t].cols.length=n:=⟨_,rfl⟩;rw[hAe,hnt',hnc] at hrx;rw[hAe] at hl ⊢;obtain⟨n,hn⟩:∃ n,A.length=n:=⟨_,rfl⟩;obtain⟨l,hll⟩:∃ l,colL A c=l:=⟨_,rfl⟩;have hti:(t:Int)<(nt:Int):=(by omega);have hnti:(nt:Int)<=1000:=(by omega);rw[hnc] at hc hcl;have hn':(n:Int)<=100000:=(by omega);have hci:(c:Int)<(nc:Int):=(by omega);have hci':(nc:Int)<=1000:=(by omega);rw[hll,hn];cases n with
 | zero =>
  obtain⟨x,hr0,_⟩:=hrx;obtain⟨o1,o2,o3,o4,_⟩:=hr0 W (Below.refl _ _);obtain⟨gs,cs,g,c1,pr,cr,pc,kc,pd,kd⟩:=x;dsimp only at o1 o2 o3 o4;rw[hn] at o2;clear h hr0 hn hll hnt' hAe hy;go_enter Tryz.func48,Tryz.ntmps48;go_wp2_with fail;go_loopg [7,8] 1 (fun gh cv iv w=>cv=.int .i64 0/\iv=.int .i64 0/\w=W)
  case atStart=>exact⟨rfl,rfl,rfl⟩
  case round =>
   obtain⟨rfl,rfl,rfl⟩:=hrel;go_wp2_with fail;go_ret;exact⟨rfl,Below.refl _ _⟩
 | succ n0 =>
  obtain⟨⟨gs,cs,g,c1,pr,cr,pc,kc,pd,kd⟩,hr0,hr1⟩:=hrx;dsimp only at hr0 hr1;rw[hn] at hr0
  obtain⟨gr,rfl⟩:∃ gr,pr=some ⟨gr,0,none⟩:=by
   obtain⟨gr,_,_,e,_⟩:=hr1 0 (by omega);exact⟨gr,e⟩
  have hrd:∀ w,Below W.heap.size W w->(w.cell? ⟨b,1,none⟩=some (.slice (some ⟨g,0,none⟩) nt c1)/\w.cell? ⟨g,t,none⟩=some (.slice (some ⟨gr,0,none⟩) (n0+1) cr)/\b<w.heap.size/\g<w.heap.size/\gr<w.heap.size)/\∀ k,k<n0+1->∃ gv cv,w.cell? ⟨gr,k*2+1,none⟩=some (.slice (some ⟨gv,0,none⟩) nc cv) /\
    ∀ j,j<nc->w.cell? ⟨gv,j*3,none⟩=some (.int .i64 ((colL A j).getD k z3).1)/\w.cell? ⟨gv,j*3+1,none⟩=some (.int .i64 ((colL A j).getD k z3).2.1)/\w.cell? ⟨gv,j*3+2,none⟩=some (.string ((colL A j).getD k z3).2.2):=fun w hw=>by
   obtain⟨o1,o2,o3,o4,_⟩:=hr0 w hw;refine⟨⟨o1,o2,o3,o4,?_⟩,fun k hk=>?_⟩
   ·obtain⟨gr',_,_,e,hq⟩:=hr1 0 (by omega);cases e;exact (hq w hw).1
   ·obtain⟨gr',gv,cv,e,hq⟩:=hr1 k (by omega);cases e;obtain⟨q1,q2,q3,q4,q5,q6⟩:=hq w hw;refine⟨gv,cv,q3,fun j hj=>?_⟩;have hkA:k<A.length:=(by omega);rw[aFE hkA (by rw[q6];exact hj)];obtain⟨b',o',e,_,r1,r2,r3⟩:=InV.val q5 (j:=j) (by rw[q6];exact hj);cases e;rw[Nat.zero_add] at r1 r2 r3;exact⟨r1,r2,r3⟩
  obtain⟨n,hnn⟩:∃ n,n0+1=n:=⟨_,rfl⟩;rw[hnn] at hrd hn' hn ⊢;have HRD:=qAq hrd;have HN:=qAq (qBq hn (qBq hnc (qBq hll hc)));clear h hr0 hr1 hrd hn hnc hll hc hl hcl hc0 hnn hnt hnt' hAe hy;go_enter Tryz.func48,Tryz.ntmps48;go_wp2_with fail;go_loopg [7,8] (n+1) (fun gh cv iv w=>∃ (j:Nat),iv=.int .i64 (j:Int)/\j<=n/\n+1<=j+gh/\cv=.int .i64 ((firstsP l j).length:Int)/\Below W.heap.size W w)
  case atStart=>exact⟨0,rfl,Nat.zero_le _,by omega,rfl,Below.refl _ _⟩
  case round =>
   obtain⟨j,rfl,hj,hg,rfl,hB⟩:=hrel;have hcnt:(firstsP l j).length<=j:=Nat.le_trans (List.length_filter_le _ _) (by rw[List.length_range];exact Nat.le_refl _);obtain⟨⟨x1,x2,xl,xg,xr⟩,D2⟩:=HRD.out wr hB;by_cases hlt:j<n
   ·have hji:(j:Int)<(n:Int):=(by omega);obtain⟨gv,cv,y0,y1⟩:=D2 j hlt;obtain⟨y1,y2,y3⟩:=y1 c (by omega);rw[HN.out.2.2.1] at y1 y2 y3;obtain⟨u,hu⟩:∃ u,l.getD j z3=u:=⟨_,rfl⟩;rw[hu] at y1 y2 y3;obtain⟨m,hm⟩:∃ m,(firstsP l j).length=m:=⟨_,rfl⟩;have hmi:(m:Int)<=100000:=(by omega);rw[hm];have HB:=qAq (qBq hB (qBq hu hm));clear D2 hB hu hm hcnt;go_upto_region 6 with fail;have hV:=heap_alloc_new wr (.cells #[.int .i64 u.1,.int .i64 u.2.1,.string u.2.2] 32);have hbV:=aD wr (.cells #[.int .i64 u.1,.int .i64 u.2.1,.string u.2.2] 32);obtain⟨w1,hw1⟩:∃ w1,wr.alloc (.cells #[.int .i64 u.1,.int .i64 u.2.1,.string u.2.2] 32)=w1:=⟨_,rfl⟩;obtain⟨V,hVe⟩:∃ V,wr.heap.size=V:=⟨_,rfl⟩;rw[hw1] at hV hbV ⊢;rw[hVe] at hV ⊢;have hb1:=aB HB.out.1 hbV;have z0:=aA hV 0;have H1:=qAq (qBq hV hb1)
    have hu2:isP l j 0=(u.1==2):=by
     rw[aDM,HB.out.2.1,Bool.eq_iff_iff];simp
    clear hV hbV hw1 hVe hb1 x1 x2 xl xg xr y0 y1 y2 y3;go_upto_region 7 with fail;rw[<- hu2];clear z0 hu2
    go_upto_block 2 with fail
    go_cut [10] from 300 to 300 (fun gv wx=>gv=.bool (firstB l j)/\Below W.heap.size W wx)
    case first =>
     go_wp2_with fail;go_loopg [10,11] (j+1) (fun gh gv kv w=>∃ (k:Nat),kv=.int .i64 (k:Int)/\k<=j/\j+1<=k+gh/\gv=.bool (isP l j k)/\Below w1.heap.size w1 w)
     case atStart=>exact⟨0,rfl,Nat.zero_le _,by omega,rfl,Below.refl _ _⟩
     case round =>
      obtain⟨k,rfl,hkj,hgk,rfl,hBk⟩:=hrel;cases hp:isP l j k
      ·have HBk:=qAq (qBq (aB H1.out.2 hBk) (aHq hkj hp));by_cases hkl:(k:Int)<(j:Int)
       all_goals
        clear hBk hp;go_wp2_with fail;go_meet;exact⟨by rw[HBk.out.2],HBk.out.1⟩
      ·by_cases hlk:k<j
       ·have hkl:(k:Int)<(j:Int):=(by omega);have hkn:(k:Int)<(n:Int):=(by omega);have hkn':k<n:=(by omega);obtain⟨⟨e1,e2,e3,e4,e5⟩,D2⟩:=HRD.out wr (aB H1.out.2 hBk);obtain⟨gv',cv',y0,y1⟩:=D2 k hkn';obtain⟨y1,y2,y3⟩:=y1 c (by omega);rw[HN.out.2.2.1] at y1 y2 y3;obtain⟨x,hx⟩:∃ x,l.getD k z3=x:=⟨_,rfl⟩;rw[hx] at y1 y2 y3;have hVk:=aE hBk H1.out.1
        have HC:Hid (∀ w,Below wr.heap.size wr w->(w.cell? ⟨b,1,none⟩=some (.slice (some ⟨g,0,none⟩) nt c1)/\w.cell? ⟨g,t,none⟩=some (.slice (some ⟨gr,0,none⟩) n cr)/\w.cell? ⟨gr,k*2+1,none⟩=some (.slice (some ⟨gv',0,none⟩) nc cv'))/\(b<w.heap.size/\gr<w.heap.size) /\
          (w.cell? ⟨gv',c*3,none⟩=some (.int .i64 x.1)/\w.cell? ⟨gv',c*3+1,none⟩=some (.int .i64 x.2.1)/\w.cell? ⟨gv',c*3+2,none⟩=some (.string x.2.2))/\w.heap[V]?=some (.cells #[.int .i64 u.1,.int .i64 u.2.1,.string u.2.2] 32)):=qAq (fun w hb=>by
         have tr:∀ {a:Addr} {v:Value},wr.cell? a=some v->w.cell? a=some v:=(fun h=>(World.cell?_of_block (w:=wr) (hb.block _ (World.block_lt_of_cell? _ _ h))).trans h);exact⟨⟨tr e1,tr e2,tr y0⟩,⟨Nat.lt_of_lt_of_le e3 hb.size,Nat.lt_of_lt_of_le e5 hb.size⟩,⟨tr y1,tr y2,tr y3⟩,aE hb hVk⟩)
        have heq:=(fun w=>kX x.1 x.2.1 x.2.2 u.1 u.2.1 u.2.2 w);simp only[aDO] at heq;have HBk:=qAq (qBq hBk (qBq hp hx));clear D2 e1 e2 e3 e4 e5 y0 y1 y2 y3 hVk hBk hp hx;go_upto_region 10 with fail;refine Par.wp_region_par 15 [.pointer (some ⟨b,0,none⟩),.pointer (some ⟨b,0,none⟩),.pointer (some ⟨b,1,none⟩),.slice (some ⟨g,0,none⟩) nt c1,.int .i64 ((t:Int)),.pointer (some ⟨g,t,none⟩),.slice (some ⟨gr,0,none⟩) n cr,.int .i64 ((k:Int)),.pointer (some ⟨gr,k*2,none⟩),.pointer (some ⟨gr,k*2+1,none⟩),.slice (some ⟨gv',0,none⟩) nc cv',.int .i64 ((c:Int)),.pointer (some ⟨gv',c*3,none⟩),.agg #[.int .i64 (x.1),.int .i64 (x.2.1),.string (x.2.2)],.agg #[.int .i64 (u.1),.int .i64 (u.2.1),.string (u.2.2)]] (fun w=>Below wr.heap.size wr w) ?A1 ?hm1 ?hB1 ?hA1 ((aF wr)) ?hop1 ?hT1
        case hm1=>kernel_rfl
        case hB1=>kernel_rfl
        case hA1 =>
         simp only[Par.putA,Par.dstAt,Act.put,qDq,qEq,qFq,qLq,qGq,qHq,qIq,qJq,qKq];rfl
        case hop1 =>
         simp only[qMq,List.take_zero,Par.GiveAll,and_true];and_intros<;>intro w' hR<;>have HR:=qAq hR
         rotate_left;have zl:=(HC.out w' hR).2.1.1;rotate_left;have zl:=(HC.out w' hR).2.1.1;rotate_left;have x0:=(HC.out w' hR).1.1;rotate_left 3;have x0:=(HC.out w' hR).1.2.1;rotate_left 3;have zl:=(HC.out w' hR).2.1.2;rotate_left;have x0:=(HC.out w' hR).1.2.2;rotate_left 3;have x0:=(HC.out w' hR).2.2.1.1;have x1:=(HC.out w' hR).2.2.1.2.1;have x2:=(HC.out w' hR).2.2.1.2.2;rotate_left;have x0:=aA (HC.out w' hR).2.2.2 0;have x1:=aA (HC.out w' hR).2.2.2 1;have x2:=aA (HC.out w' hR).2.2.2 2;rotate_left
         all_goals(clear hR;simp only[Par.Gives];go_simp;all_goals exact HR.out)
        case hT1 =>
         intro w' hR;simp only[qNq,List.drop_zero];have HR:=qAq hR;have heq:=heq w';clear hR;go_wp2_with (go_at_call 86;(with_reducible refine heq.mono ?_);rintro e w4 ⟨rfl,hb4⟩;have H4:=qAq (aB HBk.out.1 (HR.out.trans (hb4.mono HR.out.size)));clear heq hb4);go_roundg (j-k)
         case measure=>omega
         case rel=>exact⟨k+1,rfl,by omega,by omega,by rw[aDN,HBk.out.2.1,HBk.out.2.2,HB.out.2.1];simp,H4.out⟩
       ·obtain rfl:k=j:=(by omega);have HBk:=qAq (qBq (aB H1.out.2 hBk) hp);clear hBk hp;go_wp2_with fail;go_meet;exact⟨by rw[<- aFF,HBk.out.2],HBk.out.1⟩
    case rest =>
     obtain⟨rfl,hBc⟩:=hcut;have HBc:=qAq hBc;have hsucc:=rN l j;rw[HB.out.2.2] at hsucc;cases hf:firstB l j
     ·rw[hf] at hsucc;have HS:=qAq hsucc;clear hBc hf hsucc;go_wp2_with fail;go_roundg (n-j)
      case measure=>omega
      case rel=>exact⟨j+1,rfl,by omega,by omega,by rw[HS.out];rfl,HBc.out⟩
     ·rw[hf] at hsucc;have HS:=qAq hsucc;clear hBc hf hsucc;go_wp2_with fail;go_roundg (n-j)
      case measure=>omega
      case rel=>exact⟨j+1,rfl,by omega,by omega,by rw[HS.out];rfl,HBc.out⟩
   ·obtain rfl:j=n:=(by omega);clear D2;go_wp2_with fail;go_ret;exact⟨rfl,hB⟩
end
def isCol (t:T) (x:ByteArray):Prop:=∃ k:Nat,ixC t.cols x=(k:Int)/\k<t.cols.length
theorem rP {w:World} {cv dv va vb lv:Value} {t:T} {nm key rt:ByteArray} {left:List ByteArray} {A B:List T3} (hT:RdT w cv dv t) (hL:RdS w lv left) (hd:∀ x∈left,isCol t x) (ha:InV TT w va A) (hb:InV TT w vb B) (hA:A.length=t.cols.length) (hB:B.length=t.cols.length) (hc:t.cols.length<=1000) (hn:left.length<=1000) :
  Calls Tryz.prog 154 #[.agg #[.string nm,cv,.string key,dv],.agg #[lv,.string rt],va,vb] w fun e w'=>e=.returned (.bool (left.all fun x=>likeP t x A B))/\Below w.heap.size w w':=by
 obtain⟨pc,cc,rfl,_,_⟩:=hT.c.slice;obtain⟨pd,cd,rfl,_,_⟩:=hT.d.slice;obtain⟨pa,ca,rfl,_,_⟩:=ha.slice;obtain⟨pb,cb,rfl,_,_⟩:=hb.slice;obtain⟨pl,cl,rfl,_,_⟩:=hL.slice;have b1:=aD w (.cells #[.string nm,.slice pc t.cols.length cc,.string key,.slice pd t.deps.length cd] 77);have k1:=heap_alloc_new w (.cells #[.string nm,.slice pc t.cols.length cc,.string key,.slice pd t.deps.length cd] 77);have b2:=aD (w.alloc (.cells #[.string nm,.slice pc t.cols.length cc,.string key,.slice pd t.deps.length cd] 77)) (.cells #[.slice pl left.length cl,.string rt] 124);have k2:=heap_alloc_new (w.alloc (.cells #[.string nm,.slice pc t.cols.length cc,.string key,.slice pd t.deps.length cd] 77)) (.cells #[.slice pl left.length cl,.string rt] 124);have k1:=aE b2 k1;rw[World.size_alloc] at k2;have b2:=aB b1 b2;obtain⟨w1,hw1⟩:∃ y,(w.alloc (.cells #[.string nm,.slice pc t.cols.length cc,.string key,.slice pd t.deps.length cd] 77)).alloc (.cells #[.slice pl left.length cl,.string rt] 124)=y:=⟨_,rfl⟩;obtain⟨F,hF⟩:∃ F,w.heap.size=F:=⟨_,rfl⟩;rw[hw1] at k1 k2 b2;rw[hF] at k1 k2
 have HLIKE:Hid (∀ y,Below w1.heap.size w1 y->∀ x∈left,Calls Tryz.prog 152 #[.agg #[.string nm,.slice pc t.cols.length cc,.string key,.slice pd t.deps.length cd],.string x,.slice pa A.length ca,.slice pb B.length cb] y fun e w'=>e=.returned (.bool (likeP t x A B))/\Below y.heap.size y w'):=qAq (fun y hy x hx=>by
  obtain⟨k,hk,hkl⟩:=hd x hx
  have:=nY (nm:=nm) (key:=key) (hT.later (aB b2 hy)) hk (ha.later (aB b2 hy)) (hb.later (aB b2 hy)) (by omega) (by omega) (by omega)
  unfold likeP valC;rw[hk];exact this)
 have HW0:Hid (∀ y,Below w1.heap.size w1 y->∀ j (hj:j<left.length),∃ b off,pl=some ⟨b,off,none⟩/\b<y.heap.size/\y.cell? ⟨b,off+j,none⟩=some (.string left[j])):=qAq (fun y hy j hj=>RdS.word (hL.later (aB b2 hy)) hj);obtain⟨nc,hnc⟩:∃ n,t.cols.length=n:=⟨_,rfl⟩;obtain⟨nd,hnd⟩:∃ n,t.deps.length=n:=⟨_,rfl⟩;obtain⟨nl,hnl⟩:∃ n,left.length=n:=⟨_,rfl⟩;rw[hnc,hnd] at HLIKE;rw[hA,hB,hnc] at HLIKE;rw[hnc,hnd,hnl] at hw1;rw[hnc,hnd] at k1;rw[hnl] at k2;rw[hA,hB,hnc,hnd,hnl];have hnli:(nl:Int)<=1000:=(by omega);have x0:=aA k2 0;have xl:=aC k2;have HK:Hid (∀ y,Below w1.heap.size w1 y->y.heap[F]?=some (.cells #[.string nm,.slice pc nc cc,.string key,.slice pd nd cd] 77)):=qAq (fun y hy=>aE hy k1);have HW:=qAq (qBq hw1 (qBq hF (qBq b2 hnl)));clear hT hL hd ha hb hA hB hc hn b1 b2 k1 k2 hw1 hF hnc hnd hnl;go_enter Tryz.func154,Tryz.ntmps154;go_upto_region 1 with fail;rw[HW.out.1,HW.out.2.1];go_wp2_with fail;clear x0 xl;go_loopg [14] (nl+1) (fun gh jv y=>∃ (j:Nat),jv=.int .i64 (j:Int)/\j<=nl/\nl+1<=j+gh/\(∀ i (h:i<left.length),i<j->likeP t left[i] A B=true)/\Below w1.heap.size w1 y)
 case atStart=>exact⟨0,rfl,Nat.zero_le _,by omega,fun i _ hi=>by omega,Below.refl _ _⟩
 obtain⟨j,rfl,hj,hg,hyes,hB⟩:=hrel;have HI:=qAq (qBq hyes hB);by_cases hlt:j<nl
 ·have hjl:j<left.length:=(by rw[HW.out.2.2.2];exact hlt);have hji:(j:Int)<(nl:Int):=(by omega);obtain⟨b,off,rfl,yl,y1⟩:=HW0.out wr hB j hjl;have hcall:=HLIKE.out wr hB _ (List.getElem_mem hjl);have yf:=HK.out wr hB;have y0:=aA yf 0;have yk:=aA yf 1;have y2:=aA yf 2;have y3:=aA yf 3;have yfl:=aC yf;obtain⟨x,hx⟩:∃ x,left[j]=x:=⟨_,rfl⟩;rw[hx] at y1 hcall;obtain⟨r,hr⟩:∃ r,likeP t x A B=r:=⟨_,rfl⟩;rw[hr] at hcall;have HX:=qAq (qBq hx hr);clear hyes hB hx hr yf;cases r
  ·go_wp2_with (go_at_call 152;(with_reducible refine hcall.mono ?_);rintro e w2 ⟨rfl,hb2⟩;have H2:=qAq (aB HI.out.2 hb2);clear hcall hb2);go_ret;refine⟨?_,aB HW.out.2.2.1 H2.out⟩
   have:(left.all fun x=>likeP t x A B)=false:=by
    rw[List.all_eq_false];exact⟨left[j],List.getElem_mem hjl,by rw[HX.out.1,HX.out.2];decide⟩
   rw[this];rfl
  go_wp2_with (go_at_call 152;(with_reducible refine hcall.mono ?_);rintro e w2 ⟨rfl,hb2⟩;have H2:=qAq (aB HI.out.2 hb2);clear hcall hb2);go_roundg (nl-j)
  case measure=>omega
  refine⟨j+1,by go_num,by omega,by omega,fun i hi hij=>?_,H2.out⟩;by_cases e:i=j
  ·subst e;rw[HX.out.1];exact HX.out.2
  exact HI.out.1 i hi (by omega)
 obtain rfl:j=nl:=(by omega);go_wp2_with fail;go_ret;refine⟨?_,aB HW.out.2.2.1 HI.out.2⟩
 have:(left.all fun x=>likeP t x A B)=true:=by
  rw[List.all_eq_true];intro x hx;obtain⟨i,hi,rfl⟩:=List.getElem_of_mem hx;exact HI.out.1 i hi (by rw[<- HW.out.2.2.2];exact hi)
 rw[this];rfl
def RL (w:World) (v:Value) (B:List (List T3)):Prop:=∃ p c,v=.slice p B.length c/\∀ j (hj:j<B.length),∃ g vj,p=some ⟨g,0,none⟩/\g<w.heap.size/\w.cell? ⟨g,j,none⟩=some vj/\InV TT w vj B[j]
theorem RL.later {w w':World} {v:Value} {B:List (List T3)} (h:RL w v B) (hb:Below w.heap.size w w'):RL w' v B:=by
 obtain⟨p,c,e,hr⟩:=h;refine⟨p,c,e,fun j hj=>?_⟩;obtain⟨g,vj,e1,e2,e3,e4⟩:=hr j hj;exact⟨g,vj,e1,Nat.lt_of_lt_of_le e2 hb.size,(World.cell?_of_block (a:=⟨g,j,none⟩) (hb.block g e2)).trans e3,e4.later hb⟩
def ixR (q:Nat->Bool) (n:Nat):Int:=match firstK q n with|none=>-1|some k=>(k:Int)
section
variable {w:World} {v:Value} {B:List (List T3)} {q:Nat->Bool}
theorem aFG {F V:Nat} (h:RL w v B) (hl:B.length<=1000) (hcall:∀ w1,Below w.heap.size w w1->∀ j (hj:j<B.length) vj,InV TT w1 vj B[j]->Calls Tryz.prog 151 #[vj,.pointer (some ⟨F,0,none⟩),.pointer (some ⟨V,0,none⟩)] w1 fun e w'=>e=.returned (.bool (q j))/\Below w1.heap.size w1 w') :
  Calls Tryz.prog 176 #[v,.func (.func 151) #[] #[.pointer (some ⟨F,0,none⟩),.pointer (some ⟨V,0,none⟩)]] w fun e w'=>e=.returned (.int .i64 (ixR q B.length))/\Below w.heap.size w w':=by
 obtain⟨p,c,rfl,hr⟩:=h
 have HR:Hid (∀ w1,Below w.heap.size w w1->∀ j (hj:j<B.length),∃ g vj,p=some ⟨g,0,none⟩/\g<w1.heap.size/\w1.cell? ⟨g,j,none⟩=some vj/\InV TT w1 vj B[j]):=qAq (fun w1 hb j hj=>by
  obtain⟨g,vj,e1,e2,e3,e4⟩:=hr j hj;exact⟨g,vj,e1,Nat.lt_of_lt_of_le e2 hb.size,(World.cell?_of_block (a:=⟨g,j,none⟩) (hb.block g e2)).trans e3,e4.later hb⟩)
 obtain⟨n,hn⟩:∃ n,B.length=n:=⟨_,rfl⟩;have HC:=qAq (qBq hcall hn);rw[hn];have hni:(n:Int)<=1000:=(by omega);have hent:=enters_of Tryz.func151 (by kernel_rfl) rfl;clear hr hcall hl hn;go_enter Tryz.func176,Tryz.ntmps176;go_wp2_with fail;go_loopg [8] (n+1) (fun gh jv y=>∃ (j:Nat),jv=.int .i64 (j:Int)/\j<=n/\n+1<=j+gh/\(∀ i,i<j->q i=false)/\Below w.heap.size w y)
 case atStart=>exact⟨0,rfl,Nat.zero_le _,by omega,fun i hi=>by omega,Below.refl _ _⟩
 obtain⟨j,rfl,hj,hg,hno,hB⟩:=hrel;have HI:=qAq (qBq hno hB);by_cases hlt:j<n
 ·have hjl:j<B.length:=(by rw[HC.out.2];exact hlt);have hji:(j:Int)<(n:Int):=(by omega);obtain⟨g,vj,rfl,gl,c0,hv⟩:=HR.out wr hB j hjl;have hc:=HC.out.1 wr hB j hjl vj hv;obtain⟨pv,cv,rfl,_,_⟩:=hv.slice;obtain⟨m,hm⟩:∃ m,B[j].length=m:=⟨_,rfl⟩;rw[hm] at c0 hc;obtain⟨r,hr⟩:∃ r,q j=r:=⟨_,rfl⟩;rw[hr] at hc;have HX:=qAq hr;clear hno hB hv hm hr;cases r
  ·go_wp2_with (go_at_call 151;(with_reducible refine hc.mono ?_);rintro e w2 ⟨rfl,hb2⟩;have H2:=qAq (aB HI.out.2 hb2);clear hc hb2);go_roundg (n-j)
   case measure=>omega
   refine⟨j+1,by go_num,by omega,by omega,fun i hi=>?_,H2.out⟩;by_cases e:i=j
   ·subst e;exact HX.out
   exact HI.out.1 i (by omega)
  go_wp2_with (go_at_call 151;(with_reducible refine hc.mono ?_);rintro e w2 ⟨rfl,hb2⟩;have H2:=qAq (aB HI.out.2 hb2);clear hc hb2);go_ret;refine⟨?_,H2.out⟩;have e:ixR q n=(j:Int):=(by unfold ixR;rw[aZ hlt HX.out HI.out.1]);rw[e];rfl
 obtain rfl:j=n:=(by omega);go_wp2_with fail;go_ret;refine⟨?_,HI.out.2⟩;have e:ixR q j=-1:=(by unfold ixR;rw[aV HI.out.1]);rw[e];rfl
theorem aDP {F V:Nat} (h:RL w v B) (hl:B.length<=1000) (hcall:∀ w1,Below w.heap.size w w1->∀ j (hj:j<B.length) vj,InV TT w1 vj B[j]->Calls Tryz.prog 151 #[vj,.pointer (some ⟨F,0,none⟩),.pointer (some ⟨V,0,none⟩)] w1 fun e w'=>e=.returned (.bool (q j))/\Below w1.heap.size w1 w') :
  Calls Tryz.prog 150 #[v,.func (.func 151) #[] #[.pointer (some ⟨F,0,none⟩),.pointer (some ⟨V,0,none⟩)]] w fun e w'=>e=.returned (.bool (firstK q B.length).isSome)/\Below w.heap.size w w':=by
 have hi:=aFG h hl hcall;obtain⟨p,c,rfl,_⟩:=h;unfold ixR at hi;cases hf:firstK q B.length with
 | none =>
  rw[hf] at hi;clear hcall hf hl;go_enter Tryz.func150,Tryz.ntmps150;go_wp2_with (go_at_call 176;(with_reducible refine hi.mono ?_);rintro e w2 ⟨rfl,hb2⟩;have H2:=qAq hb2;clear hi hb2);go_ret;exact⟨rfl,H2.out⟩
 | some k =>
  rw[hf] at hi;have hk:(k:Int)≥0:=(by omega);clear hcall hf hl;go_enter Tryz.func150,Tryz.ntmps150;go_wp2_with (go_at_call 176;(with_reducible refine hi.mono ?_);rintro e w2 ⟨rfl,hb2⟩;have H2:=qAq hb2;clear hi hb2);go_ret;refine⟨?_,H2.out⟩
  first|rfl|simp
theorem aFH {F V U:Nat} (h:RL w v B) (hl:B.length<=1000) (hcall:∀ w1,Below w.heap.size w w1->∀ j (hj:j<B.length) vj,InV TT w1 vj B[j]->Calls Tryz.prog 153 #[vj,.pointer (some ⟨F,0,none⟩),.pointer (some ⟨V,0,none⟩),.pointer (some ⟨U,0,none⟩)] w1 fun e w'=>e=.returned (.bool (q j))/\Below w1.heap.size w1 w') :
  Calls Tryz.prog 176 #[v,.func (.func 153) #[] #[.pointer (some ⟨F,0,none⟩),.pointer (some ⟨V,0,none⟩),.pointer (some ⟨U,0,none⟩)]] w fun e w'=>e=.returned (.int .i64 (ixR q B.length))/\Below w.heap.size w w':=by
 obtain⟨p,c,rfl,hr⟩:=h
 have HR:Hid (∀ w1,Below w.heap.size w w1->∀ j (hj:j<B.length),∃ g vj,p=some ⟨g,0,none⟩/\g<w1.heap.size/\w1.cell? ⟨g,j,none⟩=some vj/\InV TT w1 vj B[j]):=qAq (fun w1 hb j hj=>by
  obtain⟨g,vj,e1,e2,e3,e4⟩:=hr j hj;exact⟨g,vj,e1,Nat.lt_of_lt_of_le e2 hb.size,(World.cell?_of_block (a:=⟨g,j,none⟩) (hb.block g e2)).trans e3,e4.later hb⟩)
 obtain⟨n,hn⟩:∃ n,B.length=n:=⟨_,rfl⟩;have HC:=qAq (qBq hcall hn);rw[hn];have hni:(n:Int)<=1000:=(by omega);have hent:=enters_of Tryz.func153 (by kernel_rfl) rfl;clear hr hcall hl hn;go_enter Tryz.func176,Tryz.ntmps176;go_wp2_with fail;go_loopg [8] (n+1) (fun gh jv y=>∃ (j:Nat),jv=.int .i64 (j:Int)/\j<=n/\n+1<=j+gh/\(∀ i,i<j->q i=false)/\Below w.heap.size w y)
 case atStart=>exact⟨0,rfl,Nat.zero_le _,by omega,fun i hi=>by omega,Below.refl _ _⟩
 obtain⟨j,rfl,hj,hg,hno,hB⟩:=hrel;have HI:=qAq (qBq hno hB);by_cases hlt:j<n
 ·have hjl:j<B.length:=(by rw[HC.out.2];exact hlt);have hji:(j:Int)<(n:Int):=(by omega);obtain⟨g,vj,rfl,gl,c0,hv⟩:=HR.out wr hB j hjl;have hc:=HC.out.1 wr hB j hjl vj hv;obtain⟨pv,cv,rfl,_,_⟩:=hv.slice;obtain⟨m,hm⟩:∃ m,B[j].length=m:=⟨_,rfl⟩;rw[hm] at c0 hc;obtain⟨r,hr⟩:∃ r,q j=r:=⟨_,rfl⟩;rw[hr] at hc;have HX:=qAq hr;clear hno hB hv hm hr;cases r
  ·go_wp2_with (go_at_call 153;(with_reducible refine hc.mono ?_);rintro e w2 ⟨rfl,hb2⟩;have H2:=qAq (aB HI.out.2 hb2);clear hc hb2);go_roundg (n-j)
   case measure=>omega
   refine⟨j+1,by go_num,by omega,by omega,fun i hi=>?_,H2.out⟩;by_cases e:i=j
   ·subst e;exact HX.out
   exact HI.out.1 i (by omega)
  go_wp2_with (go_at_call 153;(with_reducible refine hc.mono ?_);rintro e w2 ⟨rfl,hb2⟩;have H2:=qAq (aB HI.out.2 hb2);clear hc hb2);go_ret;refine⟨?_,H2.out⟩;have e:ixR q n=(j:Int):=(by unfold ixR;rw[aZ hlt HX.out HI.out.1]);rw[e];rfl
 obtain rfl:j=n:=(by omega);go_wp2_with fail;go_ret;refine⟨?_,HI.out.2⟩;have e:ixR q j=-1:=(by unfold ixR;rw[aV HI.out.1]);rw[e];rfl
theorem aDQ {F V U:Nat} (h:RL w v B) (hl:B.length<=1000) (hcall:∀ w1,Below w.heap.size w w1->∀ j (hj:j<B.length) vj,InV TT w1 vj B[j]->Calls Tryz.prog 153 #[vj,.pointer (some ⟨F,0,none⟩),.pointer (some ⟨V,0,none⟩),.pointer (some ⟨U,0,none⟩)] w1 fun e w'=>e=.returned (.bool (q j))/\Below w1.heap.size w1 w') :
  Calls Tryz.prog 150 #[v,.func (.func 153) #[] #[.pointer (some ⟨F,0,none⟩),.pointer (some ⟨V,0,none⟩),.pointer (some ⟨U,0,none⟩)]] w fun e w'=>e=.returned (.bool (firstK q B.length).isSome)/\Below w.heap.size w w':=by
 have hi:=aFH h hl hcall;obtain⟨p,c,rfl,_⟩:=h;unfold ixR at hi;cases hf:firstK q B.length with
 | none =>
  rw[hf] at hi;clear hcall hf hl;go_enter Tryz.func150,Tryz.ntmps150;go_wp2_with (go_at_call 176;(with_reducible refine hi.mono ?_);rintro e w2 ⟨rfl,hb2⟩;have H2:=qAq hb2;clear hi hb2);go_ret;exact⟨rfl,H2.out⟩
 | some k =>
  rw[hf] at hi;have hk:(k:Int)≥0:=(by omega);clear hcall hf hl;go_enter Tryz.func150,Tryz.ntmps150;go_wp2_with (go_at_call 176;(with_reducible refine hi.mono ?_);rintro e w2 ⟨rfl,hb2⟩;have H2:=qAq hb2;clear hi hb2);go_ret;refine⟨?_,H2.out⟩
  first|rfl|simp
end
section
variable {w:World} {pc pd:Option Addr} {nc cc nd cd F V U:Nat} {va vj:Value} {nm key rt x:ByteArray} {r:Bool}
theorem aFI {pa pj:Option Addr} {na ca nj cj:Nat} (hF:w.heap[F]?=some (.cells #[.string nm,.slice pc nc cc,.string key,.slice pd nd cd] 77)) (hV:w.heap[V]?=some (.cells #[.slice pa na ca] 27))
  (hl:Calls Tryz.prog 152 #[.agg #[.string nm,.slice pc nc cc,.string key,.slice pd nd cd],.string key,.slice pa na ca,.slice pj nj cj] w fun e w'=>e=.returned (.bool r)/\Below w.heap.size w w') :
  Calls Tryz.prog 151 #[.slice pj nj cj,.pointer (some ⟨F,0,none⟩),.pointer (some ⟨V,0,none⟩)] w fun e w'=>e=.returned (.bool r)/\Below w.heap.size w w':=by
 have x0:=aA hF 0;have x1:=aA hF 1;have x2:=aA hF 2;have x3:=aA hF 3;have xl:=aC hF;have y0:=aA hV 0;have yl:=aC hV;clear hF hV;go_enter Tryz.func151,Tryz.ntmps151;go_wp2_with (go_at_call 152;(with_reducible refine hl.mono ?_);rintro e w2 ⟨rfl,hb2⟩;have H2:=qAq hb2;clear hl hb2);go_ret;exact⟨rfl,H2.out⟩
theorem aFJ {pa pj pl:Option Addr} {na ca nj cj nl cl:Nat} {r2:Bool} (hF:w.heap[F]?=some (.cells #[.string nm,.slice pc nc cc,.string key,.slice pd nd cd] 77)) (hV:w.heap[V]?=some (.cells #[.slice pl nl cl,.string rt] 124)) (hU:w.heap[U]?=some (.cells #[.slice pa na ca] 27))
  (hl:Calls Tryz.prog 154 #[.agg #[.string nm,.slice pc nc cc,.string key,.slice pd nd cd],.agg #[.slice pl nl cl,.string rt],.slice pa na ca,.slice pj nj cj] w fun e w'=>e=.returned (.bool r)/\Below w.heap.size w w')
  (hk:∀ w1,Below w.heap.size w w1->Calls Tryz.prog 152 #[.agg #[.string nm,.slice pc nc cc,.string key,.slice pd nd cd],.string rt,.slice pa na ca,.slice pj nj cj] w1 fun e w'=>e=.returned (.bool r2)/\Below w1.heap.size w1 w') :
  Calls Tryz.prog 153 #[.slice pj nj cj,.pointer (some ⟨F,0,none⟩),.pointer (some ⟨V,0,none⟩),.pointer (some ⟨U,0,none⟩)] w fun e w'=>e=.returned (.bool (r&&!r2))/\Below w.heap.size w w':=by
 have x0:=aA hF 0;have x1:=aA hF 1;have x2:=aA hF 2;have x3:=aA hF 3;have xl:=aC hF;have y0:=aA hV 0;have y1:=aA hV 1;have yl:=aC hV;have z0:=aA hU 0;have zl:=aC hU;have HK:=qAq (qBq hF (qBq hV (qBq hU hk)));clear hF hV hU hk;cases r
 ·go_enter Tryz.func153,Tryz.ntmps153;go_wp2_with (go_at_call 154;(with_reducible refine hl.mono ?_);rintro e w2 ⟨rfl,hb2⟩;have H2:=qAq hb2;clear hl hb2);go_ret;exact⟨rfl,H2.out⟩
 go_enter Tryz.func153,Tryz.ntmps153
 go_wp2_with (first
  | (go_at_call 154;(with_reducible refine hl.mono ?_);rintro e w2 ⟨rfl,hb2⟩;have H2:=qAq hb2;have hk:=HK.out.2.2.2 w2 hb2;have a0:=aA (aE hb2 HK.out.1) 0;have a1:=aA (aE hb2 HK.out.1) 1;have a2:=aA (aE hb2 HK.out.1) 2;have a3:=aA (aE hb2 HK.out.1) 3;have al:=aC (aE hb2 HK.out.1);have b1:=aA (aE hb2 HK.out.2.1) 1;have bl:=aC (aE hb2 HK.out.2.1);have c0:=aA (aE hb2 HK.out.2.2.1) 0;have cll:=aC (aE hb2 HK.out.2.2.1);clear hl hb2 x0 x1 x2 x3 xl y0 y1 yl z0 zl)
  | (go_at_call 152;(with_reducible refine hk.mono ?_);rintro e w3 ⟨rfl,hb3⟩;have H3:=qAq (aB H2.out hb3);clear hk hb3))
 go_ret;refine⟨?_,H3.out⟩
 first|rfl|simp
end
section
variable {w:World} {cv dv va rv:Value} {t:T} {A:List T3} {B:List (List T3)}
theorem nZ {x:ByteArray} (h:x≠e0):x.toList.isEmpty=false:=jL h
structure RowsOf (t:T) (A:List T3) (B:List (List T3)):Prop where
 la:A.length=t.cols.length
 lb:∀ b∈B,b.length=t.cols.length
 lc:t.cols.length<=1000
 nb:B.length<=1000
theorem rQ (hT:RdT w cv dv t) (ha:InV TT w va A) (hR:RL w rv B) (hk:t.key=e0∨isCol t t.key) (hro:RowsOf t A B) :
  Calls Tryz.prog 120 #[.agg #[.string t.nm,cv,.string t.key,dv],va,rv] w fun e w'=>e=.returned (.bool (keyB t A B))/\Below w.heap.size w w':=by
 obtain⟨pc,cc,rfl,_,_⟩:=hT.c.slice;obtain⟨pd,cd,rfl,_,_⟩:=hT.d.slice;obtain⟨pa,ca,rfl,_,_⟩:=ha.slice;have b1:=aD w (.cells #[.string t.nm,.slice pc t.cols.length cc,.string t.key,.slice pd t.deps.length cd] 77);have k1:=heap_alloc_new w (.cells #[.string t.nm,.slice pc t.cols.length cc,.string t.key,.slice pd t.deps.length cd] 77);have b2:=aD (w.alloc (.cells #[.string t.nm,.slice pc t.cols.length cc,.string t.key,.slice pd t.deps.length cd] 77)) (.cells #[.slice pa A.length ca] 27);have k2:=heap_alloc_new (w.alloc (.cells #[.string t.nm,.slice pc t.cols.length cc,.string t.key,.slice pd t.deps.length cd] 77)) (.cells #[.slice pa A.length ca] 27);have k1:=aE b2 k1;rw[World.size_alloc] at k2;have b2:=aB b1 b2;obtain⟨w1,hw1⟩:∃ y,(w.alloc (.cells #[.string t.nm,.slice pc t.cols.length cc,.string t.key,.slice pd t.deps.length cd] 77)).alloc (.cells #[.slice pa A.length ca] 27)=y:=⟨_,rfl⟩;obtain⟨F,hF⟩:∃ F,w.heap.size=F:=⟨_,rfl⟩;rw[hw1] at k1 k2 b2;rw[hF] at k1 k2;have x0:=aA k1 0;have x2:=aA k1 2;have xl:=aC k1;have yl:=aC k2;by_cases h0:t.key=e0
 ·have hkB:keyB t A B=false:=(by unfold keyB;rw[decide_eq_false (fun h=>h h0)];rfl);obtain⟨pr,cr,rfl,_⟩:=hR;rw[h0] at hw1 x2 ⊢;have HW:=qAq (qBq hw1 (qBq hF b2));clear hT ha hk hro k1 k2 hw1 hF b1 b2;rw[hkB];clear hkB h0;go_enter Tryz.func120,Tryz.ntmps120;go_upto_region 1 with fail;rw[HW.out.1,HW.out.2.1];go_wp2_with fail;go_ret;exact⟨rfl,HW.out.2.2⟩
 have hkey:=nZ h0;obtain⟨k,hkx,hkl⟩:=hk.resolve_left h0
 have hcall:Calls Tryz.prog 150 #[rv,.func (.func 151) #[] #[.pointer (some ⟨F,0,none⟩),.pointer (some ⟨F+1,0,none⟩)]] w1 fun e w'=>e=.returned (.bool (firstK (fun j=>likeP t t.key A (B.getD j [])) B.length).isSome)/\Below w1.heap.size w1 w':=by
  refine aDP (q:=fun j=>likeP t t.key A (B.getD j [])) (hR.later b2) hro.nb (fun y hy j hj vj hv=>?_);obtain⟨pj,cj,rfl,_,_⟩:=hv.slice;have hbj:=hro.lb _ (List.getElem_mem hj);have e:B.getD j []=B[j]:=(by rw[List.getD_eq_getElem?_getD,List.getElem?_eq_getElem hj];rfl);refine aFI (aE hy k1) (aE hy k2) ?_
  have:=nY (nm:=t.nm) (key:=t.key) (hT.later (aB b2 hy)) hkx (ha.later (aB b2 hy)) hv (by rw[hro.la];exact hkl) (by rw[hbj];exact hkl) ⟨by rw[hro.la];exact hro.lc,by rw[hbj];exact hro.lc⟩
  show Calls _ _ _ _ (fun e w'=>e=.returned (.bool (likeP t t.key A (B.getD j [])))/\_);unfold likeP valC;rw[hkx,e];exact this
 have hkB:keyB t A B=(firstK (fun j=>likeP t t.key A (B.getD j [])) B.length).isSome:=by
  unfold keyB;rw[decide_eq_true h0,Bool.true_and,Bool.eq_iff_iff,List.any_eq_true];constructor
  ·rintro ⟨b,hb,hq⟩;obtain⟨j,hj,rfl⟩:=List.getElem_of_mem hb;cases hf:firstK (fun j=>likeP t t.key A (B.getD j [])) B.length with
   | some _=>rfl
   | none =>
    unfold firstK at hf;rw[List.find?_eq_none] at hf
    have:=hf j (List.mem_range.2 hj)
    rw[List.getD_eq_getElem?_getD,List.getElem?_eq_getElem hj] at this;exact absurd hq this
  intro h;obtain⟨j,hj⟩:=Option.isSome_iff_exists.1 h;obtain⟨h1,h2,_⟩:=dZ hj;rw[List.getD_eq_getElem?_getD,List.getElem?_eq_getElem h1] at h2;exact⟨B[j],List.getElem_mem h1,h2⟩
 rw[hkB];obtain⟨r,hr⟩:∃ r,(firstK (fun j=>likeP t t.key A (B.getD j [])) B.length).isSome=r:=⟨_,rfl⟩;rw[hr] at hcall ⊢;obtain⟨pr,cr,rfl,_⟩:=hR;have HW:=qAq (qBq hw1 (qBq hF b2));clear hT ha hk hro k1 k2 hw1 hF b1 b2 hkB hr hkx hkl;go_enter Tryz.func120,Tryz.ntmps120;go_upto_region 1 with fail;rw[HW.out.1,HW.out.2.1];go_wp2_with (go_at_call 150;(with_reducible refine hcall.mono ?_);rintro e w2 ⟨rfl,hb2⟩;have H2:=qAq (aB HW.out.2.2 hb2);clear hcall hb2);go_ret;exact⟨rfl,H2.out⟩
end
theorem yF {B:List (List T3)} {p:List T3->Bool}:(firstK (fun j=>p (B.getD j [])) B.length).isSome=B.any p:=by
 rw[Bool.eq_iff_iff,List.any_eq_true];constructor
 ·intro h;obtain⟨j,hj⟩:=Option.isSome_iff_exists.1 h;obtain⟨h1,h2,_⟩:=dZ hj;rw[List.getD_eq_getElem?_getD,List.getElem?_eq_getElem h1] at h2;exact⟨B[j],List.getElem_mem h1,h2⟩
 rintro ⟨b,hb,hq⟩;obtain⟨j,hj,rfl⟩:=List.getElem_of_mem hb;cases hf:firstK (fun j=>p (B.getD j [])) B.length with
 | some _=>rfl
 | none =>
  unfold firstK at hf;rw[List.find?_eq_none] at hf
  have:=hf j (List.mem_range.2 hj)
  rw[List.getD_eq_getElem?_getD,List.getElem?_eq_getElem hj] at this;exact absurd hq this
section
variable {w:World} {cv dv va rv lv:Value} {t:T} {A:List T3} {B:List (List T3)} {d:D}
structure DepOk (t:T) (d:D):Prop where
 l:∀ x∈d.left,isCol t x
 r:isCol t d.right
 n:d.left.length<=1000
theorem yG (hT:RdT w cv dv t) (hL:RdS w lv d.left) (hd:DepOk t d) (ha:InV TT w va A) (hR:RL w rv B) (hro:RowsOf t A B) :
  Calls Tryz.prog 122 #[.agg #[.string t.nm,cv,.string t.key,dv],.agg #[lv,.string d.right],va,rv] w fun e w'=>e=.returned (.bool (brokenB t d A B))/\Below w.heap.size w w':=by
 obtain⟨pc,cc,rfl,_,_⟩:=hT.c.slice;obtain⟨pd,cd,rfl,_,_⟩:=hT.d.slice;obtain⟨pa,ca,rfl,_,_⟩:=ha.slice;obtain⟨pl,cl,rfl,_,_⟩:=hL.slice;have b1:=aD w (.cells #[.string t.nm,.slice pc t.cols.length cc,.string t.key,.slice pd t.deps.length cd] 77);have k1:=heap_alloc_new w (.cells #[.string t.nm,.slice pc t.cols.length cc,.string t.key,.slice pd t.deps.length cd] 77);obtain⟨wa,hwa⟩:∃ y,w.alloc (.cells #[.string t.nm,.slice pc t.cols.length cc,.string t.key,.slice pd t.deps.length cd] 77)=y:=⟨_,rfl⟩;have ea:=World.size_alloc w (.cells #[.string t.nm,.slice pc t.cols.length cc,.string t.key,.slice pd t.deps.length cd] 77);rw[hwa] at b1 k1 ea;have b2:=aD wa (.cells #[.slice pl d.left.length cl,.string d.right] 124);have k2:=heap_alloc_new wa (.cells #[.slice pl d.left.length cl,.string d.right] 124);have eb:=World.size_alloc wa (.cells #[.slice pl d.left.length cl,.string d.right] 124);obtain⟨wb,hwb⟩:∃ y,wa.alloc (.cells #[.slice pl d.left.length cl,.string d.right] 124)=y:=⟨_,rfl⟩;rw[hwb] at b2 k2 eb;have b3:=aD wb (.cells #[.slice pa A.length ca] 27);have k3:=heap_alloc_new wb (.cells #[.slice pa A.length ca] 27);have k1:=aE b3 (aE b2 k1);have k2:=aE b3 k2;have b3:=aB (aB b1 b2) b3;obtain⟨F,hF⟩:∃ F,w.heap.size=F:=⟨_,rfl⟩;rw[eb,ea] at k3;rw[ea] at k2;obtain⟨w1,hw1⟩:∃ y,((w.alloc (.cells #[.string t.nm,.slice pc t.cols.length cc,.string t.key,.slice pd t.deps.length cd] 77)).alloc (.cells #[.slice pl d.left.length cl,.string d.right] 124)).alloc (.cells #[.slice pa A.length ca] 27)=y:=⟨_,rfl⟩;have hw1':=hw1;rw[hwa,hwb] at hw1';rw[hw1'] at k1 k2 k3 b3;rw[hF] at k1 k2 k3
 have hcall:Calls Tryz.prog 150 #[rv,.func (.func 153) #[] #[.pointer (some ⟨F,0,none⟩),.pointer (some ⟨F+1,0,none⟩),.pointer (some ⟨F+1+1,0,none⟩)]] w1 fun e w'=>e=.returned (.bool (brokenB t d A B))/\Below w1.heap.size w1 w':=by
  have:=aDQ (F:=F) (V:=F+1) (U:=F+1+1) (q:=fun j=>(fun a=>d.left.all (fun x=>likeP t x A a)&&!likeP t d.right A a) (B.getD j [])) (hR.later b3) hro.nb (fun y hy j hj vj hv=>by
   obtain⟨pj,cj,rfl,_,_⟩:=hv.slice;have hbj:=hro.lb _ (List.getElem_mem hj);have e:B.getD j []=B[j]:=(by rw[List.getD_eq_getElem?_getD,List.getElem?_eq_getElem hj];rfl);have hby:=aB b3 hy;simp only[e];refine aFJ (aE hy k1) (aE hy k2) (aE hy k3) (rP (hT.later hby) (hL.later hby) hd.l (ha.later hby) hv hro.la hbj hro.lc hd.n) (fun y2 hy2=>?_);obtain⟨k,hkx,hkl⟩:=hd.r
   have:=nY (nm:=t.nm) (key:=t.key) (hT.later (aB hby hy2)) hkx (ha.later (aB hby hy2)) (hv.later hy2) (by rw[hro.la];exact hkl) (by rw[hbj];exact hkl) ⟨by rw[hro.la];exact hro.lc,by rw[hbj];exact hro.lc⟩
   unfold likeP valC;rw[hkx];exact this)
  exact this.mono (fun e w' h=>⟨h.1.trans (congrArg (fun b=>Ending.returned (Value.bool b)) (yF (B:=B) (p:=fun a=>d.left.all (fun x=>likeP t x A a)&&!likeP t d.right A a))),h.2⟩)
 obtain⟨r,hr⟩:∃ r,brokenB t d A B=r:=⟨_,rfl⟩;rw[hr] at hcall ⊢;obtain⟨pr,cr,rfl,_⟩:=hR;have HW:=qAq (qBq hw1 (qBq hF b3));clear hT ha hL hd hro k1 k2 k3 hw1 hw1' hwa hwb hF b1 b2 b3 hr ea eb;go_enter Tryz.func122,Tryz.ntmps122;go_upto_region 1 with fail;rw[HW.out.1,HW.out.2.1];go_wp2_with (go_at_call 150;(with_reducible refine hcall.mono ?_);rintro e w2 ⟨rfl,hb2⟩;have H2:=qAq (aB HW.out.2.2 hb2);clear hcall hb2);go_ret;exact⟨rfl,H2.out⟩
theorem yH {dp:Nat} {x:ByteArray} {u:T3} {o:Option Int} (hk:∀ w1,Below w.heap.size w w1->Calls Tryz.prog 100 #[.pointer (some ⟨dp,0,none⟩),.string x,.agg #[.int .i64 (u.1),.int .i64 (u.2.1),.string (u.2.2)]] w1 fun e w'=>e=.returned (.tuple #[.int .i64 (o.getD 0),.bool o.isSome])/\Below w1.heap.size w1 w') :
  Calls Tryz.prog 121 #[.pointer (some ⟨dp,0,none⟩),.string x,.agg #[.int .i64 (u.1),.int .i64 (u.2.1),.string (u.2.2)]] w fun e w'=>e=.returned (.bool (decide (u.1≠0)&&o.isNone))/\Below w.heap.size w w':=by
 have b1:=aD w (.cells #[.int .i64 u.1,.int .i64 u.2.1,.string u.2.2] 32);have k1:=heap_alloc_new w (.cells #[.int .i64 u.1,.int .i64 u.2.1,.string u.2.2] 32);obtain⟨w1,hw1⟩:∃ y,w.alloc (.cells #[.int .i64 u.1,.int .i64 u.2.1,.string u.2.2] 32)=y:=⟨_,rfl⟩;obtain⟨F,hF⟩:∃ F,w.heap.size=F:=⟨_,rfl⟩;rw[hw1] at b1 k1;rw[hF] at k1;have hcall:=hk w1 b1;have x0:=aA k1 0;have x1:=aA k1 1;have x2:=aA k1 2;have xl:=aC k1;have HW:=qAq (qBq hw1 (qBq hF (qBq b1 k1)));clear hk b1 k1 hw1 hF;cases o with
 | some i =>
  go_enter Tryz.func121,Tryz.ntmps121;go_upto_region 1 with fail;rw[HW.out.1,HW.out.2.1];go_wp2_with (go_at_call 100;(with_reducible refine hcall.mono ?_);rintro e w2 ⟨rfl,hb2⟩;have H2:=qAq (aB HW.out.2.2.1 hb2);clear hcall hb2);go_ret;exact⟨by simp,H2.out⟩
 | none =>
  have e:decide (u.1≠0)=(u.1 != 0):=(by rw[Bool.eq_iff_iff];simp);rw[e];obtain⟨b,hb⟩:∃ b,(u.1 != 0)=b:=⟨_,rfl⟩;rw[hb];clear e;go_enter Tryz.func121,Tryz.ntmps121;go_upto_region 1 with fail;rw[HW.out.1,HW.out.2.1];go_wp2_with (go_at_call 100;(with_reducible refine hcall.mono ?_);rintro e w2 ⟨rfl,hb2⟩;have H2:=qAq (aB HW.out.2.2.1 hb2);have y0:=aA (aE hb2 HW.out.2.2.2) 0;have yl:=aC (aE hb2 HW.out.2.2.2);clear hcall hb2 x0 x1 x2 xl);go_ret;refine⟨?_,H2.out⟩
  first|rfl|simp
end
