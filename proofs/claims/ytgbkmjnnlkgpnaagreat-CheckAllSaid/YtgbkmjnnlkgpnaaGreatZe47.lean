import Derived.Test.YtgbkmjnnlkgpnaaGreatZe46
import Derived.Test.YtgbkmjnnlkgpnaaGreatZe20
set_option maxHeartbeats 4000000
set_option maxRecDepth 100000
namespace Go.Proofs.YtgbkmjnnlkgpnaaGreat
open Go Go.RowKit Go.Proofs Co Co.S
abbrev TT:Nat->Prop:=fun _=>True
theorem zQ {c:C} {x:ByteArray} {b:Nat} {w:World} (h:w.cell? ⟨b,0,none⟩=some (.string x)):Calls Tryz.prog 167 #[aBq c,.pointer (some ⟨b,0,none⟩)] w fun e w'=>e=.returned (.bool (isC x c))/\Below w.heap.size w w':=by
 have hlt:b<w.heap.size:=World.block_lt_of_cell? w ⟨b,0,none⟩ h;have hx2:(c.nm.toList==x.toList)=isC x c:=(by rw[aN];rfl);generalize isC x c=r at hx2 ⊢;unfold aBq;go_enter Tryz.func167,Tryz.ntmps167
 go_wp2
 go_ret;exact⟨rfl,aC w _⟩
theorem aFx {l:List C} {v:Value} {x:ByteArray} {b:Nat} {W:World} (h:RdC W v l) (hb:W.cell? ⟨b,0,none⟩=some (.string x)):Calls Tryz.prog 102 #[v,.func (.func 167) #[] #[.pointer (some ⟨b,0,none⟩)]] W fun e w'=>e=.returned (.int .i64 (ixC l x))/\Below W.heap.size W w':=by
 obtain⟨pc,cc,hcv,hc,hm⟩:=h.slice;obtain⟨n,hn⟩:∃ n,l.length=n:=⟨_,rfl⟩;unfold maxLen at hm;rw[hn] at hcv hc;subst hcv;have hbl:b<W.heap.size:=World.block_lt_of_cell? W ⟨b,0,none⟩ hb;have HN:=qAq hn;have HW:=qAq (qBq h (qBq hb hbl));have hent:=enters_of Tryz.func167 (by kernel_rfl) rfl;clear h hb hn hbl;go_enter Tryz.func102,Tryz.ntmps102;go_wp2_with fail;go_loopg [8] (n+1) (fun gh jv w=>∃ (j:Nat),jv=.int .i64 (j:Int)/\j<=n/\n+1<=j+gh/\(∀ i (h:i<l.length),i<j->isC x l[i]=false)/\Below W.heap.size W w)
 case atStart=>exact⟨0,rfl,Nat.zero_le _,by omega,fun i _ hi=>by omega,Below.refl _ _⟩
 obtain⟨j,rfl,hj,hg,hno,hB⟩:=hrel;have HI:=qAq (qBq hno hB);by_cases hlt:j<n
 ·have hjl:j<l.length:=(by rw[HN.out];exact hlt);obtain⟨bc,off,rfl,hbc,c0,c1,c2,c3⟩:=RdC.col (HW.out.1.later hB) hjl;have hcell:wr.cell? ⟨b,0,none⟩=some (.string x):=(World.cell?_of_block (w:=W) (hB.block b HW.out.2.2)).trans HW.out.2.1;have hcall:=zQ (c:=l[j]) hcell;obtain⟨c,hcj⟩:∃ c,l[j]=c:=⟨_,rfl⟩;rw[hcj] at c0 c1 c2 c3 hcall;have HC:=qAq hcj;have hji:(j:Int)<(n:Int):=(by omega);clear hcj hno hB hcell;unfold aBq at hcall;cases hx:isC x c
  ·have HX:=qAq hx;rw[hx] at hcall;clear hx;go_wp2_with (go_at_call 167;(with_reducible refine hcall.mono ?_);rintro e w2 ⟨rfl,hb2⟩);have HB2:=qAq hb2;go_roundg (n-j)
   case measure=>omega
   refine⟨j+1,by go_num,by omega,by omega,fun i hi hij=>?_,aB HI.out.2 HB2.out⟩;by_cases e:i=j
   ·subst e;rw[HC.out];exact HX.out
   exact HI.out.1 i hi (by omega)
  have HX:=qAq hx;rw[hx] at hcall;clear hx;go_wp2_with (go_at_call 167;(with_reducible refine hcall.mono ?_);rintro e w2 ⟨rfl,hb2⟩);go_ret;exact⟨aL (yA j (by rw[HN.out];exact hlt) (by rw[HC.out];exact HX.out) (fun i hi=>HI.out.1 i _ hi)).symm,aB HI.out.2 hb2⟩
 go_wp2_with fail;go_ret;exact⟨aL (oQ (fun i hi=>HI.out.1 i hi (by have:=HN.out;omega))).symm,HI.out.2⟩
theorem InV.cells {w:World} {p:Option Addr} {n c k:Nat} {A:List T3} (h:InV TT w (.slice p n c) A) (hk:k<A.length):∃ b off,p=some ⟨b,off,none⟩/\∀ w',Below w.heap.size w w'->w'.cell? ⟨b,off+k*3,none⟩=some (.int .i64 (A.getD k z3).1)/\w'.cell? ⟨b,off+k*3+1,none⟩=some (.int .i64 (A.getD k z3).2.1)/\w'.cell? ⟨b,off+k*3+2,none⟩=some (.string (A.getD k z3).2.2)/\b<w'.heap.size:=by
 obtain⟨b,off,rfl,_,_⟩:=InV.val h hk;have e:A[k]=A.getD k z3:=(by rw[List.getD_eq_getElem?_getD,qQq hk];rfl);refine⟨b,off,rfl,fun w' hw=>?_⟩;obtain⟨b',o',e2,q1,q2,q3,q4⟩:=InV.val (h.later hw) hk;cases e2;rw[e] at q2 q3 q4;exact⟨q2,q3,q4,q1⟩
theorem qC {w:World} {cv dv va vb:Value} {t:T} {nm key x:ByteArray} {k:Nat} {A B:List T3} (hT:RdT w cv dv t) (hx:ixC t.cols x=(k:Int)) (ha:InV TT w va A) (hb:InV TT w vb B) (hA:k<A.length) (hB:k<B.length) (hl:A.length<=1000/\B.length<=1000) :
  Calls Tryz.prog 142 #[.agg #[.string nm,cv,.string key,dv],.string x,va,vb] w fun e w'=>e=.returned (.bool (decide (A.getD k z3=B.getD k z3)))/\Below w.heap.size w w':=by
 obtain⟨pc,cc,rfl,_,_⟩:=hT.c.slice;obtain⟨pd,cd,rfl,_,_⟩:=hT.d.slice;obtain⟨pa,ca,rfl,_,_⟩:=ha.slice;obtain⟨pb,cb,rfl,_,_⟩:=hb.slice;obtain⟨ga,oa,rfl,hac⟩:=ha.cells hA;obtain⟨gb,ob,rfl,hbc⟩:=hb.cells hB;obtain⟨u,hu⟩:∃ u,A.getD k z3=u:=⟨_,rfl⟩;obtain⟨v,hv⟩:∃ v,B.getD k z3=v:=⟨_,rfl⟩;rw[hu] at hac;rw[hv] at hbc;rw[hu,hv];have b1:=aC w (.cells #[.string nm,.slice pc t.cols.length cc,.string key,.slice pd t.deps.length cd] 70);have k1:=qOq w (.cells #[.string nm,.slice pc t.cols.length cc,.string key,.slice pd t.deps.length cd] 70);have b2:=aC (w.alloc (.cells #[.string nm,.slice pc t.cols.length cc,.string key,.slice pd t.deps.length cd] 70)) (.cells #[.string x] 9);have k2:=qOq (w.alloc (.cells #[.string nm,.slice pc t.cols.length cc,.string key,.slice pd t.deps.length cd] 70)) (.cells #[.string x] 9);have k1:=aD b2 k1;rw[qPq] at k2;have b2:=aB b1 b2;obtain⟨w1,hw1⟩:∃ y,(w.alloc (.cells #[.string nm,.slice pc t.cols.length cc,.string key,.slice pd t.deps.length cd] 70)).alloc (.cells #[.string x] 9)=y:=⟨_,rfl⟩;obtain⟨F,hF⟩:∃ F,w.heap.size=F:=⟨_,rfl⟩;rw[hw1] at k1 k2 b2;rw[hF] at k1 k2;have hcall:=aFx (x:=x) (hT.c.later b2) (aA k2 0);rw[hx] at hcall;obtain⟨nc,hnc⟩:∃ n,t.cols.length=n:=⟨_,rfl⟩;obtain⟨nd,hnd⟩:∃ n,t.deps.length=n:=⟨_,rfl⟩;obtain⟨na,hna⟩:∃ n,A.length=n:=⟨_,rfl⟩;obtain⟨nb,hnb⟩:∃ n,B.length=n:=⟨_,rfl⟩;rw[hnc,hnd] at hw1 k1;rw[hnc] at hcall;rw[hna,hnb] at hl;rw[hna] at hA;rw[hnb] at hB;rw[hnc,hnd,hna,hnb];have hAi:(k:Int)<(na:Int):=(by omega);have hBi:(k:Int)<(nb:Int):=(by omega);have x1:=aA k1 1;have xl:=lt_of_heap k1;have yl:=lt_of_heap k2;have HW:=qAq (qBq hw1 (qBq hF b2));have HC:=qAq (qBq hac hbc);have heq:=(fun y=>aAJ u v y);obtain⟨r,hr⟩:∃ r,decide (u=v)=r:=⟨_,rfl⟩;rw[hr] at heq ⊢;have HEQ:=qAq heq;have hna3:(na:Int)<=1000:=(by omega);have hnb3:(nb:Int)<=1000:=(by omega);have hent:=enters_of Tryz.func167 (by kernel_rfl) rfl;clear hT ha hb hac hbc hu hv b1 b2 k1 k2 hw1 hF hx hnc hnd hna hnb hA hB hl hr heq;go_enter Tryz.func142,Tryz.ntmps142;go_upto_region 1 with fail;rw[HW.out.1,HW.out.2.1];go_upto_region 2 with (go_at_call 102;(with_reducible refine hcall.mono ?_);rintro e w2 ⟨rfl,hb2⟩;have H2:=qAq (aB HW.out.2.2 hb2);clear hcall hb2);clear x1 xl yl;refine Par.wp_region_par 10 [.slice (some ⟨ga,oa,none⟩) na ca,.int .i64 (k:Int),.pointer (some ⟨ga,oa+k*3,none⟩),.agg #[.int .i64 (u.1),.int .i64 (u.2.1),.string (u.2.2)],.slice (some ⟨gb,ob,none⟩) nb cb,.int .i64 (k:Int),.pointer (some ⟨gb,ob+k*3,none⟩),.agg #[.int .i64 (v.1),.int .i64 (v.2.1),.string (v.2.2)],.bool r,.bool r] (fun y=>Below w2.heap.size w2 y) ?A1 ?hm1 ?hB1 ?hA1 ((aE w2)) ?hop1 ?hT1
 case hm1=>kernel_rfl
 case hB1=>kernel_rfl
 case hA1 =>
  simp only[Par.putA,Par.dstAt,Act.put,qDq,qEq,qFq,qLq,qGq,qHq,qIq,qJq,qKq];rfl
 case hop1 =>
  simp only[qMq,List.take_zero,Par.GiveAll,and_true];and_intros<;>intro w' hR<;>have HR:=qAq hR
  rotate_left 3;have z1:=(HC.out.1 w' (aB H2.out hR)).1;have z2:=(HC.out.1 w' (aB H2.out hR)).2.1;have z3':=(HC.out.1 w' (aB H2.out hR)).2.2.1;rotate_left 4;have z1:=(HC.out.2 w' (aB H2.out hR)).1;have z2:=(HC.out.2 w' (aB H2.out hR)).2.1;have z3':=(HC.out.2 w' (aB H2.out hR)).2.2.1;rotate_left
  ·clear hR;simp only[Par.Gives];go_simp;exact (HEQ.out w').mono (fun e w'' ⟨he,hb⟩=>⟨he,aB HR.out hb⟩)
  rotate_left
  all_goals(clear hR;simp only[Par.Gives];go_simp;all_goals exact HR.out)
 intro w' hR;simp only[qNq,List.drop_nil];have HR:=qAq (aB H2.out hR);clear hR;go_wp2_with fail;go_ret;exact⟨rfl,HR.out⟩
def rS (t:T) (x:ByteArray):Prop:=∃ k:Nat,ixC t.cols x=(k:Int)/\k<t.cols.length
theorem tU {w:World} {cv dv va vb lv:Value} {t:T} {nm key rt:ByteArray} {left:List ByteArray} {A B:List T3} (hT:RdT w cv dv t) (hL:RdS w lv left) (hd:∀ x∈left,rS t x) (ha:InV TT w va A) (hb:InV TT w vb B) (hA:A.length=t.cols.length) (hB:B.length=t.cols.length) (hc:t.cols.length<=1000) (hn:left.length<=1000) :
  Calls Tryz.prog 144 #[.agg #[.string nm,cv,.string key,dv],.agg #[lv,.string rt],va,vb] w fun e w'=>e=.returned (.bool (left.all fun x=>aP t x A B))/\Below w.heap.size w w':=by
 obtain⟨pc,cc,rfl,_,_⟩:=hT.c.slice;obtain⟨pd,cd,rfl,_,_⟩:=hT.d.slice;obtain⟨pa,ca,rfl,_,_⟩:=ha.slice;obtain⟨pb,cb,rfl,_,_⟩:=hb.slice;obtain⟨pl,cl,rfl,_,_⟩:=hL.slice;have b1:=aC w (.cells #[.string nm,.slice pc t.cols.length cc,.string key,.slice pd t.deps.length cd] 70);have k1:=qOq w (.cells #[.string nm,.slice pc t.cols.length cc,.string key,.slice pd t.deps.length cd] 70);have b2:=aC (w.alloc (.cells #[.string nm,.slice pc t.cols.length cc,.string key,.slice pd t.deps.length cd] 70)) (.cells #[.slice pl left.length cl,.string rt] 106);have k2:=qOq (w.alloc (.cells #[.string nm,.slice pc t.cols.length cc,.string key,.slice pd t.deps.length cd] 70)) (.cells #[.slice pl left.length cl,.string rt] 106);have k1:=aD b2 k1;rw[qPq] at k2;have b2:=aB b1 b2;obtain⟨w1,hw1⟩:∃ y,(w.alloc (.cells #[.string nm,.slice pc t.cols.length cc,.string key,.slice pd t.deps.length cd] 70)).alloc (.cells #[.slice pl left.length cl,.string rt] 106)=y:=⟨_,rfl⟩;obtain⟨F,hF⟩:∃ F,w.heap.size=F:=⟨_,rfl⟩;rw[hw1] at k1 k2 b2;rw[hF] at k1 k2
 have HLIKE:Hid (∀ y,Below w1.heap.size w1 y->∀ x∈left,Calls Tryz.prog 142 #[.agg #[.string nm,.slice pc t.cols.length cc,.string key,.slice pd t.deps.length cd],.string x,.slice pa A.length ca,.slice pb B.length cb] y fun e w'=>e=.returned (.bool (aP t x A B))/\Below y.heap.size y w'):=qAq (fun y hy x hx=>by
  obtain⟨k,hk,hkl⟩:=hd x hx
  have:=qC (nm:=nm) (key:=key) (hT.later (aB b2 hy)) hk (ha.later (aB b2 hy)) (hb.later (aB b2 hy)) (by omega) (by omega) (by omega)
  unfold aP aBY;rw[hk];exact this)
 have HW0:Hid (∀ y,Below w1.heap.size w1 y->∀ j (hj:j<left.length),∃ b off,pl=some ⟨b,off,none⟩/\b<y.heap.size/\y.cell? ⟨b,off+j,none⟩=some (.string left[j])):=qAq (fun y hy j hj=>RdS.word (hL.later (aB b2 hy)) hj);obtain⟨nc,hnc⟩:∃ n,t.cols.length=n:=⟨_,rfl⟩;obtain⟨nd,hnd⟩:∃ n,t.deps.length=n:=⟨_,rfl⟩;obtain⟨nl,hnl⟩:∃ n,left.length=n:=⟨_,rfl⟩;rw[hnc,hnd] at HLIKE;rw[hA,hB,hnc] at HLIKE;rw[hnc,hnd,hnl] at hw1;rw[hnc,hnd] at k1;rw[hnl] at k2;rw[hA,hB,hnc,hnd,hnl];have hnli:(nl:Int)<=1000:=(by omega);have x0:=aA k2 0;have xl:=lt_of_heap k2;have HK:Hid (∀ y,Below w1.heap.size w1 y->y.heap[F]?=some (.cells #[.string nm,.slice pc nc cc,.string key,.slice pd nd cd] 70)):=qAq (fun y hy=>aD hy k1);have HW:=qAq (qBq hw1 (qBq hF (qBq b2 hnl)));clear hT hL hd ha hb hA hB hc hn b1 b2 k1 k2 hw1 hF hnc hnd hnl;go_enter Tryz.func144,Tryz.ntmps144;go_upto_region 1 with fail;rw[HW.out.1,HW.out.2.1];go_wp2_with fail;clear x0 xl;go_loopg [14] (nl+1) (fun gh jv y=>∃ (j:Nat),jv=.int .i64 (j:Int)/\j<=nl/\nl+1<=j+gh/\(∀ i (h:i<left.length),i<j->aP t left[i] A B=true)/\Below w1.heap.size w1 y)
 case atStart=>exact⟨0,rfl,Nat.zero_le _,by omega,fun i _ hi=>by omega,Below.refl _ _⟩
 obtain⟨j,rfl,hj,hg,hyes,hB⟩:=hrel;have HI:=qAq (qBq hyes hB);by_cases hlt:j<nl
 ·have hjl:j<left.length:=(by rw[HW.out.2.2.2];exact hlt);have hji:(j:Int)<(nl:Int):=(by omega);obtain⟨b,off,rfl,yl,y1⟩:=HW0.out wr hB j hjl;have hcall:=HLIKE.out wr hB _ (List.getElem_mem hjl);have yf:=HK.out wr hB;have y0:=aA yf 0;have yk:=aA yf 1;have y2:=aA yf 2;have y3:=aA yf 3;have yfl:=lt_of_heap yf;obtain⟨x,hx⟩:∃ x,left[j]=x:=⟨_,rfl⟩;rw[hx] at y1 hcall;obtain⟨r,hr⟩:∃ r,aP t x A B=r:=⟨_,rfl⟩;rw[hr] at hcall;have HX:=qAq (qBq hx hr);clear hyes hB hx hr yf;cases r
  ·go_wp2_with (go_at_call 142;(with_reducible refine hcall.mono ?_);rintro e w2 ⟨rfl,hb2⟩;have H2:=qAq (aB HI.out.2 hb2);clear hcall hb2);go_ret;refine⟨?_,aB HW.out.2.2.1 H2.out⟩
   have:(left.all fun x=>aP t x A B)=false:=by
    rw[List.all_eq_false];exact⟨left[j],List.getElem_mem hjl,by rw[HX.out.1,HX.out.2];decide⟩
   rw[this];rfl
  go_wp2_with (go_at_call 142;(with_reducible refine hcall.mono ?_);rintro e w2 ⟨rfl,hb2⟩;have H2:=qAq (aB HI.out.2 hb2);clear hcall hb2);go_roundg (nl-j)
  case measure=>omega
  refine⟨j+1,by go_num,by omega,by omega,fun i hi hij=>?_,H2.out⟩;by_cases e:i=j
  ·subst e;rw[HX.out.1];exact HX.out.2
  exact HI.out.1 i hi (by omega)
 obtain rfl:j=nl:=(by omega);go_wp2_with fail;go_ret;refine⟨?_,aB HW.out.2.2.1 HI.out.2⟩
 have:(left.all fun x=>aP t x A B)=true:=by
  rw[List.all_eq_true];intro x hx;obtain⟨i,hi,rfl⟩:=List.getElem_of_mem hx;exact HI.out.1 i hi (by rw[<- HW.out.2.2.2];exact hi)
 rw[this];rfl
def RL (w:World) (v:Value) (B:List (List T3)):Prop:=∃ p c,v=.slice p B.length c/\∀ j (hj:j<B.length),∃ g vj,p=some ⟨g,0,none⟩/\g<w.heap.size/\w.cell? ⟨g,j,none⟩=some vj/\InV TT w vj B[j]
theorem RL.later {w w':World} {v:Value} {B:List (List T3)} (h:RL w v B) (hb:Below w.heap.size w w'):RL w' v B:=by
 obtain⟨p,c,e,hr⟩:=h;refine⟨p,c,e,fun j hj=>?_⟩;obtain⟨g,vj,e1,e2,e3,e4⟩:=hr j hj;exact⟨g,vj,e1,Nat.lt_of_lt_of_le e2 hb.size,(World.cell?_of_block (a:=⟨g,j,none⟩) (hb.block g e2)).trans e3,e4.later hb⟩
def ixR (q:Nat->Bool) (n:Nat):Int:=match aO q n with|none=>-1|some k=>(k:Int)
section
variable {w:World} {v:Value} {B:List (List T3)} {q:Nat->Bool}
theorem aFy {F V:Nat} (h:RL w v B) (hl:B.length<=1000) (hcall:∀ w1,Below w.heap.size w w1->∀ j (hj:j<B.length) vj,InV TT w1 vj B[j]->Calls Tryz.prog 141 #[vj,.pointer (some ⟨F,0,none⟩),.pointer (some ⟨V,0,none⟩)] w1 fun e w'=>e=.returned (.bool (q j))/\Below w1.heap.size w1 w') :
  Calls Tryz.prog 166 #[v,.func (.func 141) #[] #[.pointer (some ⟨F,0,none⟩),.pointer (some ⟨V,0,none⟩)]] w fun e w'=>e=.returned (.int .i64 (ixR q B.length))/\Below w.heap.size w w':=by
 obtain⟨p,c,rfl,hr⟩:=h
 have HR:Hid (∀ w1,Below w.heap.size w w1->∀ j (hj:j<B.length),∃ g vj,p=some ⟨g,0,none⟩/\g<w1.heap.size/\w1.cell? ⟨g,j,none⟩=some vj/\InV TT w1 vj B[j]):=qAq (fun w1 hb j hj=>by
  obtain⟨g,vj,e1,e2,e3,e4⟩:=hr j hj;exact⟨g,vj,e1,Nat.lt_of_lt_of_le e2 hb.size,(World.cell?_of_block (a:=⟨g,j,none⟩) (hb.block g e2)).trans e3,e4.later hb⟩)
 obtain⟨n,hn⟩:∃ n,B.length=n:=⟨_,rfl⟩;have HC:=qAq (qBq hcall hn);rw[hn];have hni:(n:Int)<=1000:=(by omega);have hent:=enters_of Tryz.func141 (by kernel_rfl) rfl;clear hr hcall hl hn;go_enter Tryz.func166,Tryz.ntmps166;go_wp2_with fail;go_loopg [8] (n+1) (fun gh jv y=>∃ (j:Nat),jv=.int .i64 (j:Int)/\j<=n/\n+1<=j+gh/\(∀ i,i<j->q i=false)/\Below w.heap.size w y)
 case atStart=>exact⟨0,rfl,Nat.zero_le _,by omega,fun i hi=>by omega,Below.refl _ _⟩
 obtain⟨j,rfl,hj,hg,hno,hB⟩:=hrel;have HI:=qAq (qBq hno hB);by_cases hlt:j<n
 ·have hjl:j<B.length:=(by rw[HC.out.2];exact hlt);have hji:(j:Int)<(n:Int):=(by omega);obtain⟨g,vj,rfl,gl,c0,hv⟩:=HR.out wr hB j hjl;have hc:=HC.out.1 wr hB j hjl vj hv;obtain⟨pv,cv,rfl,_,_⟩:=hv.slice;obtain⟨m,hm⟩:∃ m,B[j].length=m:=⟨_,rfl⟩;rw[hm] at c0 hc;obtain⟨r,hr⟩:∃ r,q j=r:=⟨_,rfl⟩;rw[hr] at hc;have HX:=qAq hr;clear hno hB hv hm hr;cases r
  ·go_wp2_with (go_at_call 141;(with_reducible refine hc.mono ?_);rintro e w2 ⟨rfl,hb2⟩;have H2:=qAq (aB HI.out.2 hb2);clear hc hb2);go_roundg (n-j)
   case measure=>omega
   refine⟨j+1,by go_num,by omega,by omega,fun i hi=>?_,H2.out⟩;by_cases e:i=j
   ·subst e;exact HX.out
   exact HI.out.1 i (by omega)
  go_wp2_with (go_at_call 141;(with_reducible refine hc.mono ?_);rintro e w2 ⟨rfl,hb2⟩;have H2:=qAq (aB HI.out.2 hb2);clear hc hb2);go_ret;refine⟨?_,H2.out⟩;have e:ixR q n=(j:Int):=(by unfold ixR;rw[bM hlt HX.out HI.out.1]);rw[e];rfl
 obtain rfl:j=n:=(by omega);go_wp2_with fail;go_ret;refine⟨?_,HI.out.2⟩;have e:ixR q j=-1:=(by unfold ixR;rw[aZ HI.out.1]);rw[e];rfl
theorem aDP {F V:Nat} (h:RL w v B) (hl:B.length<=1000) (hcall:∀ w1,Below w.heap.size w w1->∀ j (hj:j<B.length) vj,InV TT w1 vj B[j]->Calls Tryz.prog 141 #[vj,.pointer (some ⟨F,0,none⟩),.pointer (some ⟨V,0,none⟩)] w1 fun e w'=>e=.returned (.bool (q j))/\Below w1.heap.size w1 w') :
  Calls Tryz.prog 140 #[v,.func (.func 141) #[] #[.pointer (some ⟨F,0,none⟩),.pointer (some ⟨V,0,none⟩)]] w fun e w'=>e=.returned (.bool (aO q B.length).isSome)/\Below w.heap.size w w':=by
 have hi:=aFy h hl hcall;obtain⟨p,c,rfl,_⟩:=h;unfold ixR at hi;cases hf:aO q B.length with
 | none =>
  rw[hf] at hi;clear hcall hf hl;go_enter Tryz.func140,Tryz.ntmps140;go_wp2_with (go_at_call 166;(with_reducible refine hi.mono ?_);rintro e w2 ⟨rfl,hb2⟩;have H2:=qAq hb2;clear hi hb2);go_ret;exact⟨rfl,H2.out⟩
 | some k =>
  rw[hf] at hi;have hk:(k:Int)≥0:=(by omega);clear hcall hf hl;go_enter Tryz.func140,Tryz.ntmps140;go_wp2_with (go_at_call 166;(with_reducible refine hi.mono ?_);rintro e w2 ⟨rfl,hb2⟩;have H2:=qAq hb2;clear hi hb2);go_ret;refine⟨?_,H2.out⟩
  first|rfl|simp
theorem aFz {F V U:Nat} (h:RL w v B) (hl:B.length<=1000) (hcall:∀ w1,Below w.heap.size w w1->∀ j (hj:j<B.length) vj,InV TT w1 vj B[j]->Calls Tryz.prog 143 #[vj,.pointer (some ⟨F,0,none⟩),.pointer (some ⟨V,0,none⟩),.pointer (some ⟨U,0,none⟩)] w1 fun e w'=>e=.returned (.bool (q j))/\Below w1.heap.size w1 w') :
  Calls Tryz.prog 166 #[v,.func (.func 143) #[] #[.pointer (some ⟨F,0,none⟩),.pointer (some ⟨V,0,none⟩),.pointer (some ⟨U,0,none⟩)]] w fun e w'=>e=.returned (.int .i64 (ixR q B.length))/\Below w.heap.size w w':=by
 obtain⟨p,c,rfl,hr⟩:=h
 have HR:Hid (∀ w1,Below w.heap.size w w1->∀ j (hj:j<B.length),∃ g vj,p=some ⟨g,0,none⟩/\g<w1.heap.size/\w1.cell? ⟨g,j,none⟩=some vj/\InV TT w1 vj B[j]):=qAq (fun w1 hb j hj=>by
  obtain⟨g,vj,e1,e2,e3,e4⟩:=hr j hj;exact⟨g,vj,e1,Nat.lt_of_lt_of_le e2 hb.size,(World.cell?_of_block (a:=⟨g,j,none⟩) (hb.block g e2)).trans e3,e4.later hb⟩)
 obtain⟨n,hn⟩:∃ n,B.length=n:=⟨_,rfl⟩;have HC:=qAq (qBq hcall hn);rw[hn];have hni:(n:Int)<=1000:=(by omega);have hent:=enters_of Tryz.func143 (by kernel_rfl) rfl;clear hr hcall hl hn;go_enter Tryz.func166,Tryz.ntmps166;go_wp2_with fail;go_loopg [8] (n+1) (fun gh jv y=>∃ (j:Nat),jv=.int .i64 (j:Int)/\j<=n/\n+1<=j+gh/\(∀ i,i<j->q i=false)/\Below w.heap.size w y)
 case atStart=>exact⟨0,rfl,Nat.zero_le _,by omega,fun i hi=>by omega,Below.refl _ _⟩
 obtain⟨j,rfl,hj,hg,hno,hB⟩:=hrel;have HI:=qAq (qBq hno hB);by_cases hlt:j<n
 ·have hjl:j<B.length:=(by rw[HC.out.2];exact hlt);have hji:(j:Int)<(n:Int):=(by omega);obtain⟨g,vj,rfl,gl,c0,hv⟩:=HR.out wr hB j hjl;have hc:=HC.out.1 wr hB j hjl vj hv;obtain⟨pv,cv,rfl,_,_⟩:=hv.slice;obtain⟨m,hm⟩:∃ m,B[j].length=m:=⟨_,rfl⟩;rw[hm] at c0 hc;obtain⟨r,hr⟩:∃ r,q j=r:=⟨_,rfl⟩;rw[hr] at hc;have HX:=qAq hr;clear hno hB hv hm hr;cases r
  ·go_wp2_with (go_at_call 143;(with_reducible refine hc.mono ?_);rintro e w2 ⟨rfl,hb2⟩;have H2:=qAq (aB HI.out.2 hb2);clear hc hb2);go_roundg (n-j)
   case measure=>omega
   refine⟨j+1,by go_num,by omega,by omega,fun i hi=>?_,H2.out⟩;by_cases e:i=j
   ·subst e;exact HX.out
   exact HI.out.1 i (by omega)
  go_wp2_with (go_at_call 143;(with_reducible refine hc.mono ?_);rintro e w2 ⟨rfl,hb2⟩;have H2:=qAq (aB HI.out.2 hb2);clear hc hb2);go_ret;refine⟨?_,H2.out⟩;have e:ixR q n=(j:Int):=(by unfold ixR;rw[bM hlt HX.out HI.out.1]);rw[e];rfl
 obtain rfl:j=n:=(by omega);go_wp2_with fail;go_ret;refine⟨?_,HI.out.2⟩;have e:ixR q j=-1:=(by unfold ixR;rw[aZ HI.out.1]);rw[e];rfl
theorem aDQ {F V U:Nat} (h:RL w v B) (hl:B.length<=1000) (hcall:∀ w1,Below w.heap.size w w1->∀ j (hj:j<B.length) vj,InV TT w1 vj B[j]->Calls Tryz.prog 143 #[vj,.pointer (some ⟨F,0,none⟩),.pointer (some ⟨V,0,none⟩),.pointer (some ⟨U,0,none⟩)] w1 fun e w'=>e=.returned (.bool (q j))/\Below w1.heap.size w1 w') :
  Calls Tryz.prog 140 #[v,.func (.func 143) #[] #[.pointer (some ⟨F,0,none⟩),.pointer (some ⟨V,0,none⟩),.pointer (some ⟨U,0,none⟩)]] w fun e w'=>e=.returned (.bool (aO q B.length).isSome)/\Below w.heap.size w w':=by
 have hi:=aFz h hl hcall;obtain⟨p,c,rfl,_⟩:=h;unfold ixR at hi;cases hf:aO q B.length with
 | none =>
  rw[hf] at hi;clear hcall hf hl;go_enter Tryz.func140,Tryz.ntmps140;go_wp2_with (go_at_call 166;(with_reducible refine hi.mono ?_);rintro e w2 ⟨rfl,hb2⟩;have H2:=qAq hb2;clear hi hb2);go_ret;exact⟨rfl,H2.out⟩
 | some k =>
  rw[hf] at hi;have hk:(k:Int)≥0:=(by omega);clear hcall hf hl;go_enter Tryz.func140,Tryz.ntmps140;go_wp2_with (go_at_call 166;(with_reducible refine hi.mono ?_);rintro e w2 ⟨rfl,hb2⟩;have H2:=qAq hb2;clear hi hb2);go_ret;refine⟨?_,H2.out⟩
  first|rfl|simp
end
section
variable {w:World} {pc pd:Option Addr} {nc cc nd cd F V U:Nat} {va vj:Value} {nm key rt x:ByteArray} {r:Bool}
theorem aFA {pa pj:Option Addr} {na ca nj cj:Nat} (hF:w.heap[F]?=some (.cells #[.string nm,.slice pc nc cc,.string key,.slice pd nd cd] 70)) (hV:w.heap[V]?=some (.cells #[.slice pa na ca] 45))
  (hl:Calls Tryz.prog 142 #[.agg #[.string nm,.slice pc nc cc,.string key,.slice pd nd cd],.string key,.slice pa na ca,.slice pj nj cj] w fun e w'=>e=.returned (.bool r)/\Below w.heap.size w w') :
  Calls Tryz.prog 141 #[.slice pj nj cj,.pointer (some ⟨F,0,none⟩),.pointer (some ⟨V,0,none⟩)] w fun e w'=>e=.returned (.bool r)/\Below w.heap.size w w':=by
 have x0:=aA hF 0;have x1:=aA hF 1;have x2:=aA hF 2;have x3:=aA hF 3;have xl:=lt_of_heap hF;have y0:=aA hV 0;have yl:=lt_of_heap hV;clear hF hV;go_enter Tryz.func141,Tryz.ntmps141;go_wp2_with (go_at_call 142;(with_reducible refine hl.mono ?_);rintro e w2 ⟨rfl,hb2⟩;have H2:=qAq hb2;clear hl hb2);go_ret;exact⟨rfl,H2.out⟩
theorem aFB {pa pj pl:Option Addr} {na ca nj cj nl cl:Nat} {r2:Bool} (hF:w.heap[F]?=some (.cells #[.string nm,.slice pc nc cc,.string key,.slice pd nd cd] 70)) (hV:w.heap[V]?=some (.cells #[.slice pl nl cl,.string rt] 106)) (hU:w.heap[U]?=some (.cells #[.slice pa na ca] 45))
  (hl:Calls Tryz.prog 144 #[.agg #[.string nm,.slice pc nc cc,.string key,.slice pd nd cd],.agg #[.slice pl nl cl,.string rt],.slice pa na ca,.slice pj nj cj] w fun e w'=>e=.returned (.bool r)/\Below w.heap.size w w')
  (hk:∀ w1,Below w.heap.size w w1->Calls Tryz.prog 142 #[.agg #[.string nm,.slice pc nc cc,.string key,.slice pd nd cd],.string rt,.slice pa na ca,.slice pj nj cj] w1 fun e w'=>e=.returned (.bool r2)/\Below w1.heap.size w1 w') :
  Calls Tryz.prog 143 #[.slice pj nj cj,.pointer (some ⟨F,0,none⟩),.pointer (some ⟨V,0,none⟩),.pointer (some ⟨U,0,none⟩)] w fun e w'=>e=.returned (.bool (r&&!r2))/\Below w.heap.size w w':=by
 have x0:=aA hF 0;have x1:=aA hF 1;have x2:=aA hF 2;have x3:=aA hF 3;have xl:=lt_of_heap hF;have y0:=aA hV 0;have y1:=aA hV 1;have yl:=lt_of_heap hV;have z0:=aA hU 0;have zl:=lt_of_heap hU;have HK:=qAq (qBq hF (qBq hV (qBq hU hk)));clear hF hV hU hk;cases r
 ·go_enter Tryz.func143,Tryz.ntmps143;go_wp2_with (go_at_call 144;(with_reducible refine hl.mono ?_);rintro e w2 ⟨rfl,hb2⟩;have H2:=qAq hb2;clear hl hb2);go_ret;exact⟨rfl,H2.out⟩
 go_enter Tryz.func143,Tryz.ntmps143
 go_wp2_with (first
  | (go_at_call 144;(with_reducible refine hl.mono ?_);rintro e w2 ⟨rfl,hb2⟩;have H2:=qAq hb2;have hk:=HK.out.2.2.2 w2 hb2;have a0:=aA (aD hb2 HK.out.1) 0;have a1:=aA (aD hb2 HK.out.1) 1;have a2:=aA (aD hb2 HK.out.1) 2;have a3:=aA (aD hb2 HK.out.1) 3;have al:=lt_of_heap (aD hb2 HK.out.1);have b1:=aA (aD hb2 HK.out.2.1) 1;have bl:=lt_of_heap (aD hb2 HK.out.2.1);have c0:=aA (aD hb2 HK.out.2.2.1) 0;have cll:=lt_of_heap (aD hb2 HK.out.2.2.1);clear hl hb2 x0 x1 x2 x3 xl y0 y1 yl z0 zl)
  | (go_at_call 142;(with_reducible refine hk.mono ?_);rintro e w3 ⟨rfl,hb3⟩;have H3:=qAq (aB H2.out hb3);clear hk hb3))
 go_ret;refine⟨?_,H3.out⟩
 first|rfl|simp
end
section
variable {w:World} {cv dv va rv:Value} {t:T} {A:List T3} {B:List (List T3)}
theorem qD {x:ByteArray} (h:x≠e0):x.toList.isEmpty=false:=nonempty h
structure RowsOf (t:T) (A:List T3) (B:List (List T3)):Prop where
 la:A.length=t.cols.length
 lb:∀ b∈B,b.length=t.cols.length
 lc:t.cols.length<=1000
 nb:B.length<=1000
theorem tV (hT:RdT w cv dv t) (ha:InV TT w va A) (hR:RL w rv B) (hk:t.key=e0∨rS t t.key) (hro:RowsOf t A B) :
  Calls Tryz.prog 113 #[.agg #[.string t.nm,cv,.string t.key,dv],va,rv] w fun e w'=>e=.returned (.bool (fO t A B))/\Below w.heap.size w w':=by
 obtain⟨pc,cc,rfl,_,_⟩:=hT.c.slice;obtain⟨pd,cd,rfl,_,_⟩:=hT.d.slice;obtain⟨pa,ca,rfl,_,_⟩:=ha.slice;have b1:=aC w (.cells #[.string t.nm,.slice pc t.cols.length cc,.string t.key,.slice pd t.deps.length cd] 70);have k1:=qOq w (.cells #[.string t.nm,.slice pc t.cols.length cc,.string t.key,.slice pd t.deps.length cd] 70);have b2:=aC (w.alloc (.cells #[.string t.nm,.slice pc t.cols.length cc,.string t.key,.slice pd t.deps.length cd] 70)) (.cells #[.slice pa A.length ca] 45);have k2:=qOq (w.alloc (.cells #[.string t.nm,.slice pc t.cols.length cc,.string t.key,.slice pd t.deps.length cd] 70)) (.cells #[.slice pa A.length ca] 45);have k1:=aD b2 k1;rw[qPq] at k2;have b2:=aB b1 b2;obtain⟨w1,hw1⟩:∃ y,(w.alloc (.cells #[.string t.nm,.slice pc t.cols.length cc,.string t.key,.slice pd t.deps.length cd] 70)).alloc (.cells #[.slice pa A.length ca] 45)=y:=⟨_,rfl⟩;obtain⟨F,hF⟩:∃ F,w.heap.size=F:=⟨_,rfl⟩;rw[hw1] at k1 k2 b2;rw[hF] at k1 k2;have x0:=aA k1 0;have x2:=aA k1 2;have xl:=lt_of_heap k1;have yl:=lt_of_heap k2;by_cases h0:t.key=e0
 ·have hkB:fO t A B=false:=(by unfold fO;rw[decide_eq_false (fun h=>h h0)];rfl);obtain⟨pr,cr,rfl,_⟩:=hR;rw[h0] at hw1 x2 ⊢;have HW:=qAq (qBq hw1 (qBq hF b2));clear hT ha hk hro k1 k2 hw1 hF b1 b2;rw[hkB];clear hkB h0;go_enter Tryz.func113,Tryz.ntmps113;go_upto_region 1 with fail;rw[HW.out.1,HW.out.2.1];go_wp2_with fail;go_ret;exact⟨rfl,HW.out.2.2⟩
 have hkey:=qD h0;obtain⟨k,hkx,hkl⟩:=hk.resolve_left h0
 have hcall:Calls Tryz.prog 140 #[rv,.func (.func 141) #[] #[.pointer (some ⟨F,0,none⟩),.pointer (some ⟨F+1,0,none⟩)]] w1 fun e w'=>e=.returned (.bool (aO (fun j=>aP t t.key A (B.getD j [])) B.length).isSome)/\Below w1.heap.size w1 w':=by
  refine aDP (q:=fun j=>aP t t.key A (B.getD j [])) (hR.later b2) hro.nb (fun y hy j hj vj hv=>?_);obtain⟨pj,cj,rfl,_,_⟩:=hv.slice;have hbj:=hro.lb _ (List.getElem_mem hj);have e:B.getD j []=B[j]:=(by rw[List.getD_eq_getElem?_getD,qQq hj];rfl);refine aFA (aD hy k1) (aD hy k2) ?_
  have:=qC (nm:=t.nm) (key:=t.key) (hT.later (aB b2 hy)) hkx (ha.later (aB b2 hy)) hv (by rw[hro.la];exact hkl) (by rw[hbj];exact hkl) ⟨by rw[hro.la];exact hro.lc,by rw[hbj];exact hro.lc⟩
  show Calls _ _ _ _ (fun e w'=>e=.returned (.bool (aP t t.key A (B.getD j [])))/\_);unfold aP aBY;rw[hkx,e];exact this
 have hkB:fO t A B=(aO (fun j=>aP t t.key A (B.getD j [])) B.length).isSome:=by
  unfold fO;rw[decide_eq_true h0,Bool.true_and,Bool.eq_iff_iff,List.any_eq_true];constructor
  ·rintro ⟨b,hb,hq⟩;obtain⟨j,hj,rfl⟩:=List.getElem_of_mem hb;cases hf:aO (fun j=>aP t t.key A (B.getD j [])) B.length with
   | some _=>rfl
   | none =>
    unfold aO at hf;rw[List.find?_eq_none] at hf
    have:=hf j (List.mem_range.2 hj)
    rw[List.getD_eq_getElem?_getD,qQq hj] at this;exact absurd hq this
  intro h;obtain⟨j,hj⟩:=Option.isSome_iff_exists.1 h;obtain⟨h1,h2,_⟩:=gX hj;rw[List.getD_eq_getElem?_getD,qQq h1] at h2;exact⟨B[j],List.getElem_mem h1,h2⟩
 rw[hkB];obtain⟨r,hr⟩:∃ r,(aO (fun j=>aP t t.key A (B.getD j [])) B.length).isSome=r:=⟨_,rfl⟩;rw[hr] at hcall ⊢;obtain⟨pr,cr,rfl,_⟩:=hR;have HW:=qAq (qBq hw1 (qBq hF b2));clear hT ha hk hro k1 k2 hw1 hF b1 b2 hkB hr hkx hkl;go_enter Tryz.func113,Tryz.ntmps113;go_upto_region 1 with fail;rw[HW.out.1,HW.out.2.1];go_wp2_with (go_at_call 140;(with_reducible refine hcall.mono ?_);rintro e w2 ⟨rfl,hb2⟩;have H2:=qAq (aB HW.out.2.2 hb2);clear hcall hb2);go_ret;exact⟨rfl,H2.out⟩
end
theorem zR {B:List (List T3)} {p:List T3->Bool}:(aO (fun j=>p (B.getD j [])) B.length).isSome=B.any p:=by
 rw[Bool.eq_iff_iff,List.any_eq_true];constructor
 ·intro h;obtain⟨j,hj⟩:=Option.isSome_iff_exists.1 h;obtain⟨h1,h2,_⟩:=gX hj;rw[List.getD_eq_getElem?_getD,qQq h1] at h2;exact⟨B[j],List.getElem_mem h1,h2⟩
 rintro ⟨b,hb,hq⟩;obtain⟨j,hj,rfl⟩:=List.getElem_of_mem hb;cases hf:aO (fun j=>p (B.getD j [])) B.length with
 | some _=>rfl
 | none =>
  unfold aO at hf;rw[List.find?_eq_none] at hf
  have:=hf j (List.mem_range.2 hj)
  rw[List.getD_eq_getElem?_getD,qQq hj] at this;exact absurd hq this
section
variable {w:World} {cv dv va rv lv:Value} {t:T} {A:List T3} {B:List (List T3)} {d:D}
structure DepOk (t:T) (d:D):Prop where
 l:∀ x∈d.left,rS t x
 r:rS t d.right
 n:d.left.length<=1000
theorem zS (hT:RdT w cv dv t) (hL:RdS w lv d.left) (hd:DepOk t d) (ha:InV TT w va A) (hR:RL w rv B) (hro:RowsOf t A B) :
  Calls Tryz.prog 115 #[.agg #[.string t.nm,cv,.string t.key,dv],.agg #[lv,.string d.right],va,rv] w fun e w'=>e=.returned (.bool (cC t d A B))/\Below w.heap.size w w':=by
 obtain⟨pc,cc,rfl,_,_⟩:=hT.c.slice;obtain⟨pd,cd,rfl,_,_⟩:=hT.d.slice;obtain⟨pa,ca,rfl,_,_⟩:=ha.slice;obtain⟨pl,cl,rfl,_,_⟩:=hL.slice;have b1:=aC w (.cells #[.string t.nm,.slice pc t.cols.length cc,.string t.key,.slice pd t.deps.length cd] 70);have k1:=qOq w (.cells #[.string t.nm,.slice pc t.cols.length cc,.string t.key,.slice pd t.deps.length cd] 70);obtain⟨wa,hwa⟩:∃ y,w.alloc (.cells #[.string t.nm,.slice pc t.cols.length cc,.string t.key,.slice pd t.deps.length cd] 70)=y:=⟨_,rfl⟩;have ea:=qPq w (.cells #[.string t.nm,.slice pc t.cols.length cc,.string t.key,.slice pd t.deps.length cd] 70);rw[hwa] at b1 k1 ea;have b2:=aC wa (.cells #[.slice pl d.left.length cl,.string d.right] 106);have k2:=qOq wa (.cells #[.slice pl d.left.length cl,.string d.right] 106);have eb:=qPq wa (.cells #[.slice pl d.left.length cl,.string d.right] 106);obtain⟨wb,hwb⟩:∃ y,wa.alloc (.cells #[.slice pl d.left.length cl,.string d.right] 106)=y:=⟨_,rfl⟩;rw[hwb] at b2 k2 eb;have b3:=aC wb (.cells #[.slice pa A.length ca] 45);have k3:=qOq wb (.cells #[.slice pa A.length ca] 45);have k1:=aD b3 (aD b2 k1);have k2:=aD b3 k2;have b3:=aB (aB b1 b2) b3;obtain⟨F,hF⟩:∃ F,w.heap.size=F:=⟨_,rfl⟩;rw[eb,ea] at k3;rw[ea] at k2;obtain⟨w1,hw1⟩:∃ y,((w.alloc (.cells #[.string t.nm,.slice pc t.cols.length cc,.string t.key,.slice pd t.deps.length cd] 70)).alloc (.cells #[.slice pl d.left.length cl,.string d.right] 106)).alloc (.cells #[.slice pa A.length ca] 45)=y:=⟨_,rfl⟩;have hw1':=hw1;rw[hwa,hwb] at hw1';rw[hw1'] at k1 k2 k3 b3;rw[hF] at k1 k2 k3
 have hcall:Calls Tryz.prog 140 #[rv,.func (.func 143) #[] #[.pointer (some ⟨F,0,none⟩),.pointer (some ⟨F+1,0,none⟩),.pointer (some ⟨F+1+1,0,none⟩)]] w1 fun e w'=>e=.returned (.bool (cC t d A B))/\Below w1.heap.size w1 w':=by
  have:=aDQ (F:=F) (V:=F+1) (U:=F+1+1) (q:=fun j=>(fun a=>d.left.all (fun x=>aP t x A a)&&!aP t d.right A a) (B.getD j [])) (hR.later b3) hro.nb (fun y hy j hj vj hv=>by
   obtain⟨pj,cj,rfl,_,_⟩:=hv.slice;have hbj:=hro.lb _ (List.getElem_mem hj);have e:B.getD j []=B[j]:=(by rw[List.getD_eq_getElem?_getD,qQq hj];rfl);have hby:=aB b3 hy;simp only[e];refine aFB (aD hy k1) (aD hy k2) (aD hy k3) (tU (hT.later hby) (hL.later hby) hd.l (ha.later hby) hv hro.la hbj hro.lc hd.n) (fun y2 hy2=>?_);obtain⟨k,hkx,hkl⟩:=hd.r
   have:=qC (nm:=t.nm) (key:=t.key) (hT.later (aB hby hy2)) hkx (ha.later (aB hby hy2)) (hv.later hy2) (by rw[hro.la];exact hkl) (by rw[hbj];exact hkl) ⟨by rw[hro.la];exact hro.lc,by rw[hbj];exact hro.lc⟩
   unfold aP aBY;rw[hkx];exact this)
  exact this.mono (fun e w' h=>⟨h.1.trans (congrArg (fun b=>Ending.returned (.bool b)) (zR (B:=B) (p:=fun a=>d.left.all (fun x=>aP t x A a)&&!aP t d.right A a))),h.2⟩)
 obtain⟨r,hr⟩:∃ r,cC t d A B=r:=⟨_,rfl⟩;rw[hr] at hcall ⊢;obtain⟨pr,cr,rfl,_⟩:=hR;have HW:=qAq (qBq hw1 (qBq hF b3));clear hT ha hL hd hro k1 k2 k3 hw1 hw1' hwa hwb hF b1 b2 b3 hr ea eb;go_enter Tryz.func115,Tryz.ntmps115;go_upto_region 1 with fail;rw[HW.out.1,HW.out.2.1];go_wp2_with (go_at_call 140;(with_reducible refine hcall.mono ?_);rintro e w2 ⟨rfl,hb2⟩;have H2:=qAq (aB HW.out.2.2 hb2);clear hcall hb2);go_ret;exact⟨rfl,H2.out⟩
theorem zT {dp:Nat} {x:ByteArray} {u:T3} {o:Option Int} (hk:∀ w1,Below w.heap.size w w1->Calls Tryz.prog 88 #[.pointer (some ⟨dp,0,none⟩),.string x,.agg #[.int .i64 (u.1),.int .i64 (u.2.1),.string (u.2.2)]] w1 fun e w'=>e=.returned (.tuple #[.int .i64 (o.getD 0),.bool o.isSome])/\Below w1.heap.size w1 w') :
  Calls Tryz.prog 114 #[.pointer (some ⟨dp,0,none⟩),.string x,.agg #[.int .i64 (u.1),.int .i64 (u.2.1),.string (u.2.2)]] w fun e w'=>e=.returned (.bool (decide (u.1≠0)&&o.isNone))/\Below w.heap.size w w':=by
 have b1:=aC w (.cells #[.int .i64 u.1,.int .i64 u.2.1,.string u.2.2] 42);have k1:=qOq w (.cells #[.int .i64 u.1,.int .i64 u.2.1,.string u.2.2] 42);obtain⟨w1,hw1⟩:∃ y,w.alloc (.cells #[.int .i64 u.1,.int .i64 u.2.1,.string u.2.2] 42)=y:=⟨_,rfl⟩;obtain⟨F,hF⟩:∃ F,w.heap.size=F:=⟨_,rfl⟩;rw[hw1] at b1 k1;rw[hF] at k1;have hcall:=hk w1 b1;have x0:=aA k1 0;have x1:=aA k1 1;have x2:=aA k1 2;have xl:=lt_of_heap k1;have HW:=qAq (qBq hw1 (qBq hF (qBq b1 k1)));clear hk b1 k1 hw1 hF;cases o with
 | some i =>
  go_enter Tryz.func114,Tryz.ntmps114;go_upto_region 1 with fail;rw[HW.out.1,HW.out.2.1];go_wp2_with (go_at_call 88;(with_reducible refine hcall.mono ?_);rintro e w2 ⟨rfl,hb2⟩;have H2:=qAq (aB HW.out.2.2.1 hb2);clear hcall hb2);go_ret;exact⟨by simp,H2.out⟩
 | none =>
  have e:decide (u.1≠0)=(u.1 != 0):=(by rw[Bool.eq_iff_iff];simp);rw[e];obtain⟨b,hb⟩:∃ b,(u.1 != 0)=b:=⟨_,rfl⟩;rw[hb];clear e;go_enter Tryz.func114,Tryz.ntmps114;go_upto_region 1 with fail;rw[HW.out.1,HW.out.2.1];go_wp2_with (go_at_call 88;(with_reducible refine hcall.mono ?_);rintro e w2 ⟨rfl,hb2⟩;have H2:=qAq (aB HW.out.2.2.1 hb2);have y0:=aA (aD hb2 HW.out.2.2.2) 0;have yl:=lt_of_heap (aD hb2 HW.out.2.2.2);clear hcall hb2 x0 x1 x2 xl);go_ret;refine⟨?_,H2.out⟩
  first|rfl|simp
end
