import Derived.Test.YtgbkmjnnlkgpnaaGreatZe28
import Derived.Test.YtgbkmjnnlkgpnaaGreatZe31
set_option maxHeartbeats 8000000
set_option maxRecDepth 100000
namespace Go.Proofs.YtgbkmjnnlkgpnaaGreat
open Go Go.RowKit Go.Proofs Co Co.S
section
variable {W w:World} {b:Nat} {ts:List T} {tt:List RT} {i:NI} {O:Nat->Nat} {t:Nat} {y:RT}
theorem yR {fs:List (Value×Value)} {ts:List T} (h:fs.length=ts.length):(dF fs ts).length=ts.length*4:=by
 unfold dF
 induction fs generalizing ts with
 | nil=>cases ts with
  | nil=>rfl
  | cons t ts=>cases h
 | cons f fs ih =>
  cases ts with
  | nil=>cases h
  | cons t ts =>
   simp only[List.zip_cons_cons,List.flatMap_cons,List.length_append,List.length_cons,List.length_nil];rw[ih (by simpa using h)];omega
theorem DbN.rdTs (h:DbN W b ts tt i O):RdTs W i.sv ts:=by
 obtain⟨p,cap,e,h1,h2⟩:=h.form.isslice;refine⟨p,cap,dF i.fs ts,e,h1,h2,fun h0=>?_,yR h.fn,fun j hj=>?_⟩
 ·obtain⟨g,c,e2,_,_⟩:=h.form.slice h0;rw[e] at e2;cases e2;have f:=h.form;rw[e] at f;exact⟨g,0,rfl,(HRow.lt f g rfl).2,fun j u hj=>by rw[Nat.zero_add];exact f.cell hj⟩
 obtain⟨c0,c1,c2,c3⟩:=rI h.fn hj;exact⟨_,_,c0,c1,c2,c3,h.rd j hj (by rw[h.fn];exact hj)⟩
end
theorem aFi (u:T3) (k n:Int) (s:ByteArray):eqV u.1 u.2.1 u.2.2 k n s=decide (u=(k,n,s)):=by
 obtain⟨a,b,c⟩:=u;unfold eqV
 simp
def eM (A:List R1) (k:Nat) (v:T3):Option Int:=(A.find? fun a=>decide (a.2.getD k z3=v)).map (·.1)
theorem pM {A:List R1} {k:Nat} {v:T3} (h:∀ j (hj:j<A.length),A[j].2.getD k z3≠v):eM A k v=none:=by
 unfold eM
 rw[List.find?_eq_none.2 (fun a ha=>by
  obtain⟨j,hj,rfl⟩:=List.getElem_of_mem ha;simpa using h j hj)]
 rfl
theorem pN {A:List R1} {k:Nat} {v:T3} {j:Nat} (hj:j<A.length) (h1:A[j].2.getD k z3=v) (h:∀ m (hm:m<A.length),m<j->A[m].2.getD k z3≠v):eM A k v=some A[j].1:=by
 unfold eM
 have e:A.find? (fun a=>decide (a.2.getD k z3=v))=some A[j]:=by
  rw[List.find?_eq_some_iff_getElem];exact⟨by simpa using h1,j,hj,rfl,fun m hm=>by simpa using h m (by omega) hm⟩
 rw[e];rfl
theorem nonempty {key:ByteArray} (h:key≠e0):key.toList.isEmpty=false:=by
 cases hh:key.toList.isEmpty with
 | false=>rfl
 | true =>
  rw[List.isEmpty_iff,ByteArray.toList_eq] at hh;exact absurd (fE (hh.trans rfl)) h
def aX (ts:List T) (As:List (List R1)) (x:ByteArray) (v:T3):Option Int :=
 match ts[(ixT ts x).toNat]?,As[(ixT ts x).toNat]? with
 | some t,some A=>if ixT ts x<0 then none else if t.key=e0 then none else if v.1=0 then none else eM A (ixC t.cols t.key).toNat v
 | _,_=>none
section
variable {W:World} {b:Nat} {ts:List T} {tt:List RT} {i:NI} {O:Nat->Nat}
theorem mK (h:DbN W b ts tt i O) (x:ByteArray) (kd n1:Int) (s:ByteArray) (hno:ixT ts x<0∨∃ t,∃ ht:t<ts.length,ixT ts x=(t:Int)/\(ts[t].key=e0∨kd=0)) :
  Calls Tryz.prog 84 #[.pointer (some ⟨b,0,none⟩),.string x,.agg #[.int .i64 (kd),.int .i64 (n1),.string (s)]] W fun e w'=>e=.returned (.tuple #[.int .i64 0,.bool false])/\Below W.heap.size W w':=by
 have hb1:=aC W (.cells #[.int .i64 kd,.int .i64 n1,.string s] 42);have k1:=qOq W (.cells #[.int .i64 kd,.int .i64 n1,.string s] 42);obtain⟨w1,hw1⟩:∃ w1,W.alloc (.cells #[.int .i64 kd,.int .i64 n1,.string s] 42)=w1:=⟨_,rfl⟩;obtain⟨B,hB⟩:∃ B,W.heap.size=B:=⟨_,rfl⟩;rw[hw1] at hb1 k1;rw[hB] at k1;have h1:=h.later hb1;have hfind:=fA (x:=x) h1.rdTs;have x0:w1.cell? ⟨b,0,none⟩=some i.sv:=aA h1.box 0;have xl:=lt_of_heap h1.box;have kc:=aA k1 0;have kl:=lt_of_heap k1;have HW:=qAq (qBq hw1 (qBq hB hb1));rcases hno with hno|⟨t,ht,e1,hk⟩
 ·obtain⟨j,hj⟩:∃ j,ixT ts x=j:=⟨_,rfl⟩;rw[hj] at hfind hno;clear h h1 hb1 k1 hw1 hB hj;go_enter Tryz.func84,Tryz.ntmps84;go_upto_region 1 with fail;rw[HW.out.1,HW.out.2.1];go_wp2_with (go_at_call 34;(with_reducible refine hfind.mono ?_);rintro e w2 ⟨rfl,hw⟩;subst w2;clear hfind);go_ret2;exact⟨rfl,HW.out.2.1▸HW.out.2.2⟩
 obtain⟨y,hy,_⟩:=h1.at ht;obtain⟨⟨gs,cs,go,co,gn,cn,pc,kc',pd,kd'⟩,e2,_,_,_,_,_,hR⟩:=h1.reads ht hy;have hR:=hR w1 (Below.refl _ _);obtain⟨mt',hmt⟩:∃ m,ts.length=m:=⟨_,rfl⟩;have hti:(t:Int)<(mt':Int):=(by omega);have htn:t<mt':=(by omega);have hnt:¬ (t:Int)<0:=(by omega);have e2:i.sv=.slice (some ⟨gs,0,none⟩) ts.length cs:=e2;rw[e2,hmt] at x0;rw[e1] at hfind;rw[e2,hmt] at hfind;have s2:w1.cell? ⟨gs,t*4+2,none⟩=some (.string (ts[t]'ht).key):=hR.s2;have sl:gs<w1.heap.size:=hR.sl;obtain⟨key,hkey⟩:∃ k,(ts[t]'ht).key=k:=⟨_,rfl⟩;rw[hkey] at s2 hk;by_cases he:key=e0
 ·subst he;clear h h1 hb1 k1 hw1 hB e1 e2 hy hR hmt hkey hk;go_enter Tryz.func84,Tryz.ntmps84;go_upto_region 1 with fail;rw[HW.out.1,HW.out.2.1];go_wp2_with (go_at_call 34;(with_reducible refine hfind.mono ?_);rintro e w2 ⟨rfl,hw⟩;subst w2;clear hfind);go_ret2;exact⟨rfl,HW.out.2.1▸HW.out.2.2⟩
 have hkd:kd=0:=by
  rcases hk with h1|h1
  ·exact absurd h1 he
  exact h1
 subst hkd;have hke:=nonempty he;clear h h1 hb1 k1 hw1 hB e1 e2 hy hR hmt hkey hk;go_enter Tryz.func84,Tryz.ntmps84;go_upto_region 1 with fail;rw[HW.out.1,HW.out.2.1];go_wp2_with (go_at_call 34;(with_reducible refine hfind.mono ?_);rintro e w2 ⟨rfl,hw⟩;subst w2;clear hfind);go_ret2;exact⟨rfl,HW.out.2.1▸HW.out.2.2⟩
theorem yS (h:DbN W b ts tt i O) {t:Nat} (ht:t<ts.length) {y:RT} (hy:tt[t]?=some y) {x:ByteArray} (e1:ixT ts x=(t:Int)) (hk0:ts[t].key≠e0) {c:Nat} (hc:c<ts[t].cols.length) (hcx:ixC ts[t].cols ts[t].key=(c:Int)) (kd n1:Int) (s:ByteArray) (hkd:kd≠0) (hAl:y.A.length<=100000) (hc1:ts[t].cols.length<=1000) :
  Calls Tryz.prog 84 #[.pointer (some ⟨b,0,none⟩),.string x,.agg #[.int .i64 (kd),.int .i64 (n1),.string (s)]] W fun e w'=>e=.returned (.tuple #[.int .i64 ((eM y.A c (kd,n1,s)).getD 0),.bool (eM y.A c (kd,n1,s)).isSome])/\Below W.heap.size W w':=by
 have hb1:=aC W (.cells #[.int .i64 kd,.int .i64 n1,.string s] 42);have k1:=qOq W (.cells #[.int .i64 kd,.int .i64 n1,.string s] 42);obtain⟨w1,hw1⟩:∃ w1,W.alloc (.cells #[.int .i64 kd,.int .i64 n1,.string s] 42)=w1:=⟨_,rfl⟩;obtain⟨B,hB⟩:∃ B,W.heap.size=B:=⟨_,rfl⟩;rw[hw1] at hb1 k1;rw[hB] at k1;have h1:=h.later hb1;have hfind:=fA (x:=x) h1.rdTs;have kc:=aA k1 0;have kl:=lt_of_heap k1;have hx1:=h1.ok ht hy;obtain⟨⟨gs,cs,go,co,gn,cn,pc,kc',pd,kd'⟩,e2,_,_,_,_,_,hR⟩:=h1.reads ht hy;obtain⟨mt',hmt⟩:∃ m,ts.length=m:=⟨_,rfl⟩;have hti:(t:Int)<(mt':Int):=(by omega);have htn:t<mt':=(by omega);have hnt:¬ (t:Int)<0:=(by omega);have e2:i.sv=.slice (some ⟨gs,0,none⟩) ts.length cs:=e2;rw[e1,e2,hmt] at hfind;obtain⟨T0,hT0⟩:∃ T0,ts[t]'ht=T0:=⟨_,rfl⟩;simp only[hT0] at hR hk0 hc hcx hc1;have hke:=nonempty hk0;have hlen:=hx1.len;rw[hT0] at hlen;obtain⟨nc,hnc⟩:∃ n,T0.cols.length=n:=⟨_,rfl⟩;obtain⟨nd,hnd⟩:∃ n,T0.deps.length=n:=⟨_,rfl⟩;obtain⟨na,hna⟩:∃ n,y.A.length=n:=⟨_,rfl⟩;have hna2:(na:Int)<=100000:=(by omega);have hci:(c:Int)<(nc:Int):=(by omega);have hcn:c<nc:=(by omega);obtain⟨nm,hnm⟩:∃ k,T0.nm=k:=⟨_,rfl⟩;obtain⟨key,hkey⟩:∃ k,T0.key=k:=⟨_,rfl⟩;obtain⟨pr,cr,hrv,_,_⟩:=hx1.rows.isslice;rw[hna] at hrv
 have HF:Hid (∀ w,Below w1.heap.size w1 w->w.cell? ⟨b,0,none⟩=some (.slice (some ⟨gs,0,none⟩) mt' cs)/\w.cell? ⟨b,1,none⟩=some (.slice (some ⟨go,0,none⟩) mt' co)/\w.cell? ⟨gs,t*4,none⟩=some (.string nm)/\w.cell? ⟨gs,t*4+1,none⟩=some (.slice pc nc kc')/\w.cell? ⟨gs,t*4+2,none⟩=some (.string key)/\w.cell? ⟨gs,t*4+3,none⟩=some (.slice pd nd kd')/\w.cell? ⟨go,t,none⟩=some (.slice pr na cr)/\(b<w.heap.size/\gs<w.heap.size/\go<w.heap.size)/\w.heap[B]?=some (.cells #[.int .i64 kd,.int .i64 n1,.string s] 42)):=qAq (fun w hb=>by
  have k:=hR w hb;rw[<- hmt,<- hnm,<- hkey,<- hnc,<- hnd,<- hrv];exact⟨k.b0,k.b1,k.s0,k.s1,k.s2,k.s3,k.o0,⟨k.bl,k.sl,k.ol⟩,aD hb k1⟩)
 have HCOL:Hid (∀ w,Below w1.heap.size w1 w->Calls Tryz.prog 69 #[.agg #[.string nm,.slice pc nc kc',.string key,.slice pd nd kd'],.string key] w fun e w'=>e=.returned (.int .i64 (c:Int))/\Below w.heap.size w w'):=qAq (fun w hb=>by
  have:=cW (x:=key) (hR w hb).rt
  rw[hnm,hnc,hkey,hnd,<- hkey,hcx,hkey] at this;exact this)
 have HROW:Hid (∀ k (hk:k<y.A.length),∃ gr gv cv,pr=some ⟨gr,0,none⟩/\∀ w,Below w1.heap.size w1 w->w.cell? ⟨gr,k*2,none⟩=some (.int .i64 y.A[k].1)/\w.cell? ⟨gr,k*2+1,none⟩=some (.slice (some ⟨gv,0,none⟩) nc cv)/\HRow w 0 42 3 (.slice (some ⟨gv,0,none⟩) nc cv) nc (cells3 y.A[k].2)/\gr<w.heap.size):=qAq (fun k hk=>by
  have hkv:k<y.vs.length:=(by rw[hx1.n];exact hk);have hvr:=hx1.vals k hk hkv;rw[hlen _ (List.getElem_mem hk),hnc] at hvr;obtain⟨gv,cv,r5,_,_⟩:=hvr.slice (by omega);rw[r5] at hvr;obtain⟨gr,cr',r1,_,_⟩:=hx1.rows.slice (by omega);have hrr:=hx1.rows;rw[r1] at hrr;rw[hrv,hna] at r1;cases r1;obtain⟨q1,q2⟩:=jN hx1.n hk;rw[r5] at q2;refine⟨gr,gv,cv,rfl,fun w hb=>?_⟩;have hrw:=hrr.later hb;exact⟨hrw.cell q1,hrw.cell q2,hvr.later hb,(HRow.lt hrw gr rfl).2⟩)
 have HW:=qAq (qBq hw1 (qBq hB hb1));have HN:=qAq (qBq hna (qBq hlen (qBq hnc hkd)));rw[hkey] at hke;have hkd':(kd==0)=false:=(by simpa using hkd);obtain⟨x0,x1,_,_,x2,_,_,⟨xl,xs,_⟩,_⟩:=HF.out w1 (Below.refl _ _);clear h h1 hb1 k1 hw1 hB e1 e2 hy hR hmt hkey hnm hnc hnd hna hx1 hrv hT0 hk0 hlen hcx hAl hc1 hc ht;go_enter Tryz.func84,Tryz.ntmps84;go_upto_region 1 with fail;rw[HW.out.1,HW.out.2.1];go_upto_region 4 with (go_at_call 34;(with_reducible refine hfind.mono ?_);rintro e w2 ⟨rfl,hw⟩;subst w2;clear hfind);clear x0 x1 x2 xl xs kc kl;refine Par.wp_region_par 15 [.pointer (some ⟨b,0,none⟩),.pointer (some ⟨b,0,none⟩),.pointer (some ⟨b,0,none⟩),.slice (some ⟨gs,0,none⟩) mt' cs,.int .i64 ((t:Int)),.pointer (some ⟨gs,t*4,none⟩),.agg #[.string nm,.slice pc nc kc',.string key,.slice pd nd kd'],.pointer (some ⟨b,0,none⟩),.pointer (some ⟨b,0,none⟩),.pointer (some ⟨b,0,none⟩),.slice (some ⟨gs,0,none⟩) mt' cs,.int .i64 ((t:Int)),.pointer (some ⟨gs,t*4,none⟩),.pointer (some ⟨gs,t*4+2,none⟩),.string key] (fun w=>Below w1.heap.size w1 w) ?A1 ?hm1 ?hB1 ?hA1 ((aE w1)) ?hop1 ?hT1
 case hm1=>kernel_rfl
 case hB1=>kernel_rfl
 case hA1 =>
  simp only[Par.putA,Par.dstAt,Act.put,qDq,qEq,qFq,qLq,qGq,qHq,qIq,qJq,qKq];rfl
 case hop1 =>
  simp only[qMq,List.take_zero,Par.GiveAll,and_true];and_intros<;>intro w' hR<;>have HR:=qAq hR
  rotate_left;have zl:=(HF.out w' hR).2.2.2.2.2.2.2.1.1;rotate_left;have zl:=(HF.out w' hR).2.2.2.2.2.2.2.1.1;rotate_left;have x0:=(HF.out w' hR).1;rotate_left 3;have x0:=(HF.out w' hR).2.2.1;have x1:=(HF.out w' hR).2.2.2.1;have x2:=(HF.out w' hR).2.2.2.2.1;have x3:=(HF.out w' hR).2.2.2.2.2.1;rotate_left 2;have zl:=(HF.out w' hR).2.2.2.2.2.2.2.1.1;rotate_left;have zl:=(HF.out w' hR).2.2.2.2.2.2.2.1.1;rotate_left;have x0:=(HF.out w' hR).1;rotate_left 3;have zl:=(HF.out w' hR).2.2.2.2.2.2.2.1.2.1;rotate_left;have x0:=(HF.out w' hR).2.2.2.2.1;rotate_left
  all_goals(clear hR;simp only[Par.Gives];go_simp;all_goals exact HR.out)
 intro w' hR;simp only[qNq,List.drop_zero];have HR:=qAq hR;have hcol:=HCOL.out w' hR;clear hR;go_upto_region 5 with (go_at_call 69;(with_reducible refine hcol.mono ?_);rintro e w3 ⟨rfl,hb3⟩;have H3:=qAq (HR.out.trans (hb3.mono HR.out.size));clear hcol hb3);go_wp2_with fail;go_loopg [10] (na+1) (fun gh jv w=>∃ (j:Nat),jv=.int .i64 (j:Int)/\j<=na/\na+1<=j+gh/\(∀ m (hm:m<y.A.length),m<j->y.A[m].2.getD c z3≠(kd,n1,s))/\Below w1.heap.size w1 w)
 case atStart=>exact⟨0,rfl,Nat.zero_le _,by omega,fun m _ h=>absurd h (Nat.not_lt_zero m),H3.out⟩
 obtain⟨j,rfl,hj,hg,hx,hB⟩:=hrel;obtain⟨_,x1,_,_,_,_,x2,⟨xl,_,xo⟩,_⟩:=HF.out wr hB;by_cases hlt:j<na
 ·have hjA:j<y.A.length:=(by rw[HN.out.1];exact hlt);have hji:(j:Int)<(na:Int):=(by omega);obtain⟨gr,gv,cv,rfl,hrow⟩:=HROW.out j hjA;have hl:=HN.out.2.1 _ (List.getElem_mem hjA);rw[HN.out.2.2.1] at hl;have hca:c<y.A[j].2.length:=(by rw[hl];exact hcn);obtain⟨u,hu⟩:∃ u,y.A[j].2[c]=u:=⟨_,rfl⟩;obtain⟨q1,q2,q3⟩:=eX y.A[j].2 c hca;rw[hu] at q1 q2 q3;obtain⟨aj,haj⟩:∃ a,y.A[j].1=a:=⟨_,rfl⟩
  have HC:Hid (∀ w,Below wr.heap.size wr w->Below w1.heap.size w1 w/\(w.cell? ⟨gr,j*2+1,none⟩=some (.slice (some ⟨gv,0,none⟩) nc cv)/\gr<w.heap.size)/\(w.cell? ⟨gv,c*3,none⟩=some (.int .i64 u.1)/\w.cell? ⟨gv,c*3+1,none⟩=some (.int .i64 u.2.1)/\w.cell? ⟨gv,c*3+2,none⟩=some (.string u.2.2))/\w.cell? ⟨gr,j*2,none⟩=some (.int .i64 aj)):=qAq (fun w hb=>by
   have hw:=aB hB hb;obtain⟨r1,r2,r3,r4⟩:=hrow w hw;rw[haj] at r1;exact⟨hw,⟨r2,r4⟩,⟨r3.cell q1,r3.cell q2,r3.cell q3⟩,r1⟩)
  have heq:=(fun w=>mS u.1 u.2.1 u.2.2 kd n1 s w);have hgu:y.A[j].2.getD c z3=u:=(by rw[List.getD_eq_getElem?_getD,qQq hca,hu];rfl);have HX:=qAq (qBq hx (qBq hB (qBq hgu haj)));clear hx hB hrow hl hca hu q1 q2 q3 haj hgu;go_upto_region 8 with fail;clear x1 x2 xl xo;refine Par.wp_region_par 15 [.pointer (some ⟨b,0,none⟩),.pointer (some ⟨b,0,none⟩),.pointer (some ⟨b,1,none⟩),.slice (some ⟨go,0,none⟩) mt' co,.int .i64 ((t:Int)),.pointer (some ⟨go,t,none⟩),.slice (some ⟨gr,0,none⟩) na cr,.int .i64 ((j:Int)),.pointer (some ⟨gr,j*2,none⟩),.pointer (some ⟨gr,j*2+1,none⟩),.slice (some ⟨gv,0,none⟩) nc cv,.int .i64 ((c:Int)),.pointer (some ⟨gv,c*3,none⟩),.agg #[.int .i64 (u.1),.int .i64 (u.2.1),.string (u.2.2)],.agg #[.int .i64 (kd),.int .i64 (n1),.string (s)]] (fun w=>Below wr.heap.size wr w) ?A2 ?hm2 ?hB2 ?hA2 ((aE wr)) ?hop2 ?hT2
  case hm2=>kernel_rfl
  case hB2=>kernel_rfl
  case hA2 =>
   simp only[Par.putA,Par.dstAt,Act.put,qDq,qEq,qFq,qLq,qGq,qHq,qIq,qJq,qKq];rfl
  case hop2 =>
   simp only[qMq,List.take_zero,Par.GiveAll,and_true];and_intros<;>intro w' hR<;>have HR:=qAq hR
   rotate_left;have zl:=(HF.out w' (HC.out w' hR).1).2.2.2.2.2.2.2.1.1;rotate_left;have zl:=(HF.out w' (HC.out w' hR).1).2.2.2.2.2.2.2.1.1;rotate_left;have x0:=(HF.out w' (HC.out w' hR).1).2.1;rotate_left 3;have x0:=(HF.out w' (HC.out w' hR).1).2.2.2.2.2.2.1;rotate_left 3;have zl:=(HC.out w' hR).2.1.2;rotate_left;have x0:=(HC.out w' hR).2.1.1;rotate_left 3;have x0:=(HC.out w' hR).2.2.1.1;have x1:=(HC.out w' hR).2.2.1.2.1;have x2:=(HC.out w' hR).2.2.1.2.2;rotate_left;have x0:=aA (HF.out w' (HC.out w' hR).1).2.2.2.2.2.2.2.2 0;have x1:=aA (HF.out w' (HC.out w' hR).1).2.2.2.2.2.2.2.2 1;have x2:=aA (HF.out w' (HC.out w' hR).1).2.2.2.2.2.2.2.2 2;rotate_left
   all_goals(clear hR;simp only[Par.Gives];go_simp;all_goals exact HR.out)
  intro w' hR;simp only[qNq,List.drop_zero];have HR2:=qAq hR;have heq:=heq w';clear hR;have hdec:eqV u.1 u.2.1 u.2.2 kd n1 s=decide (u=(kd,n1,s)):=aFi u kd n1 s;rw[hdec] at heq;by_cases he:u=(kd,n1,s)
  ·rw[decide_eq_true he] at heq;have HE:=qAq he;clear hdec he;go_upto_region 9 with (go_at_call 83;(with_reducible refine heq.mono ?_);rintro e w4 ⟨rfl,hb4⟩;have H4:=qAq (HR2.out.trans (hb4.mono HR2.out.size));obtain⟨_,x1,_,_,_,_,x2,⟨xl,_,xo⟩,_⟩:=HF.out w4 (HC.out w4 H4.out).1;obtain⟨_,⟨_,x3⟩,_,x4⟩:=HC.out w4 H4.out;clear heq hb4);go_wp2_with fail;go_ret2;have hs:=pN (k:=c) (v:=(kd,n1,s)) hjA (HX.out.2.2.1.trans HE.out) HX.out.1;rw[hs];exact⟨by rw[HX.out.2.2.2];rfl,aB HW.out.2.2 (HC.out w4 H4.out).1⟩
  rw[decide_eq_false he] at heq;have HE:=qAq he;clear hdec he;go_wp2_with (go_at_call 83;(with_reducible refine heq.mono ?_);rintro e w4 ⟨rfl,hb4⟩;have H4:=qAq (HR2.out.trans (hb4.mono HR2.out.size));clear heq hb4);go_roundg (na-j)
  case measure=>omega
  case rel=>exact⟨j+1,rfl,by omega,by omega,fun m hm hmj=>(by
   by_cases em:m=j
   ·subst em;rw[HX.out.2.2.1];exact HE.out
   exact HX.out.1 m hm (by omega)),(HC.out w4 H4.out).1⟩
 obtain rfl:j=na:=(by omega);have HX:=qAq (qBq hx hB);clear hx hB;go_wp2_with fail;go_ret2;have hs:=pM (A:=y.A) (k:=c) (v:=(kd,n1,s)) (fun m hm=>HX.out.1 m hm (by rw[<- HN.out.1];exact hm));rw[hs];exact⟨rfl,aB HW.out.2.2 HX.out.2⟩
end
