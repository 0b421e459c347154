import Derived.Test.YthlccadnojnkaaaGreatZk27
import Derived.Test.YthlccadnojnkaaaGreatZk30
set_option maxHeartbeats 8000000
set_option maxRecDepth 100000
namespace Go.Proofs.YthlccadnojnkaaaGreat
open Go Go.RowKit Go.Proofs Co Co.S
section
variable {A:List R1}
theorem pQ (hs:A.Pairwise (fun a b=>a.1<b.1)) (x:Int):(atP A x=-1/\∀ a∈A,a.1≠x)∨∃ k,∃ hk:k<A.length,atP A x=(k:Int)/\A[k].1=x:=by
 by_cases h:∃ k,∃ hk:k<A.length,A[k].1=x
 ·obtain⟨k,hk,h1⟩:=h;refine .inr ⟨k,hk,nC hk h1 (fun j hj hjk e=>?_),h1⟩
  have:=rA hs hj hk (e.trans h1.symm)
  omega
 refine .inl ⟨nB (fun j hj e=>h ⟨j,hj,e⟩),fun a ha e=>?_⟩;obtain⟨j,hj,rfl⟩:=List.getElem_of_mem ha;exact h ⟨j,hj,e⟩
theorem aFq {x:Int} {j:Nat} {v:T3} {k:Nat} (hk:k<A.length) (hk':k<(setA A x j v).length):(setA A x j v)[k]=if A[k].1=x then (A[k].1,A[k].2.set j v) else A[k]:=by
 simp[setA]
theorem xM {A A':List R1} {vs:List Value} (h:A.map (·.1)=A'.map (·.1)):cellsR A vs=cellsR A' vs:=by
 unfold cellsR
 induction A generalizing A' vs with
 | nil =>
  cases A' with
  | nil=>rfl
  | cons a A'=>cases h
 | cons a A ih =>
  cases A' with
  | nil=>cases h
  | cons a' A' =>
   simp only[List.map_cons,List.cons.injEq] at h;cases vs with
   | nil=>rfl
   | cons v vs =>
    simp only[List.zip_cons_cons,List.flatMap_cons];rw[ih h.2,h.1]
end
section
variable {W w:World} {b:Nat} {ts:List T} {tt:List RT} {i:NI} {O:Nat->Nat} {t:Nat} {y:RT}
theorem tU {x:RT} (hy:tt[t]?=some y) (hx:x.rv=y.rv):(tt.set t x).map (·.rv)=tt.map (·.rv):=by
 refine List.ext_getElem? (fun k=>?_);rw[List.getElem?_map,List.getElem?_map,List.getElem?_set];by_cases e:t=k
 ·subst e;rw[if_pos rfl,if_pos (List.getElem?_eq_some_iff.1 hy).1,hy];simp only[Option.map_some];rw[hx]
 rw[if_neg e]
theorem DbN.setval (h:DbN W b ts tt i O) (ht:t<ts.length) (hy:tt[t]?=some y) {k:Nat} (hk:k<y.A.length) {j:Nat} (hj:j<ts[t].cols.length) {gv cv:Nat} (hv:∀ hk':k<y.vs.length,y.vs[k]=.slice (some ⟨gv,0,none⟩) ts[t].cols.length cv) (kd n1:Int) (s:ByteArray) :
  DbN (((W.setCell ⟨gv,j*3,none⟩ (.int .i64 kd)).setCell ⟨gv,j*3+1,none⟩ (.int .i64 n1)).setCell ⟨gv,j*3+2,none⟩ (.string s)) b ts (tt.set t { y with A:=setA y.A y.A[k].1 j (kd,n1,s) }) i O /\
   Tn (fun q=>O q≠0) W (((W.setCell ⟨gv,j*3,none⟩ (.int .i64 kd)).setCell ⟨gv,j*3+1,none⟩ (.int .i64 n1)).setCell ⟨gv,j*3+2,none⟩ (.string s)):=by
 have hx:=h.ok ht hy;have hk':k<y.vs.length:=(by rw[hx.n];exact hk);have hv:=hv hk';have hl:=hx.len _ (List.getElem_mem hk);have hr:=hx.vals k hk hk';rw[hv,hl] at hr;obtain⟨h1,h2⟩:=qO hr hl j hj kd n1 s;have hg:O gv=6+2*t:=hx.ovs k hk' gv (by rw[hv];rfl)
 have hty:Ty W gv:=by
  obtain⟨_,cur,hb⟩:=hr.block gv rfl;exact⟨cur,32,hb,rfl⟩
 generalize ((W.setCell ⟨gv,j*3,none⟩ (.int .i64 kd)).setCell ⟨gv,j*3+1,none⟩ (.int .i64 n1)).setCell ⟨gv,j*3+2,none⟩ (.string s)=w at h1 h2 ⊢;have hchg:Chg (fun q=>q=gv) W w:=⟨h2.os,h2.tape,h2.output,h2.size,fun q hq hn=>h2.block q hq (fun e=>hn (by cases e;rfl))⟩;have htn:Tn (fun q=>q=gv) W w:=Tn.of_chg hchg (fun q _ hq=>.inl (hq▸hty));have hb:∀ q,q<W.heap.size->q≠gv->w.heap[q]?=W.heap[q]?:=(fun q hq hn=>hchg.block q hq hn);have hids:(setA y.A y.A[k].1 j (kd,n1,s)).map (·.1)=y.A.map (·.1):=tA _ _ _ _;have hll:(setA y.A y.A[k].1 j (kd,n1,s)).length=y.A.length:=mS _ _ _ _;have hrow:HRow w 0 99 2 y.rv y.A.length (cellsR y.A y.vs):=hx.rows.of (fun q hq=>hb q (HRow.lt hx.rows q hq).2 (fun e=>by have:=hx.orv q hq;rw[e,hg] at this;omega));refine⟨h.settab ht htn (fun q hq=>.inr (.inr (.inr (by rw[hq];exact hg)))) (fun _ _=>rfl) (fun q hq=>Nat.lt_of_lt_of_le (h.lt q hq) h2.size) ⟨?_,hx.n.trans hll.symm,fun m hm hm'=>?_,hx.sep,fun a ha=>?_,?_,fun a ha=>?_,hx.orv,hx.ovs⟩ (fun z hz=>by rw[hy] at hz;cases hz;rfl) ?_,htn.mono (fun q _ hq=>by show O q≠0;rw[hq,hg];omega)⟩
 ·show HRow w 0 99 2 y.rv (setA y.A y.A[k].1 j (kd,n1,s)).length (cellsR (setA y.A y.A[k].1 j (kd,n1,s)) y.vs);rw[hll,xM hids];exact hrow
 ·have hm:m<y.A.length:=(by have hm:m<(setA y.A y.A[k].1 j (kd,n1,s)).length:=hm;rwa [hll] at hm);have hm':m<y.vs.length:=hm';have e:=aFq (x:=y.A[k].1) (j:=j) (v:=(kd,n1,s)) hm (by rw[hll];exact hm);show HRow w 0 32 3 y.vs[m] ((setA y.A y.A[k].1 j (kd,n1,s))[m]'(by rw[hll];exact hm)).2.length (cells3 ((setA y.A y.A[k].1 j (kd,n1,s))[m]'(by rw[hll];exact hm)).2);rw[e];by_cases hmk:m=k
  ·subst hmk;rw[if_pos rfl];show HRow w 0 32 3 y.vs[m] (y.A[m].2.set j (kd,n1,s)).length (cells3 (y.A[m].2.set j (kd,n1,s)));rw[List.length_set,hl,hv];exact h1
  rw[if_neg (fun e2=>hmk (rA hx.srt hm hk e2))];refine (hx.vals m hm hm').of (fun q hq=>hb q (HRow.lt (hx.vals m hm hm') q hq).2 (fun e3=>?_));subst e3;exact hx.sep m k hm' hk' hmk q hq (by rw[hv];rfl)
 ·have ha:a∈setA y.A y.A[k].1 j (kd,n1,s):=ha;unfold setA at ha;obtain⟨a0,ha0,rfl⟩:=List.mem_map.1 ha;by_cases e:a0.1=y.A[k].1
  ·rw[if_pos e];show (a0.2.set j _).length=_;rw[List.length_set];exact hx.len a0 ha0
  rw[if_neg e];exact hx.len a0 ha0
 ·have:=hx.srt
  show (setA y.A y.A[k].1 j (kd,n1,s)).Pairwise _;rw[<- List.pairwise_map (f:=fun a:R1=>a.1) (R:=fun a b=>a<b)] at this ⊢;rw[hids];exact this
 ·have ha:a∈setA y.A y.A[k].1 j (kd,n1,s):=ha;unfold setA at ha;obtain⟨a0,ha0,rfl⟩:=List.mem_map.1 ha
  have:=hx.rng a0 ha0
  by_cases e:a0.1=y.A[k].1
  ·rw[if_pos e];exact this
  rw[if_neg e];exact this
 have e:=tU (x:={ y with A:=setA y.A y.A[k].1 j (kd,n1,s) }) hy rfl;rw[e];exact h.outer.of (fun q hq=>hb q (HRow.lt h.outer q hq).2 (fun e=>by have:=h.o3 q hq;rw[e,hg] at this;omega))
theorem aDo {tt:List RT} {t:Nat} {y:RT} (hy:tt[t]?=some y):tt.set t y=tt:=by
 refine List.ext_getElem? (fun k=>?_);rw[List.getElem?_set];by_cases e:t=k
 ·subst e;rw[if_pos rfl,if_pos (List.getElem?_eq_some_iff.1 hy).1,hy]
 rw[if_neg e]
theorem aDp (h:DbN W b ts tt i O) (ht:t<ts.length) (hy:tt[t]?=some y) (hl:y.A.length<=100000) (hc0:0<ts[t].cols.length) (x:Int) (z:ByteArray) (kd n1:Int) (s:ByteArray) (hs:s.size<=maxLen) :
  Calls Tryz.prog 42 #[.pointer (some ⟨b,0,none⟩),.int .i64 (t:Int),.int .i64 x,.string z,.agg #[.int .i64 (kd),.int .i64 (n1),.string (s)]] W fun e w'=>e=.returned (.int .i64 (setE ts[t] y.A x z (kd,n1,s)))/\∃ x1,DbN w' b ts (tt.set t x1) i O/\x1.nx=y.nx/\x1.A=(if setE ts[t] y.A x z (kd,n1,s)=0 then setA y.A x (ixC ts[t].cols z).toNat (kd,n1,s) else y.A)/\Tn (fun q=>O q≠0) W w':=by
 have hb1:=aD W (.cells #[.int .i64 kd,.int .i64 n1,.string s] 32);have k1:=heap_alloc_new W (.cells #[.int .i64 kd,.int .i64 n1,.string s] 32);obtain⟨w1,hw1⟩:∃ w1,W.alloc (.cells #[.int .i64 kd,.int .i64 n1,.string s] 32)=w1:=⟨_,rfl⟩;obtain⟨B,hB⟩:∃ B,W.heap.size=B:=⟨_,rfl⟩;rw[hw1] at hb1 k1;rw[hB] at k1;have h1:=h.later hb1;have hss:=aDo hy;have hat:=rF h1 ht hy hl x;have HW:=qAq (qBq hw1 hB);have H1:=qAq (qBq h1 (qBq k1 (qBq hb1 hss)));have hsrt:=(h.ok ht hy).srt
 have hA:y.A.any (fun a=>decide (a.1=x))=decide (¬ atP y.A x=-1):=by
  rcases pQ hsrt x with ⟨e1,e2⟩ | ⟨k,hk,e1,e2⟩
  ·rw[e1,List.any_eq_false.2 (fun a ha=>by simp[e2 a ha])];rfl
  rw[e1,List.any_eq_true.2 ⟨y.A[k],List.getElem_mem hk,by simp[e2]⟩]
  symm;rw[decide_eq_true_iff];omega
 unfold setE;rw[hA];rcases pQ hsrt x with ⟨e1,e2⟩ | ⟨k,hk,e1,e2⟩
 ·rw[e1] at hat ⊢;simp only[not_true_eq_false,decide_false,Bool.false_eq_true,if_false];clear hb1 k1 hw1 hB h1 hA e1 e2 h hy hss;go_enter Tryz.func42,Tryz.ntmps42;go_upto_region 1 with fail;rw[HW.out.1,HW.out.2];go_wp2_with (go_at_call 75;(with_reducible refine hat.mono ?_);rintro e w2 ⟨rfl,hw⟩;subst w2;clear hat);go_ret;exact⟨rfl,y,by rw[H1.out.2.2.2];exact H1.out.1,rfl,rfl,Tn.of_below H1.out.2.2.1⟩
 rw[e1] at hat ⊢;have hne:decide (¬ (k:Int)=-1)=true:=decide_eq_true (by omega);rw[hne];simp only[reduceIte];obtain⟨⟨gs,cs,go,co,gn,cn,pc,kc,pd,kd'⟩,_,o1,_,_,_,_,hR⟩:=h1.reads ht hy;obtain⟨mt',hmt⟩:∃ m,ts.length=m:=⟨_,rfl⟩;have hti:(t:Int)<(mt':Int):=(by omega);have htn:t<mt':=(by omega);obtain⟨T0,hT0⟩:∃ T0,ts[t]'ht=T0:=⟨_,rfl⟩;have HT0:=qAq (qBq hT0 (qBq ht (qBq hy hmt)));simp only[hT0] at hR hc0 ⊢;have r0:=hR w1 (Below.refl _ _);have hcol:=bU (x:=z) r0.rt;have f7:w1.cell? ⟨b,0,none⟩=some (.slice (some ⟨gs,0,none⟩) mt' cs):=(by rw[<- hmt];exact r0.b0);have f3:=r0.s0;have f4:=r0.s1;have f5:=r0.s2;have f6:=r0.s3;have f2:=r0.sl;have xl:=r0.bl;have HX:Hid (∀ w,Below w1.heap.size w1 w->DbN w b ts tt i O/\w.heap[B]?=some (.cells #[.int .i64 kd,.int .i64 n1,.string s] 32)/\Below W.heap.size W w):=qAq (fun w hb=>⟨h1.later hb,aE hb k1,aB hb1 hb⟩);have hnk:¬ (k:Int)<0:=(by omega);rcases gE T0.cols z with hix|⟨j,hj,hix⟩
 ·rw[hix] at hcol ⊢;simp only[show ¬ (0:Int)<=-1 by decide,if_false,show ¬ (3:Int)=0 by decide];clear hb1 k1 hw1 hB h1 hA e1 e2 hne hmt hT0 h hy hss o1 hR r0;go_enter Tryz.func42,Tryz.ntmps42;go_upto_region 1 with fail;rw[HW.out.1,HW.out.2]
  go_wp2_with (first
   | (go_at_call 75;(with_reducible refine hat.mono ?_);rintro e w2 ⟨rfl,hw⟩;subst w2;clear hat)
   | (go_at_call 78;(with_reducible refine hcol.mono ?_);rintro e w3 ⟨rfl,hb3⟩;have H3:=HX.out w3 hb3;clear hcol))
  go_ret;exact⟨rfl,y,by rw[H1.out.2.2.2];exact H3.1,rfl,rfl,Tn.of_below H3.2.2⟩
 rw[hix] at hcol ⊢
 have hcj:(T0.cols[(j:Int).toNat]?).getD ⟨e0,0,false,e0⟩=T0.cols[j]:=by
  rw[Int.toNat_natCast,List.getElem?_eq_getElem hj];rfl
 simp only[show (0:Int)<=(j:Int) from Int.natCast_nonneg j,if_true,hcj];have hnj:¬ (j:Int)<0:=(by omega);obtain⟨cc,hcc⟩:∃ cc,T0.cols[j]=cc:=⟨_,rfl⟩;obtain⟨gc,oc,hpc,_,_⟩:=RdC.col r0.rd hj;have hpc:pc=some ⟨gc,oc,none⟩:=hpc
 have HC:Hid (∀ w,Below w1.heap.size w1 w->w.cell? ⟨gc,oc+j*4,none⟩=some (.string cc.nm)/\w.cell? ⟨gc,oc+j*4+1,none⟩=some (.int .i64 cc.kd)/\w.cell? ⟨gc,oc+j*4+2,none⟩=some (.bool cc.mu)/\w.cell? ⟨gc,oc+j*4+3,none⟩=some (.string cc.tgt)):=qAq (fun w hb=>by
  obtain⟨gc',oc',e,_,h2⟩:=RdC.col (hR w hb).rd hj;have e:pc=some ⟨gc',oc',none⟩:=e;rw[hpc] at e;cases e;rw[hcc] at h2;exact h2)
 have HF:Hid (∀ w,Below w1.heap.size w1 w->w.cell? ⟨gs,t*4+1,none⟩=some (.slice pc T0.cols.length kc)/\w.cell? ⟨b,0,none⟩=some (.slice (some ⟨gs,0,none⟩) mt' cs)/\b<w.heap.size/\gs<w.heap.size):=qAq (fun w hb=>by
  have k:=hR w hb;exact⟨k.s1,by rw[<- hmt];exact k.b0,k.bl,k.sl⟩)
 obtain⟨nc,hnc⟩:∃ n,T0.cols.length=n:=⟨_,rfl⟩;have htyp:=(fun w=>iD kd n1 s cc w hs);rw[hcc];rw[hpc] at HF f4 hcol;rw[hnc] at HF f4 hcol;have hji:(j:Int)<(nc:Int):=(by omega);have HN:=qAq (qBq hnc (qBq hcc hix));clear hb1 k1 hw1 hB hA hne hcj hcc hpc;cases hin:inC cc.kd (kd,n1,s)
 ·simp only[Bool.false_eq_true,if_false,show ¬ (4:Int)=0 by decide];rw[hin] at htyp;clear hin e1 e2 h1 h hy hss o1 hR r0 hmt hT0;go_enter Tryz.func42,Tryz.ntmps42;go_upto_region 1 with fail;rw[HW.out.1,HW.out.2]
  go_upto_region 7 with (first
   | (go_at_call 75;(with_reducible refine hat.mono ?_);rintro e w2 ⟨rfl,hw⟩;subst w2;clear hat)
   | (go_at_call 78;(with_reducible refine hcol.mono ?_);rintro e w3 ⟨rfl,hb3⟩;have H3:=qAq hb3;clear hcol hb3))
  refine Par.wp_region_par 12 [.agg #[.int .i64 (kd),.int .i64 (n1),.string (s)],.pointer (some ⟨b,0,none⟩),.pointer (some ⟨b,0,none⟩),.pointer (some ⟨b,0,none⟩),.slice (some ⟨gs,0,none⟩) mt' cs,.int .i64 ((t:Int)),.pointer (some ⟨gs,t*4,none⟩),.pointer (some ⟨gs,t*4+1,none⟩),.slice (some ⟨gc,oc,none⟩) nc kc,.int .i64 ((j:Int)),.pointer (some ⟨gc,oc+j*4,none⟩),.agg #[.string cc.nm,.int .i64 cc.kd,.bool cc.mu,.string cc.tgt]] (fun w=>Below w1.heap.size w1 w) ?A1 ?hm1 ?hB1 ?hA1 ((aB H3.out (aF w3))) ?hop1 ?hT1
  case hm1=>kernel_rfl
  case hB1=>kernel_rfl
  case hA1 =>
   simp only[Par.putA,Par.dstAt,Act.put,qDq,qEq,qFq,qLq,qGq,qHq,qIq,qJq,qKq];rfl
  case hop1 =>
   simp only[qMq,List.take_zero,Par.GiveAll,and_true];and_intros<;>intro w' hR<;>have HR:=qAq hR
   have x0:=aA (HX.out w' hR).2.1 0;have x1:=aA (HX.out w' hR).2.1 1;have x2:=aA (HX.out w' hR).2.1 2;rotate_left 2;have zl:=(HF.out w' hR).2.2.1;rotate_left;have zl:=(HF.out w' hR).2.2.1;rotate_left;have x0:=(HF.out w' hR).2.1;rotate_left 3;have zl:=(HF.out w' hR).2.2.2;rotate_left;have x0:=(HF.out w' hR).1;rotate_left 3;have x0:=(HC.out w' hR).1;have x1:=(HC.out w' hR).2.1;have x2:=(HC.out w' hR).2.2.1;have x3:=(HC.out w' hR).2.2.2;rotate_left
   all_goals(clear hR;simp only[Par.Gives];go_simp;all_goals exact HR.out)
  intro w' hR;simp only[qNq,List.drop_zero];have HR:=qAq hR;have htyp:=htyp w';clear hR;go_wp2_with (go_at_call 71;(with_reducible refine htyp.mono ?_);rintro e w4 ⟨rfl,hb4⟩;have H4:=qAq (HX.out w4 (HR.out.trans (hb4.mono HR.out.size)));clear htyp hb4);go_ret;exact⟨rfl,y,by rw[H1.out.2.2.2];exact H4.out.1,rfl,rfl,Tn.of_below H4.out.2.2⟩
 simp only[if_true];have hx1:=h1.ok ht hy;have hkv:k<y.vs.length:=(by rw[hx1.n];exact hk);have hlk:=hx1.len _ (List.getElem_mem hk);rw[hT0] at hlk;have hvr:=hx1.vals k hk hkv;rw[hlk] at hvr;obtain⟨gv,cv,r5,_,_⟩:=hvr.slice hc0;rw[r5] at hvr;obtain⟨gr,cr,r1,_,_⟩:=hx1.rows.slice (by omega);have hrr:=hx1.rows;rw[r1] at hrr;have r4:=hrr.cell (dI hx1.n hk).2;rw[r5] at r4;have r2:=(HRow.lt hrr gr rfl).2;have o4:w1.cell? ⟨b,1,none⟩=some (.slice (some ⟨go,0,none⟩) mt' co):=(by rw[<- hmt];exact r0.b1);have o3:w1.cell? ⟨go,t,none⟩=some y.rv:=r0.o0;have o2:go<w1.heap.size:=r0.ol;have HV:Hid (∀ hk':k<y.vs.length,y.vs[k]=.slice (some ⟨gv,0,none⟩) (ts[t]'ht).cols.length cv):=qAq (fun _=>by rw[hT0];exact r5);obtain⟨na,hna⟩:∃ n,y.A.length=n:=⟨_,rfl⟩;have hki:(k:Int)<(na:Int):=by omega
 have HO:Hid (∀ w,Below w1.heap.size w1 w->w.cell? ⟨b,1,none⟩=some (.slice (some ⟨go,0,none⟩) mt' co)/\w.cell? ⟨go,t,none⟩=some (.slice (some ⟨gr,0,none⟩) na cr)/\w.cell? ⟨gr,k*2+1,none⟩=some (.slice (some ⟨gv,0,none⟩) nc cv)/\b<w.heap.size/\go<w.heap.size/\gr<w.heap.size/\HRow w 0 32 3 (.slice (some ⟨gv,0,none⟩) nc cv) nc (cells3 y.A[k].2)):=qAq (fun w hb=>by
  have k0:=World.cell?_of_block (w:=w1) (a:=⟨b,1,none⟩) (hb.block b xl);have k2:=World.cell?_of_block (w:=w1) (a:=⟨go,t,none⟩) (hb.block go o2);have k3:=World.cell?_of_block (w:=w1) (a:=⟨gr,k*2+1,none⟩) (hb.block gr r2);rw[r1,hna] at o3;rw[HN.out.1] at r4 hvr;exact⟨k0.trans o4,k2.trans o3,k3.trans r4,Nat.lt_of_lt_of_le xl hb.size,Nat.lt_of_lt_of_le o2 hb.size,Nat.lt_of_lt_of_le r2 hb.size,hvr.later hb⟩)
 have hxl:(cells3 y.A[k].2).length=nc*3:=(by rw[dR,hlk,HN.out.1]);have H0:Hid ((cells3 y.A[k].2).length=nc*3):=qAq hxl;have HE:=qAq e2;rw[hin] at htyp;clear hin e1 e2 r1 r2 r4 r5 hvr hrr hlk hkv hx1 o1 o2 o3 o4 hxl hna h1 h hss hR r0 hmt hT0;go_enter Tryz.func42,Tryz.ntmps42;go_upto_region 1 with fail;rw[HW.out.1,HW.out.2]
 go_upto_region 7 with (first
  | (go_at_call 75;(with_reducible refine hat.mono ?_);rintro e w2 ⟨rfl,hw⟩;subst w2;clear hat)
  | (go_at_call 78;(with_reducible refine hcol.mono ?_);rintro e w3 ⟨rfl,hb3⟩;have H3:=qAq hb3;clear hcol hb3))
 refine Par.wp_region_par 12 [.agg #[.int .i64 (kd),.int .i64 (n1),.string (s)],.pointer (some ⟨b,0,none⟩),.pointer (some ⟨b,0,none⟩),.pointer (some ⟨b,0,none⟩),.slice (some ⟨gs,0,none⟩) mt' cs,.int .i64 ((t:Int)),.pointer (some ⟨gs,t*4,none⟩),.pointer (some ⟨gs,t*4+1,none⟩),.slice (some ⟨gc,oc,none⟩) nc kc,.int .i64 ((j:Int)),.pointer (some ⟨gc,oc+j*4,none⟩),.agg #[.string cc.nm,.int .i64 cc.kd,.bool cc.mu,.string cc.tgt]] (fun w=>Below w1.heap.size w1 w) ?A2 ?hm2 ?hB2 ?hA2 ((aB H3.out (aF w3))) ?hop2 ?hT2
 case hm2=>kernel_rfl
 case hB2=>kernel_rfl
 case hA2 =>
  simp only[Par.putA,Par.dstAt,Act.put,qDq,qEq,qFq,qLq,qGq,qHq,qIq,qJq,qKq];rfl
 case hop2 =>
  simp only[qMq,List.take_zero,Par.GiveAll,and_true];and_intros<;>intro w' hR<;>have HR:=qAq hR
  have x0:=aA (HX.out w' hR).2.1 0;have x1:=aA (HX.out w' hR).2.1 1;have x2:=aA (HX.out w' hR).2.1 2;rotate_left 2;have zl:=(HF.out w' hR).2.2.1;rotate_left;have zl:=(HF.out w' hR).2.2.1;rotate_left;have x0:=(HF.out w' hR).2.1;rotate_left 3;have zl:=(HF.out w' hR).2.2.2;rotate_left;have x0:=(HF.out w' hR).1;rotate_left 3;have x0:=(HC.out w' hR).1;have x1:=(HC.out w' hR).2.1;have x2:=(HC.out w' hR).2.2.1;have x3:=(HC.out w' hR).2.2.2;rotate_left
  all_goals(clear hR;simp only[Par.Gives];go_simp;all_goals exact HR.out)
 intro w' hR;simp only[qNq,List.drop_zero];have HR:=qAq hR;have htyp:=htyp w';clear hR;go_upto_region 9 with (go_at_call 71;(with_reducible refine htyp.mono ?_);rintro e w4 ⟨rfl,hb4⟩;have H4:=qAq (HR.out.trans (hb4.mono HR.out.size));clear htyp hb4);refine Par.wp_region_par 14 [.pointer (some ⟨b,0,none⟩),.pointer (some ⟨b,0,none⟩),.pointer (some ⟨b,1,none⟩),.slice (some ⟨go,0,none⟩) mt' co,.int .i64 ((t:Int)),.pointer (some ⟨go,t,none⟩),.slice (some ⟨gr,0,none⟩) na cr,.int .i64 ((k:Int)),.pointer (some ⟨gr,k*2,none⟩),.pointer (some ⟨gr,k*2+1,none⟩),.slice (some ⟨gv,0,none⟩) nc cv,.int .i64 ((j:Int)),.agg #[.int .i64 (kd),.int .i64 (n1),.string (s)],.pointer (some ⟨gv,j*3,none⟩)] (fun w=>Below w1.heap.size w1 w) ?A3 ?hm3 ?hB3 ?hA3 ((aB H4.out (aF w4))) ?hop3 ?hT3
 case hm3=>kernel_rfl
 case hB3=>kernel_rfl
 case hA3 =>
  simp only[Par.putA,Par.dstAt,Act.put,qDq,qEq,qFq,qLq,qGq,qHq,qIq,qJq,qKq];rfl
 case hop3 =>
  simp only[qMq,List.take_zero,Par.GiveAll,and_true];and_intros<;>intro w' hR<;>have HR:=qAq hR
  rotate_left;have zl:=(HF.out w' hR).2.2.1;rotate_left;have zl:=(HF.out w' hR).2.2.1;rotate_left;have x0:=(HO.out w' hR).1;rotate_left 3;have x0:=(HO.out w' hR).2.1;rotate_left 3;have zl:=(HO.out w' hR).2.2.2.2.2.1;rotate_left;have x0:=(HO.out w' hR).2.2.1;rotate_left 2;have x0:=aA (HX.out w' hR).2.1 0;have x1:=aA (HX.out w' hR).2.1 1;have x2:=aA (HX.out w' hR).2.1 2;rotate_left 2
  all_goals(clear hR;simp only[Par.Gives];go_simp;all_goals exact HR.out)
 intro w' hR;simp only[qNq,List.drop_zero];have HR2:=qAq hR;obtain⟨_,_,_,_,_,_,q7⟩:=HO.out _ hR;have y0:=q7.cell (j:=j*3) (List.getElem?_eq_getElem (by rw[H0.out];omega));have y1:=q7.cell (j:=j*3+1) (List.getElem?_eq_getElem (by rw[H0.out];omega));have y2:=q7.cell (j:=j*3+2) (List.getElem?_eq_getElem (by rw[H0.out];omega));have yf:=(fun m=>q7.frozenAt m);have yl:=(HRow.lt q7 gv rfl).2;clear hR q7;go_wp2_with fail;go_ret;obtain⟨d1,_,d3⟩:=HX.out _ HR2.out;obtain⟨z1,z2⟩:=d1.setval HT0.out.2.1 HT0.out.2.2.1 hk (j:=j) (show j<(ts[t]'HT0.out.2.1).cols.length by rw[HT0.out.1,HN.out.1];omega) HV.out kd n1 s;rw[HE.out] at z1;refine⟨rfl,_,z1,rfl,?_,(Tn.of_below (S:=fun _=>False) d3).trans z2 (fun _ _ h=>h.elim) (fun _ _ h=>h)⟩;rw[Int.toNat_natCast]
end
section
variable {W w:World} {b:Nat} {ts:List T} {tt:List RT} {i:NI} {O:Nat->Nat} {t:Nat} {y:RT}
theorem xN {fs:List (Value×Value)} {ts:List T} (h:fs.length=ts.length):(cellsF fs ts).length=ts.length*4:=by
 unfold cellsF
 induction fs generalizing ts with
 | nil=>cases ts with
  | nil=>rfl
  | cons t ts=>cases h
 | cons f fs ih =>
  cases ts with
  | nil=>cases h
  | cons t ts =>
   simp only[List.zip_cons_cons,List.flatMap_cons,List.length_append,List.length_cons,List.length_nil];rw[ih (by simpa using h)];omega
theorem DbN.rdTs (h:DbN W b ts tt i O):RdTs W i.sv ts:=by
 obtain⟨p,cap,e,h1,h2⟩:=h.form.isslice;refine⟨p,cap,cellsF i.fs ts,e,h1,h2,fun h0=>?_,xN h.fn,fun j hj=>?_⟩
 ·obtain⟨g,c,e2,_,_⟩:=h.form.slice h0;rw[e] at e2;cases e2;have f:=h.form;rw[e] at f;exact⟨g,0,rfl,(HRow.lt f g rfl).2,fun j u hj=>by rw[Nat.zero_add];exact f.cell hj⟩
 obtain⟨c0,c1,c2,c3⟩:=pK h.fn hj;exact⟨_,_,c0,c1,c2,c3,h.rd j hj (by rw[h.fn];exact hj)⟩
end
theorem aFr (u:T3) (k n:Int) (s:ByteArray):eqV u.1 u.2.1 u.2.2 k n s=decide (u=(k,n,s)):=by
 obtain⟨a,b,c⟩:=u;unfold eqV
 simp
def byRow (A:List R1) (k:Nat) (v:T3):Option Int:=(A.find? fun a=>decide (a.2.getD k z3=v)).map (·.1)
theorem nL {A:List R1} {k:Nat} {v:T3} (h:∀ j (hj:j<A.length),A[j].2.getD k z3≠v):byRow A k v=none:=by
 unfold byRow
 rw[List.find?_eq_none.2 (fun a ha=>by
  obtain⟨j,hj,rfl⟩:=List.getElem_of_mem ha;simpa using h j hj)]
 rfl
theorem nM {A:List R1} {k:Nat} {v:T3} {j:Nat} (hj:j<A.length) (h1:A[j].2.getD k z3=v) (h:∀ m (hm:m<A.length),m<j->A[m].2.getD k z3≠v):byRow A k v=some A[j].1:=by
 unfold byRow
 have e:A.find? (fun a=>decide (a.2.getD k z3=v))=some A[j]:=by
  rw[List.find?_eq_some_iff_getElem];exact⟨by simpa using h1,j,hj,rfl,fun m hm=>by simpa using h m (by omega) hm⟩
 rw[e];rfl
theorem jL {key:ByteArray} (h:key≠e0):key.toList.isEmpty=false:=by
 cases hh:key.toList.isEmpty with
 | false=>rfl
 | true =>
  rw[List.isEmpty_iff,ByteArray.toList_eq] at hh;exact absurd (dQ (hh.trans rfl)) h
def byKeyP (ts:List T) (As:List (List R1)) (x:ByteArray) (v:T3):Option Int :=
 match ts[(ixT ts x).toNat]?,As[(ixT ts x).toNat]? with
 | some t,some A=>if ixT ts x<0 then none else if t.key=e0 then none else if v.1=0 then none else byRow A (ixC t.cols t.key).toNat v
 | _,_=>none
section
variable {W:World} {b:Nat} {ts:List T} {tt:List RT} {i:NI} {O:Nat->Nat}
theorem kD (h:DbN W b ts tt i O) (x:ByteArray) (kd n1:Int) (s:ByteArray) (hno:ixT ts x<0∨∃ t,∃ ht:t<ts.length,ixT ts x=(t:Int)/\(ts[t].key=e0∨kd=0)) :
  Calls Tryz.prog 87 #[.pointer (some ⟨b,0,none⟩),.string x,.agg #[.int .i64 (kd),.int .i64 (n1),.string (s)]] W fun e w'=>e=.returned (.tuple #[.int .i64 0,.bool false])/\Below W.heap.size W w':=by
 have hb1:=aD W (.cells #[.int .i64 kd,.int .i64 n1,.string s] 32);have k1:=heap_alloc_new W (.cells #[.int .i64 kd,.int .i64 n1,.string s] 32);obtain⟨w1,hw1⟩:∃ w1,W.alloc (.cells #[.int .i64 kd,.int .i64 n1,.string s] 32)=w1:=⟨_,rfl⟩;obtain⟨B,hB⟩:∃ B,W.heap.size=B:=⟨_,rfl⟩;rw[hw1] at hb1 k1;rw[hB] at k1;have h1:=h.later hb1;have hfind:=cJ (x:=x) h1.rdTs;have x0:w1.cell? ⟨b,0,none⟩=some i.sv:=aA h1.box 0;have xl:=aC h1.box;have kc:=aA k1 0;have kl:=aC k1;have HW:=qAq (qBq hw1 (qBq hB hb1));rcases hno with hno|⟨t,ht,e1,hk⟩
 ·obtain⟨j,hj⟩:∃ j,ixT ts x=j:=⟨_,rfl⟩;rw[hj] at hfind hno;clear h h1 hb1 k1 hw1 hB hj;go_enter Tryz.func87,Tryz.ntmps87;go_upto_region 1 with fail;rw[HW.out.1,HW.out.2.1];go_wp2_with (go_at_call 36;(with_reducible refine hfind.mono ?_);rintro e w2 ⟨rfl,hw⟩;subst w2;clear hfind);go_ret2;exact⟨rfl,HW.out.2.1▸HW.out.2.2⟩
 obtain⟨y,hy,_⟩:=h1.at ht;obtain⟨⟨gs,cs,go,co,gn,cn,pc,kc',pd,kd'⟩,e2,_,_,_,_,_,hR⟩:=h1.reads ht hy;have hR:=hR w1 (Below.refl _ _);obtain⟨mt',hmt⟩:∃ m,ts.length=m:=⟨_,rfl⟩;have hti:(t:Int)<(mt':Int):=(by omega);have htn:t<mt':=(by omega);have hnt:¬ (t:Int)<0:=(by omega);have e2:i.sv=.slice (some ⟨gs,0,none⟩) ts.length cs:=e2;rw[e2,hmt] at x0;rw[e1] at hfind;rw[e2,hmt] at hfind;have s2:w1.cell? ⟨gs,t*4+2,none⟩=some (.string (ts[t]'ht).key):=hR.s2;have sl:gs<w1.heap.size:=hR.sl;obtain⟨key,hkey⟩:∃ k,(ts[t]'ht).key=k:=⟨_,rfl⟩;rw[hkey] at s2 hk;by_cases he:key=e0
 ·subst he;clear h h1 hb1 k1 hw1 hB e1 e2 hy hR hmt hkey hk;go_enter Tryz.func87,Tryz.ntmps87;go_upto_region 1 with fail;rw[HW.out.1,HW.out.2.1];go_wp2_with (go_at_call 36;(with_reducible refine hfind.mono ?_);rintro e w2 ⟨rfl,hw⟩;subst w2;clear hfind);go_ret2;exact⟨rfl,HW.out.2.1▸HW.out.2.2⟩
 have hkd:kd=0:=by
  rcases hk with h1|h1
  ·exact absurd h1 he
  exact h1
 subst hkd;have hke:=jL he;clear h h1 hb1 k1 hw1 hB e1 e2 hy hR hmt hkey hk;go_enter Tryz.func87,Tryz.ntmps87;go_upto_region 1 with fail;rw[HW.out.1,HW.out.2.1];go_wp2_with (go_at_call 36;(with_reducible refine hfind.mono ?_);rintro e w2 ⟨rfl,hw⟩;subst w2;clear hfind);go_ret2;exact⟨rfl,HW.out.2.1▸HW.out.2.2⟩
theorem xO (h:DbN W b ts tt i O) {t:Nat} (ht:t<ts.length) {y:RT} (hy:tt[t]?=some y) {x:ByteArray} (e1:ixT ts x=(t:Int)) (hk0:ts[t].key≠e0) {c:Nat} (hc:c<ts[t].cols.length) (hcx:ixC ts[t].cols ts[t].key=(c:Int)) (kd n1:Int) (s:ByteArray) (hkd:kd≠0) (hAl:y.A.length<=100000) (hc1:ts[t].cols.length<=1000) :
  Calls Tryz.prog 87 #[.pointer (some ⟨b,0,none⟩),.string x,.agg #[.int .i64 (kd),.int .i64 (n1),.string (s)]] W fun e w'=>e=.returned (.tuple #[.int .i64 ((byRow y.A c (kd,n1,s)).getD 0),.bool (byRow y.A c (kd,n1,s)).isSome])/\Below W.heap.size W w':=by
 have hb1:=aD W (.cells #[.int .i64 kd,.int .i64 n1,.string s] 32);have k1:=heap_alloc_new W (.cells #[.int .i64 kd,.int .i64 n1,.string s] 32);obtain⟨w1,hw1⟩:∃ w1,W.alloc (.cells #[.int .i64 kd,.int .i64 n1,.string s] 32)=w1:=⟨_,rfl⟩;obtain⟨B,hB⟩:∃ B,W.heap.size=B:=⟨_,rfl⟩;rw[hw1] at hb1 k1;rw[hB] at k1;have h1:=h.later hb1;have hfind:=cJ (x:=x) h1.rdTs;have kc:=aA k1 0;have kl:=aC k1;have hx1:=h1.ok ht hy;obtain⟨⟨gs,cs,go,co,gn,cn,pc,kc',pd,kd'⟩,e2,_,_,_,_,_,hR⟩:=h1.reads ht hy;obtain⟨mt',hmt⟩:∃ m,ts.length=m:=⟨_,rfl⟩;have hti:(t:Int)<(mt':Int):=(by omega);have htn:t<mt':=(by omega);have hnt:¬ (t:Int)<0:=(by omega);have e2:i.sv=.slice (some ⟨gs,0,none⟩) ts.length cs:=e2;rw[e1,e2,hmt] at hfind;obtain⟨T0,hT0⟩:∃ T0,ts[t]'ht=T0:=⟨_,rfl⟩;simp only[hT0] at hR hk0 hc hcx hc1;have hke:=jL hk0;have hlen:=hx1.len;rw[hT0] at hlen;obtain⟨nc,hnc⟩:∃ n,T0.cols.length=n:=⟨_,rfl⟩;obtain⟨nd,hnd⟩:∃ n,T0.deps.length=n:=⟨_,rfl⟩;obtain⟨na,hna⟩:∃ n,y.A.length=n:=⟨_,rfl⟩;have hna2:(na:Int)<=100000:=(by omega);have hci:(c:Int)<(nc:Int):=(by omega);have hcn:c<nc:=(by omega);obtain⟨nm,hnm⟩:∃ k,T0.nm=k:=⟨_,rfl⟩;obtain⟨key,hkey⟩:∃ k,T0.key=k:=⟨_,rfl⟩;obtain⟨pr,cr,hrv,_,_⟩:=hx1.rows.isslice;rw[hna] at hrv
 have HF:Hid (∀ w,Below w1.heap.size w1 w->w.cell? ⟨b,0,none⟩=some (.slice (some ⟨gs,0,none⟩) mt' cs)/\w.cell? ⟨b,1,none⟩=some (.slice (some ⟨go,0,none⟩) mt' co)/\w.cell? ⟨gs,t*4,none⟩=some (.string nm)/\w.cell? ⟨gs,t*4+1,none⟩=some (.slice pc nc kc')/\w.cell? ⟨gs,t*4+2,none⟩=some (.string key)/\w.cell? ⟨gs,t*4+3,none⟩=some (.slice pd nd kd')/\w.cell? ⟨go,t,none⟩=some (.slice pr na cr)/\(b<w.heap.size/\gs<w.heap.size/\go<w.heap.size)/\w.heap[B]?=some (.cells #[.int .i64 kd,.int .i64 n1,.string s] 32)):=qAq (fun w hb=>by
  have k:=hR w hb;rw[<- hmt,<- hnm,<- hkey,<- hnc,<- hnd,<- hrv];exact⟨k.b0,k.b1,k.s0,k.s1,k.s2,k.s3,k.o0,⟨k.bl,k.sl,k.ol⟩,aE hb k1⟩)
 have HCOL:Hid (∀ w,Below w1.heap.size w1 w->Calls Tryz.prog 78 #[.agg #[.string nm,.slice pc nc kc',.string key,.slice pd nd kd'],.string key] w fun e w'=>e=.returned (.int .i64 (c:Int))/\Below w.heap.size w w'):=qAq (fun w hb=>by
  have:=bU (x:=key) (hR w hb).rt
  rw[hnm,hnc,hkey,hnd,<- hkey,hcx,hkey] at this;exact this)
 have HROW:Hid (∀ k (hk:k<y.A.length),∃ gr gv cv,pr=some ⟨gr,0,none⟩/\∀ w,Below w1.heap.size w1 w->w.cell? ⟨gr,k*2,none⟩=some (.int .i64 y.A[k].1)/\w.cell? ⟨gr,k*2+1,none⟩=some (.slice (some ⟨gv,0,none⟩) nc cv)/\HRow w 0 32 3 (.slice (some ⟨gv,0,none⟩) nc cv) nc (cells3 y.A[k].2)/\gr<w.heap.size):=qAq (fun k hk=>by
  have hkv:k<y.vs.length:=(by rw[hx1.n];exact hk);have hvr:=hx1.vals k hk hkv;rw[hlen _ (List.getElem_mem hk),hnc] at hvr;obtain⟨gv,cv,r5,_,_⟩:=hvr.slice (by omega);rw[r5] at hvr;obtain⟨gr,cr',r1,_,_⟩:=hx1.rows.slice (by omega);have hrr:=hx1.rows;rw[r1] at hrr;rw[hrv,hna] at r1;cases r1;obtain⟨q1,q2⟩:=dI hx1.n hk;rw[r5] at q2;refine⟨gr,gv,cv,rfl,fun w hb=>?_⟩;have hrw:=hrr.later hb;exact⟨hrw.cell q1,hrw.cell q2,hvr.later hb,(HRow.lt hrw gr rfl).2⟩)
 have HW:=qAq (qBq hw1 (qBq hB hb1));have HN:=qAq (qBq hna (qBq hlen (qBq hnc hkd)));rw[hkey] at hke;have hkd':(kd==0)=false:=(by simpa using hkd);obtain⟨x0,x1,_,_,x2,_,_,⟨xl,xs,_⟩,_⟩:=HF.out w1 (Below.refl _ _);clear h h1 hb1 k1 hw1 hB e1 e2 hy hR hmt hkey hnm hnc hnd hna hx1 hrv hT0 hk0 hlen hcx hAl hc1 hc ht;go_enter Tryz.func87,Tryz.ntmps87;go_upto_region 1 with fail;rw[HW.out.1,HW.out.2.1];go_upto_region 4 with (go_at_call 36;(with_reducible refine hfind.mono ?_);rintro e w2 ⟨rfl,hw⟩;subst w2;clear hfind);clear x0 x1 x2 xl xs kc kl;refine Par.wp_region_par 15 [.pointer (some ⟨b,0,none⟩),.pointer (some ⟨b,0,none⟩),.pointer (some ⟨b,0,none⟩),.slice (some ⟨gs,0,none⟩) mt' cs,.int .i64 ((t:Int)),.pointer (some ⟨gs,t*4,none⟩),.agg #[.string nm,.slice pc nc kc',.string key,.slice pd nd kd'],.pointer (some ⟨b,0,none⟩),.pointer (some ⟨b,0,none⟩),.pointer (some ⟨b,0,none⟩),.slice (some ⟨gs,0,none⟩) mt' cs,.int .i64 ((t:Int)),.pointer (some ⟨gs,t*4,none⟩),.pointer (some ⟨gs,t*4+2,none⟩),.string key] (fun w=>Below w1.heap.size w1 w) ?A1 ?hm1 ?hB1 ?hA1 ((aF w1)) ?hop1 ?hT1
 case hm1=>kernel_rfl
 case hB1=>kernel_rfl
 case hA1 =>
  simp only[Par.putA,Par.dstAt,Act.put,qDq,qEq,qFq,qLq,qGq,qHq,qIq,qJq,qKq];rfl
 case hop1 =>
  simp only[qMq,List.take_zero,Par.GiveAll,and_true];and_intros<;>intro w' hR<;>have HR:=qAq hR
  rotate_left;have zl:=(HF.out w' hR).2.2.2.2.2.2.2.1.1;rotate_left;have zl:=(HF.out w' hR).2.2.2.2.2.2.2.1.1;rotate_left;have x0:=(HF.out w' hR).1;rotate_left 3;have x0:=(HF.out w' hR).2.2.1;have x1:=(HF.out w' hR).2.2.2.1;have x2:=(HF.out w' hR).2.2.2.2.1;have x3:=(HF.out w' hR).2.2.2.2.2.1;rotate_left 2;have zl:=(HF.out w' hR).2.2.2.2.2.2.2.1.1;rotate_left;have zl:=(HF.out w' hR).2.2.2.2.2.2.2.1.1;rotate_left;have x0:=(HF.out w' hR).1;rotate_left 3;have zl:=(HF.out w' hR).2.2.2.2.2.2.2.1.2.1;rotate_left;have x0:=(HF.out w' hR).2.2.2.2.1;rotate_left
  all_goals(clear hR;simp only[Par.Gives];go_simp;all_goals exact HR.out)
 intro w' hR;simp only[qNq,List.drop_zero];have HR:=qAq hR;have hcol:=HCOL.out w' hR;clear hR;go_upto_region 5 with (go_at_call 78;(with_reducible refine hcol.mono ?_);rintro e w3 ⟨rfl,hb3⟩;have H3:=qAq (HR.out.trans (hb3.mono HR.out.size));clear hcol hb3);go_wp2_with fail;go_loopg [10] (na+1) (fun gh jv w=>∃ (j:Nat),jv=.int .i64 (j:Int)/\j<=na/\na+1<=j+gh/\(∀ m (hm:m<y.A.length),m<j->y.A[m].2.getD c z3≠(kd,n1,s))/\Below w1.heap.size w1 w)
 case atStart=>exact⟨0,rfl,Nat.zero_le _,by omega,fun m _ h=>absurd h (Nat.not_lt_zero m),H3.out⟩
 obtain⟨j,rfl,hj,hg,hx,hB⟩:=hrel;obtain⟨_,x1,_,_,_,_,x2,⟨xl,_,xo⟩,_⟩:=HF.out wr hB;by_cases hlt:j<na
 ·have hjA:j<y.A.length:=(by rw[HN.out.1];exact hlt);have hji:(j:Int)<(na:Int):=(by omega);obtain⟨gr,gv,cv,rfl,hrow⟩:=HROW.out j hjA;have hl:=HN.out.2.1 _ (List.getElem_mem hjA);rw[HN.out.2.2.1] at hl;have hca:c<y.A[j].2.length:=(by rw[hl];exact hcn);obtain⟨u,hu⟩:∃ u,y.A[j].2[c]=u:=⟨_,rfl⟩;obtain⟨q1,q2,q3⟩:=dG y.A[j].2 c hca;rw[hu] at q1 q2 q3;obtain⟨aj,haj⟩:∃ a,y.A[j].1=a:=⟨_,rfl⟩
  have HC:Hid (∀ w,Below wr.heap.size wr w->Below w1.heap.size w1 w/\(w.cell? ⟨gr,j*2+1,none⟩=some (.slice (some ⟨gv,0,none⟩) nc cv)/\gr<w.heap.size)/\(w.cell? ⟨gv,c*3,none⟩=some (.int .i64 u.1)/\w.cell? ⟨gv,c*3+1,none⟩=some (.int .i64 u.2.1)/\w.cell? ⟨gv,c*3+2,none⟩=some (.string u.2.2))/\w.cell? ⟨gr,j*2,none⟩=some (.int .i64 aj)):=qAq (fun w hb=>by
   have hw:=aB hB hb;obtain⟨r1,r2,r3,r4⟩:=hrow w hw;rw[haj] at r1;exact⟨hw,⟨r2,r4⟩,⟨r3.cell q1,r3.cell q2,r3.cell q3⟩,r1⟩)
  have heq:=(fun w=>kX u.1 u.2.1 u.2.2 kd n1 s w);have hgu:y.A[j].2.getD c z3=u:=(by rw[List.getD_eq_getElem?_getD,List.getElem?_eq_getElem hca,hu];rfl);have HX:=qAq (qBq hx (qBq hB (qBq hgu haj)));clear hx hB hrow hl hca hu q1 q2 q3 haj hgu;go_upto_region 8 with fail;clear x1 x2 xl xo;refine Par.wp_region_par 15 [.pointer (some ⟨b,0,none⟩),.pointer (some ⟨b,0,none⟩),.pointer (some ⟨b,1,none⟩),.slice (some ⟨go,0,none⟩) mt' co,.int .i64 ((t:Int)),.pointer (some ⟨go,t,none⟩),.slice (some ⟨gr,0,none⟩) na cr,.int .i64 ((j:Int)),.pointer (some ⟨gr,j*2,none⟩),.pointer (some ⟨gr,j*2+1,none⟩),.slice (some ⟨gv,0,none⟩) nc cv,.int .i64 ((c:Int)),.pointer (some ⟨gv,c*3,none⟩),.agg #[.int .i64 (u.1),.int .i64 (u.2.1),.string (u.2.2)],.agg #[.int .i64 (kd),.int .i64 (n1),.string (s)]] (fun w=>Below wr.heap.size wr w) ?A2 ?hm2 ?hB2 ?hA2 ((aF wr)) ?hop2 ?hT2
  case hm2=>kernel_rfl
  case hB2=>kernel_rfl
  case hA2 =>
   simp only[Par.putA,Par.dstAt,Act.put,qDq,qEq,qFq,qLq,qGq,qHq,qIq,qJq,qKq];rfl
  case hop2 =>
   simp only[qMq,List.take_zero,Par.GiveAll,and_true];and_intros<;>intro w' hR<;>have HR:=qAq hR
   rotate_left;have zl:=(HF.out w' (HC.out w' hR).1).2.2.2.2.2.2.2.1.1;rotate_left;have zl:=(HF.out w' (HC.out w' hR).1).2.2.2.2.2.2.2.1.1;rotate_left;have x0:=(HF.out w' (HC.out w' hR).1).2.1;rotate_left 3;have x0:=(HF.out w' (HC.out w' hR).1).2.2.2.2.2.2.1;rotate_left 3;have zl:=(HC.out w' hR).2.1.2;rotate_left;have x0:=(HC.out w' hR).2.1.1;rotate_left 3;have x0:=(HC.out w' hR).2.2.1.1;have x1:=(HC.out w' hR).2.2.1.2.1;have x2:=(HC.out w' hR).2.2.1.2.2;rotate_left;have x0:=aA (HF.out w' (HC.out w' hR).1).2.2.2.2.2.2.2.2 0;have x1:=aA (HF.out w' (HC.out w' hR).1).2.2.2.2.2.2.2.2 1;have x2:=aA (HF.out w' (HC.out w' hR).1).2.2.2.2.2.2.2.2 2;rotate_left
   all_goals(clear hR;simp only[Par.Gives];go_simp;all_goals exact HR.out)
  intro w' hR;simp only[qNq,List.drop_zero];have HR2:=qAq hR;have heq:=heq w';clear hR;have hdec:eqV u.1 u.2.1 u.2.2 kd n1 s=decide (u=(kd,n1,s)):=aFr u kd n1 s;rw[hdec] at heq;by_cases he:u=(kd,n1,s)
  ·rw[decide_eq_true he] at heq;have HE:=qAq he;clear hdec he;go_upto_region 9 with (go_at_call 86;(with_reducible refine heq.mono ?_);rintro e w4 ⟨rfl,hb4⟩;have H4:=qAq (HR2.out.trans (hb4.mono HR2.out.size));obtain⟨_,x1,_,_,_,_,x2,⟨xl,_,xo⟩,_⟩:=HF.out w4 (HC.out w4 H4.out).1;obtain⟨_,⟨_,x3⟩,_,x4⟩:=HC.out w4 H4.out;clear heq hb4);go_wp2_with fail;go_ret2;have hs:=nM (k:=c) (v:=(kd,n1,s)) hjA (HX.out.2.2.1.trans HE.out) HX.out.1;rw[hs];exact⟨by rw[HX.out.2.2.2];rfl,aB HW.out.2.2 (HC.out w4 H4.out).1⟩
  rw[decide_eq_false he] at heq;have HE:=qAq he;clear hdec he;go_wp2_with (go_at_call 86;(with_reducible refine heq.mono ?_);rintro e w4 ⟨rfl,hb4⟩;have H4:=qAq (HR2.out.trans (hb4.mono HR2.out.size));clear heq hb4);go_roundg (na-j)
  case measure=>omega
  case rel=>exact⟨j+1,rfl,by omega,by omega,fun m hm hmj=>(by
   by_cases em:m=j
   ·subst em;rw[HX.out.2.2.1];exact HE.out
   exact HX.out.1 m hm (by omega)),(HC.out w4 H4.out).1⟩
 obtain rfl:j=na:=(by omega);have HX:=qAq (qBq hx hB);clear hx hB;go_wp2_with fail;go_ret2;have hs:=nL (A:=y.A) (k:=c) (v:=(kd,n1,s)) (fun m hm=>HX.out.1 m hm (by rw[<- HN.out.1];exact hm));rw[hs];exact⟨rfl,aB HW.out.2.2 HX.out.2⟩
end
