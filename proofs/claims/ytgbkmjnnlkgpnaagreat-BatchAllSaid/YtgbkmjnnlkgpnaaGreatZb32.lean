import Derived.Test.YtgbkmjnnlkgpnaaGreatZb31
set_option maxHeartbeats 8000000
set_option maxRecDepth 100000
namespace Go.Proofs.YtgbkmjnnlkgpnaaGreat
open Go Go.RowKit Go.Proofs Co Co.S
section
variable {A:List R1}
theorem atP_cases (hs:A.Pairwise (fun a b=>a.1<b.1)) (x:Int):(atP A x=-1/\∀ a∈A,a.1≠x)∨∃ k,∃ hk:k<A.length,atP A x=(k:Int)/\A[k].1=x:=by
 by_cases h:∃ k,∃ hk:k<A.length,A[k].1=x
 ·obtain⟨k,hk,h1⟩:=h;refine .inr ⟨k,hk,atP_some hk h1 (fun j hj hjk e=>?_),h1⟩
  have:=srt_at hs hj hk (e.trans h1.symm)
  omega
 ·refine .inl ⟨atP_none (fun j hj e=>h ⟨j,hj,e⟩),fun a ha e=>?_⟩;obtain⟨j,hj,rfl⟩:=List.getElem_of_mem ha;exact h ⟨j,hj,e⟩
theorem setA_at {x:Int} {j:Nat} {v:T3} {k:Nat} (hk:k<A.length) (hk':k<(setA A x j v).length):(setA A x j v)[k]=if A[k].1=x then (A[k].1,A[k].2.set j v) else A[k]:=by
 simp[setA]
theorem cellsR_ids {A A':List R1} {vs:List Value} (h:A.map (·.1)=A'.map (·.1)):cellsR A vs=cellsR A' vs:=by
 unfold cellsR
 induction A generalizing A' vs with
 | nil =>
  cases A' with
  | nil=>rfl
  | cons a A'=>cases h
 | cons a A ih =>
  cases A' with
  | nil=>cases h
  | cons a' A' =>
   simp only[List.map_cons,List.cons.injEq] at h;cases vs with
   | nil=>rfl
   | cons v vs =>
    simp only[List.zip_cons_cons,List.flatMap_cons];rw[ih h.2,h.1]
end
section
variable {W w:World} {b:Nat} {ts:List T} {tt:List RT} {i:NI} {O:Nat->Nat} {t:Nat} {y:RT}
theorem map_rv_same {x:RT} (hy:tt[t]?=some y) (hx:x.rv=y.rv):(tt.set t x).map (·.rv)=tt.map (·.rv):=by
 refine List.ext_getElem? (fun k=>?_);rw[List.getElem?_map,List.getElem?_map,List.getElem?_set];by_cases e:t=k
 ·subst e;rw[if_pos rfl,if_pos (List.getElem?_eq_some_iff.1 hy).1,hy];simp only[Option.map_some];rw[hx]
 ·rw[if_neg e]
theorem DbN.setval (h:DbN W b ts tt i O) (ht:t<ts.length) (hy:tt[t]?=some y) {k:Nat} (hk:k<y.A.length) {j:Nat} (hj:j<ts[t].cols.length) {gv cv:Nat} (hv:∀ hk':k<y.vs.length,y.vs[k]=.slice (some ⟨gv,0,none⟩) ts[t].cols.length cv) (kd n1:Int) (s:ByteArray) :
  DbN (((W.setCell ⟨gv,j*3,none⟩ (.int .i64 kd)).setCell ⟨gv,j*3+1,none⟩ (.int .i64 n1)).setCell ⟨gv,j*3+2,none⟩ (.string s)) b ts (tt.set t { y with A:=setA y.A y.A[k].1 j (kd,n1,s) }) i O /\
   Tn (fun q=>O q≠0) W (((W.setCell ⟨gv,j*3,none⟩ (.int .i64 kd)).setCell ⟨gv,j*3+1,none⟩ (.int .i64 n1)).setCell ⟨gv,j*3+2,none⟩ (.string s)):=by
 have hx:=h.ok ht hy;have hk':k<y.vs.length:=(by rw[hx.n];exact hk);have hv:=hv hk';have hl:=hx.len _ (List.getElem_mem hk);have hr:=hx.vals k hk hk';rw[hv,hl] at hr;obtain⟨h1,h2⟩:=row_set hr hl j hj kd n1 s;have hg:O gv=6+2*t:=hx.ovs k hk' gv (by rw[hv];rfl)
 have hty:Ty W gv:=by
  obtain⟨_,cur,hb⟩:=hr.block gv rfl;exact⟨cur,42,hb,rfl⟩
 generalize ((W.setCell ⟨gv,j*3,none⟩ (.int .i64 kd)).setCell ⟨gv,j*3+1,none⟩ (.int .i64 n1)).setCell ⟨gv,j*3+2,none⟩ (.string s)=w at h1 h2 ⊢;have hchg:Chg (fun q=>q=gv) W w:=⟨h2.os,h2.tape,h2.output,h2.size,fun q hq hn=>h2.block q hq (fun e=>hn (by cases e;rfl))⟩;have htn:Tn (fun q=>q=gv) W w:=Tn.of_chg hchg (fun q _ hq=>.inl (hq▸hty));have hb:∀ q,q<W.heap.size->q≠gv->w.heap[q]?=W.heap[q]?:=(fun q hq hn=>hchg.block q hq hn);have hids:(setA y.A y.A[k].1 j (kd,n1,s)).map (·.1)=y.A.map (·.1):=setA_ids _ _ _ _;have hll:(setA y.A y.A[k].1 j (kd,n1,s)).length=y.A.length:=setA_len _ _ _ _;have hrow:HRow w 0 102 2 y.rv y.A.length (cellsR y.A y.vs):=hx.rows.of (fun q hq=>hb q (HRow.lt hx.rows q hq).2 (fun e=>by have:=hx.orv q hq;rw[e,hg] at this;omega));refine⟨h.settab ht htn (fun q hq=>.inr (.inr (.inr (by rw[hq];exact hg)))) (fun _ _=>rfl) (fun q hq=>Nat.lt_of_lt_of_le (h.lt q hq) h2.size) ⟨?_,hx.n.trans hll.symm,fun m hm hm'=>?_,hx.sep,fun a ha=>?_,?_,fun a ha=>?_,hx.orv,hx.ovs⟩ (fun z hz=>by rw[hy] at hz;cases hz;rfl) ?_,htn.mono (fun q _ hq=>by show O q≠0;rw[hq,hg];omega)⟩
 ·show HRow w 0 102 2 y.rv (setA y.A y.A[k].1 j (kd,n1,s)).length (cellsR (setA y.A y.A[k].1 j (kd,n1,s)) y.vs);rw[hll,cellsR_ids hids];exact hrow
 ·have hm:m<y.A.length:=(by have hm:m<(setA y.A y.A[k].1 j (kd,n1,s)).length:=hm;rwa [hll] at hm);have hm':m<y.vs.length:=hm';have e:=setA_at (x:=y.A[k].1) (j:=j) (v:=(kd,n1,s)) hm (by rw[hll];exact hm);show HRow w 0 42 3 y.vs[m] ((setA y.A y.A[k].1 j (kd,n1,s))[m]'(by rw[hll];exact hm)).2.length (cells3 ((setA y.A y.A[k].1 j (kd,n1,s))[m]'(by rw[hll];exact hm)).2);rw[e];by_cases hmk:m=k
  ·subst hmk;rw[if_pos rfl];show HRow w 0 42 3 y.vs[m] (y.A[m].2.set j (kd,n1,s)).length (cells3 (y.A[m].2.set j (kd,n1,s)));rw[List.length_set,hl,hv];exact h1
  ·rw[if_neg (fun e2=>hmk (srt_at hx.srt hm hk e2))];refine (hx.vals m hm hm').of (fun q hq=>hb q (HRow.lt (hx.vals m hm hm') q hq).2 (fun e3=>?_));subst e3;exact hx.sep m k hm' hk' hmk q hq (by rw[hv];rfl)
 ·have ha:a∈setA y.A y.A[k].1 j (kd,n1,s):=ha;unfold setA at ha;obtain⟨a0,ha0,rfl⟩:=List.mem_map.1 ha;by_cases e:a0.1=y.A[k].1
  ·rw[if_pos e];show (a0.2.set j _).length=_;rw[List.length_set];exact hx.len a0 ha0
  ·rw[if_neg e];exact hx.len a0 ha0
 ·have:=hx.srt
  show (setA y.A y.A[k].1 j (kd,n1,s)).Pairwise _;rw[<- List.pairwise_map (f:=fun a:R1=>a.1) (R:=fun a b=>a<b)] at this ⊢;rw[hids];exact this
 ·have ha:a∈setA y.A y.A[k].1 j (kd,n1,s):=ha;unfold setA at ha;obtain⟨a0,ha0,rfl⟩:=List.mem_map.1 ha
  have:=hx.rng a0 ha0
  by_cases e:a0.1=y.A[k].1
  ·rw[if_pos e];exact this
  ·rw[if_neg e];exact this
 ·have e:=map_rv_same (x:={ y with A:=setA y.A y.A[k].1 j (kd,n1,s) }) hy rfl;rw[e];exact h.outer.of (fun q hq=>hb q (HRow.lt h.outer q hq).2 (fun e=>by have:=h.o3 q hq;rw[e,hg] at this;omega))
theorem set_same {tt:List RT} {t:Nat} {y:RT} (hy:tt[t]?=some y):tt.set t y=tt:=by
 refine List.ext_getElem? (fun k=>?_);rw[List.getElem?_set];by_cases e:t=k
 ·subst e;rw[if_pos rfl,if_pos (List.getElem?_eq_some_iff.1 hy).1,hy]
 ·rw[if_neg e]
theorem nset_any (h:DbN W b ts tt i O) (ht:t<ts.length) (hy:tt[t]?=some y) (hl:y.A.length<=100000) (hc0:0<ts[t].cols.length) (x:Int) (z:ByteArray) (kd n1:Int) (s:ByteArray) (hs:s.size<=maxLen) :
  Calls Tryz.prog 40 #[(Value.pointer (some ⟨b,0,none⟩)),.int .i64 (t:Int),.int .i64 x,.string z,(Value.agg #[Value.int .i64 (kd),Value.int .i64 (n1),Value.string (s)])] W fun e w'=>e=.returned (.int .i64 (setE ts[t] y.A x z (kd,n1,s)))/\∃ x1,DbN w' b ts (tt.set t x1) i O/\x1.nx=y.nx/\x1.A=(if setE ts[t] y.A x z (kd,n1,s)=0 then setA y.A x (ixC ts[t].cols z).toNat (kd,n1,s) else y.A)/\Tn (fun q=>O q≠0) W w':=by
 have hb1:=below_alloc W (.cells #[.int .i64 kd,.int .i64 n1,.string s] 42);have k1:=heap_alloc_new W (.cells #[.int .i64 kd,.int .i64 n1,.string s] 42);obtain⟨w1,hw1⟩:∃ w1,W.alloc (.cells #[.int .i64 kd,.int .i64 n1,.string s] 42)=w1:=⟨_,rfl⟩;obtain⟨B,hB⟩:∃ B,W.heap.size=B:=⟨_,rfl⟩;rw[hw1] at hb1 k1;rw[hB] at k1;have h1:=h.later hb1;have hss:=set_same hy;have hat:=nat_any h1 ht hy hl x;have HW:=Lib.hid (And.intro hw1 hB);have H1:=Lib.hid (And.intro h1 (And.intro k1 (And.intro hb1 hss)));have hsrt:=(h.ok ht hy).srt
 have hA:y.A.any (fun a=>decide (a.1=x))=decide (¬ atP y.A x=-1):=by
  rcases atP_cases hsrt x with ⟨e1,e2⟩ | ⟨k,hk,e1,e2⟩
  ·rw[e1,List.any_eq_false.2 (fun a ha=>by simp[e2 a ha])];rfl
  ·rw[e1,List.any_eq_true.2 ⟨y.A[k],List.getElem_mem hk,by simp[e2]⟩]
   symm;rw[decide_eq_true_iff];omega
 unfold setE;rw[hA];rcases atP_cases hsrt x with ⟨e1,e2⟩ | ⟨k,hk,e1,e2⟩
 ·rw[e1] at hat ⊢;simp only[not_true_eq_false,decide_false,Bool.false_eq_true,if_false];clear hb1 k1 hw1 hB h1 hA e1 e2 h hy hss;go_enter Tryz.func40,Tryz.ntmps40;go_upto_region 1 with fail;rw[HW.out.1,HW.out.2];go_wp2_with (go_at_call 66;(with_reducible refine hat.mono ?_);rintro e w2 ⟨rfl,hw⟩;subst w2;clear hat);go_ret;exact⟨rfl,y,by rw[H1.out.2.2.2];exact H1.out.1,rfl,rfl,Tn.of_below H1.out.2.2.1⟩
 ·rw[e1] at hat ⊢;have hne:decide (¬ (k:Int)=-1)=true:=decide_eq_true (by omega);rw[hne];simp only[reduceIte];obtain⟨⟨gs,cs,go,co,gn,cn,pc,kc,pd,kd'⟩,_,o1,_,_,_,_,hR⟩:=h1.reads ht hy;obtain⟨mt',hmt⟩:∃ m,ts.length=m:=⟨_,rfl⟩;have hti:(t:Int)<(mt':Int):=(by omega);have htn:t<mt':=(by omega);obtain⟨T0,hT0⟩:∃ T0,ts[t]'ht=T0:=⟨_,rfl⟩;have HT0:=Lib.hid (And.intro hT0 (And.intro ht (And.intro hy hmt)));simp only[hT0] at hR hc0 ⊢;have r0:=hR w1 (Below.refl _ _);have hcol:=rcolOf_any (x:=z) r0.rt;have f7:w1.cell? ⟨b,0,none⟩=some (.slice (some ⟨gs,0,none⟩) mt' cs):=(by rw[<- hmt];exact r0.b0);have f3:=r0.s0;have f4:=r0.s1;have f5:=r0.s2;have f6:=r0.s3;have f2:=r0.sl;have xl:=r0.bl;have HX:Hid (∀ w,Below w1.heap.size w1 w->DbN w b ts tt i O/\w.heap[B]?=some (.cells #[.int .i64 kd,.int .i64 n1,.string s] 42)/\Below W.heap.size W w):=Lib.hid (fun w hb=>⟨h1.later hb,heap_on hb k1,below_on hb1 hb⟩);have hnk:¬ (k:Int)<0:=(by omega);rcases ixC_cases T0.cols z with hix|⟨j,hj,hix⟩
  ·rw[hix] at hcol ⊢;simp only[show ¬ (0:Int)<=-1 by decide,if_false,show ¬ (3:Int)=0 by decide];clear hb1 k1 hw1 hB h1 hA e1 e2 hne hmt hT0 h hy hss o1 hR r0;go_enter Tryz.func40,Tryz.ntmps40;go_upto_region 1 with fail;rw[HW.out.1,HW.out.2]
   go_wp2_with (first
    | (go_at_call 66;(with_reducible refine hat.mono ?_);rintro e w2 ⟨rfl,hw⟩;subst w2;clear hat)
    | (go_at_call 69;(with_reducible refine hcol.mono ?_);rintro e w3 ⟨rfl,hb3⟩;have H3:=HX.out w3 hb3;clear hcol))
   go_ret;exact⟨rfl,y,by rw[H1.out.2.2.2];exact H3.1,rfl,rfl,Tn.of_below H3.2.2⟩
  ·rw[hix] at hcol ⊢
   have hcj:(T0.cols[(j:Int).toNat]?).getD ⟨e0,0,false,e0⟩=T0.cols[j]:=by
    rw[Int.toNat_natCast,List.getElem?_eq_getElem hj];rfl
   simp only[show (0:Int)<=(j:Int) from Int.natCast_nonneg j,if_true,hcj];have hnj:¬ (j:Int)<0:=(by omega);obtain⟨cc,hcc⟩:∃ cc,T0.cols[j]=cc:=⟨_,rfl⟩;obtain⟨gc,oc,hpc,_,_⟩:=RdC.col r0.rd hj;have hpc:pc=some ⟨gc,oc,none⟩:=hpc
   have HC:Hid (∀ w,Below w1.heap.size w1 w->w.cell? ⟨gc,oc+j*4,none⟩=some (.string cc.nm)/\w.cell? ⟨gc,oc+j*4+1,none⟩=some (.int .i64 cc.kd)/\w.cell? ⟨gc,oc+j*4+2,none⟩=some (.bool cc.mu)/\w.cell? ⟨gc,oc+j*4+3,none⟩=some (.string cc.tgt)):=Lib.hid (fun w hb=>by
    obtain⟨gc',oc',e,_,h2⟩:=RdC.col (hR w hb).rd hj;have e:pc=some ⟨gc',oc',none⟩:=e;rw[hpc] at e;cases e;rw[hcc] at h2;exact h2)
   have HF:Hid (∀ w,Below w1.heap.size w1 w->w.cell? ⟨gs,t*4+1,none⟩=some (.slice pc T0.cols.length kc)/\w.cell? ⟨b,0,none⟩=some (.slice (some ⟨gs,0,none⟩) mt' cs)/\b<w.heap.size/\gs<w.heap.size):=Lib.hid (fun w hb=>by
    have k:=hR w hb;exact⟨k.s1,by rw[<- hmt];exact k.b0,k.bl,k.sl⟩)
   obtain⟨nc,hnc⟩:∃ n,T0.cols.length=n:=⟨_,rfl⟩;have htyp:=(fun w=>vtyped_any kd n1 s cc w hs);rw[hcc];rw[hpc] at HF f4 hcol;rw[hnc] at HF f4 hcol;have hji:(j:Int)<(nc:Int):=(by omega);have HN:=Lib.hid (And.intro hnc (And.intro hcc hix));clear hb1 k1 hw1 hB hA hne hcj hcc hpc;cases hin:inC cc.kd (kd,n1,s)
   ·simp only[Bool.false_eq_true,if_false,show ¬ (4:Int)=0 by decide];rw[hin] at htyp;clear hin e1 e2 h1 h hy hss o1 hR r0 hmt hT0;go_enter Tryz.func40,Tryz.ntmps40;go_upto_region 1 with fail;rw[HW.out.1,HW.out.2]
    go_upto_region 7 with (first
     | (go_at_call 66;(with_reducible refine hat.mono ?_);rintro e w2 ⟨rfl,hw⟩;subst w2;clear hat)
     | (go_at_call 69;(with_reducible refine hcol.mono ?_);rintro e w3 ⟨rfl,hb3⟩;have H3:=Lib.hid hb3;clear hcol hb3))
    refine Par.wp_region_par 12 [(Value.agg #[Value.int .i64 (kd),Value.int .i64 (n1),Value.string (s)]),(Value.pointer (some ⟨b,0,none⟩)),(Value.pointer (some ⟨b,0,none⟩)),(Value.pointer (some ⟨b,0,none⟩)),.slice (some ⟨gs,0,none⟩) mt' cs,(Value.int .i64 ((t:Int))),(Value.pointer (some ⟨gs,t*4,none⟩)),(Value.pointer (some ⟨gs,t*4+1,none⟩)),.slice (some ⟨gc,oc,none⟩) nc kc,(Value.int .i64 ((j:Int))),(Value.pointer (some ⟨gc,oc+j*4,none⟩)),.agg #[.string cc.nm,.int .i64 cc.kd,.bool cc.mu,.string cc.tgt]] (fun w=>Below w1.heap.size w1 w) ?A1 ?hm1 ?hB1 ?hA1 ((below_on H3.out (below_drew w3))) ?hop1 ?hT1
    case hm1=>kernel_rfl
    case hB1=>kernel_rfl
    case hA1 =>
     simp only[Par.putA,Par.dstAt,Act.put,List.getElem?_toArray,List.getElem?_cons_zero,List.getElem?_cons_succ,Option.bind_some,List.setIfInBounds_toArray,List.set_cons_zero,List.set_cons_succ,List.getD_cons_zero,List.getD_cons_succ];rfl
    case hop1 =>
     simp only[List.take_succ_cons,List.take_zero,Par.GiveAll,and_true];and_intros<;>intro w' hR
     ·have HR:=Lib.hid hR;have x0:=nd_cell (HX.out w' hR).2.1 0;have x1:=nd_cell (HX.out w' hR).2.1 1;have x2:=nd_cell (HX.out w' hR).2.1 2;clear hR;simp only[Par.Gives];go_simp;all_goals exact HR.out
     ·have HR:=Lib.hid hR;clear hR;simp only[Par.Gives];go_simp;all_goals exact HR.out
     ·have HR:=Lib.hid hR;have zl:=(HF.out w' hR).2.2.1;clear hR;simp only[Par.Gives];go_simp;all_goals exact HR.out
     ·have HR:=Lib.hid hR;have zl:=(HF.out w' hR).2.2.1;clear hR;simp only[Par.Gives];go_simp;all_goals exact HR.out
     ·have HR:=Lib.hid hR;have x0:=(HF.out w' hR).2.1;clear hR;simp only[Par.Gives];go_simp;all_goals exact HR.out
     ·have HR:=Lib.hid hR;clear hR;simp only[Par.Gives];go_simp;all_goals exact HR.out
     ·have HR:=Lib.hid hR;clear hR;simp only[Par.Gives];go_simp;all_goals exact HR.out
     ·have HR:=Lib.hid hR;have zl:=(HF.out w' hR).2.2.2;clear hR;simp only[Par.Gives];go_simp;all_goals exact HR.out
     ·have HR:=Lib.hid hR;have x0:=(HF.out w' hR).1;clear hR;simp only[Par.Gives];go_simp;all_goals exact HR.out
     ·have HR:=Lib.hid hR;clear hR;simp only[Par.Gives];go_simp;all_goals exact HR.out
     ·have HR:=Lib.hid hR;clear hR;simp only[Par.Gives];go_simp;all_goals exact HR.out
     ·have HR:=Lib.hid hR;have x0:=(HC.out w' hR).1;have x1:=(HC.out w' hR).2.1;have x2:=(HC.out w' hR).2.2.1;have x3:=(HC.out w' hR).2.2.2;clear hR;simp only[Par.Gives];go_simp;all_goals exact HR.out
    case hT1 =>
     intro w' hR;simp only[List.drop_succ_cons,List.drop_zero];have HR:=Lib.hid hR;have htyp:=htyp w';clear hR;go_wp2_with (go_at_call 62;(with_reducible refine htyp.mono ?_);rintro e w4 ⟨rfl,hb4⟩;have H4:=Lib.hid (HX.out w4 (HR.out.trans (hb4.mono HR.out.size)));clear htyp hb4);go_ret;exact⟨rfl,y,by rw[H1.out.2.2.2];exact H4.out.1,rfl,rfl,Tn.of_below H4.out.2.2⟩
   ·simp only[if_true];have hx1:=h1.ok ht hy;have hkv:k<y.vs.length:=(by rw[hx1.n];exact hk);have hlk:=hx1.len _ (List.getElem_mem hk);rw[hT0] at hlk;have hvr:=hx1.vals k hk hkv;rw[hlk] at hvr;obtain⟨gv,cv,r5,_,_⟩:=hvr.slice hc0;rw[r5] at hvr;obtain⟨gr,cr,r1,_,_⟩:=hx1.rows.slice (by omega);have hrr:=hx1.rows;rw[r1] at hrr;have r4:=hrr.cell (cellsR_at hx1.n hk).2;rw[r5] at r4;have r2:=(HRow.lt hrr gr rfl).2;have o4:w1.cell? ⟨b,1,none⟩=some (.slice (some ⟨go,0,none⟩) mt' co):=(by rw[<- hmt];exact r0.b1);have o3:w1.cell? ⟨go,t,none⟩=some y.rv:=r0.o0;have o2:go<w1.heap.size:=r0.ol;have HV:Hid (∀ hk':k<y.vs.length,y.vs[k]=.slice (some ⟨gv,0,none⟩) (ts[t]'ht).cols.length cv):=Lib.hid (fun _=>by rw[hT0];exact r5);obtain⟨na,hna⟩:∃ n,y.A.length=n:=⟨_,rfl⟩;have hki:(k:Int)<(na:Int):=by omega
    have HO:Hid (∀ w,Below w1.heap.size w1 w->w.cell? ⟨b,1,none⟩=some (.slice (some ⟨go,0,none⟩) mt' co)/\w.cell? ⟨go,t,none⟩=some (.slice (some ⟨gr,0,none⟩) na cr)/\w.cell? ⟨gr,k*2+1,none⟩=some (.slice (some ⟨gv,0,none⟩) nc cv)/\b<w.heap.size/\go<w.heap.size/\gr<w.heap.size/\HRow w 0 42 3 (.slice (some ⟨gv,0,none⟩) nc cv) nc (cells3 y.A[k].2)):=Lib.hid (fun w hb=>by
     have k0:=World.cell?_of_block (w:=w1) (a:=⟨b,1,none⟩) (hb.block b xl);have k2:=World.cell?_of_block (w:=w1) (a:=⟨go,t,none⟩) (hb.block go o2);have k3:=World.cell?_of_block (w:=w1) (a:=⟨gr,k*2+1,none⟩) (hb.block gr r2);rw[r1,hna] at o3;rw[HN.out.1] at r4 hvr;exact⟨k0.trans o4,k2.trans o3,k3.trans r4,Nat.lt_of_lt_of_le xl hb.size,Nat.lt_of_lt_of_le o2 hb.size,Nat.lt_of_lt_of_le r2 hb.size,hvr.later hb⟩)
    have hxl:(cells3 y.A[k].2).length=nc*3:=(by rw[cells3_len,hlk,HN.out.1]);have H0:Hid ((cells3 y.A[k].2).length=nc*3):=Lib.hid hxl;have HE:=Lib.hid e2;rw[hin] at htyp;clear hin e1 e2 r1 r2 r4 r5 hvr hrr hlk hkv hx1 o1 o2 o3 o4 hxl hna h1 h hss hR r0 hmt hT0;go_enter Tryz.func40,Tryz.ntmps40;go_upto_region 1 with fail;rw[HW.out.1,HW.out.2]
    go_upto_region 7 with (first
     | (go_at_call 66;(with_reducible refine hat.mono ?_);rintro e w2 ⟨rfl,hw⟩;subst w2;clear hat)
     | (go_at_call 69;(with_reducible refine hcol.mono ?_);rintro e w3 ⟨rfl,hb3⟩;have H3:=Lib.hid hb3;clear hcol hb3))
    refine Par.wp_region_par 12 [(Value.agg #[Value.int .i64 (kd),Value.int .i64 (n1),Value.string (s)]),(Value.pointer (some ⟨b,0,none⟩)),(Value.pointer (some ⟨b,0,none⟩)),(Value.pointer (some ⟨b,0,none⟩)),.slice (some ⟨gs,0,none⟩) mt' cs,(Value.int .i64 ((t:Int))),(Value.pointer (some ⟨gs,t*4,none⟩)),(Value.pointer (some ⟨gs,t*4+1,none⟩)),.slice (some ⟨gc,oc,none⟩) nc kc,(Value.int .i64 ((j:Int))),(Value.pointer (some ⟨gc,oc+j*4,none⟩)),.agg #[.string cc.nm,.int .i64 cc.kd,.bool cc.mu,.string cc.tgt]] (fun w=>Below w1.heap.size w1 w) ?A2 ?hm2 ?hB2 ?hA2 ((below_on H3.out (below_drew w3))) ?hop2 ?hT2
    case hm2=>kernel_rfl
    case hB2=>kernel_rfl
    case hA2 =>
     simp only[Par.putA,Par.dstAt,Act.put,List.getElem?_toArray,List.getElem?_cons_zero,List.getElem?_cons_succ,Option.bind_some,List.setIfInBounds_toArray,List.set_cons_zero,List.set_cons_succ,List.getD_cons_zero,List.getD_cons_succ];rfl
    case hop2 =>
     simp only[List.take_succ_cons,List.take_zero,Par.GiveAll,and_true];and_intros<;>intro w' hR
     ·have HR:=Lib.hid hR;have x0:=nd_cell (HX.out w' hR).2.1 0;have x1:=nd_cell (HX.out w' hR).2.1 1;have x2:=nd_cell (HX.out w' hR).2.1 2;clear hR;simp only[Par.Gives];go_simp;all_goals exact HR.out
     ·have HR:=Lib.hid hR;clear hR;simp only[Par.Gives];go_simp;all_goals exact HR.out
     ·have HR:=Lib.hid hR;have zl:=(HF.out w' hR).2.2.1;clear hR;simp only[Par.Gives];go_simp;all_goals exact HR.out
     ·have HR:=Lib.hid hR;have zl:=(HF.out w' hR).2.2.1;clear hR;simp only[Par.Gives];go_simp;all_goals exact HR.out
     ·have HR:=Lib.hid hR;have x0:=(HF.out w' hR).2.1;clear hR;simp only[Par.Gives];go_simp;all_goals exact HR.out
     ·have HR:=Lib.hid hR;clear hR;simp only[Par.Gives];go_simp;all_goals exact HR.out
     ·have HR:=Lib.hid hR;clear hR;simp only[Par.Gives];go_simp;all_goals exact HR.out
     ·have HR:=Lib.hid hR;have zl:=(HF.out w' hR).2.2.2;clear hR;simp only[Par.Gives];go_simp;all_goals exact HR.out
     ·have HR:=Lib.hid hR;have x0:=(HF.out w' hR).1;clear hR;simp only[Par.Gives];go_simp;all_goals exact HR.out
     ·have HR:=Lib.hid hR;clear hR;simp only[Par.Gives];go_simp;all_goals exact HR.out
     ·have HR:=Lib.hid hR;clear hR;simp only[Par.Gives];go_simp;all_goals exact HR.out
     ·have HR:=Lib.hid hR;have x0:=(HC.out w' hR).1;have x1:=(HC.out w' hR).2.1;have x2:=(HC.out w' hR).2.2.1;have x3:=(HC.out w' hR).2.2.2;clear hR;simp only[Par.Gives];go_simp;all_goals exact HR.out
    case hT2 =>
     intro w' hR;simp only[List.drop_succ_cons,List.drop_zero];have HR:=Lib.hid hR;have htyp:=htyp w';clear hR;go_upto_region 9 with (go_at_call 62;(with_reducible refine htyp.mono ?_);rintro e w4 ⟨rfl,hb4⟩;have H4:=Lib.hid (HR.out.trans (hb4.mono HR.out.size));clear htyp hb4);refine Par.wp_region_par 14 [(Value.pointer (some ⟨b,0,none⟩)),(Value.pointer (some ⟨b,0,none⟩)),(Value.pointer (some ⟨b,1,none⟩)),.slice (some ⟨go,0,none⟩) mt' co,(Value.int .i64 ((t:Int))),(Value.pointer (some ⟨go,t,none⟩)),.slice (some ⟨gr,0,none⟩) na cr,(Value.int .i64 ((k:Int))),(Value.pointer (some ⟨gr,k*2,none⟩)),(Value.pointer (some ⟨gr,k*2+1,none⟩)),.slice (some ⟨gv,0,none⟩) nc cv,(Value.int .i64 ((j:Int))),(Value.agg #[Value.int .i64 (kd),Value.int .i64 (n1),Value.string (s)]),(Value.pointer (some ⟨gv,j*3,none⟩))] (fun w=>Below w1.heap.size w1 w) ?A3 ?hm3 ?hB3 ?hA3 ((below_on H4.out (below_drew w4))) ?hop3 ?hT3
     case hm3=>kernel_rfl
     case hB3=>kernel_rfl
     case hA3 =>
      simp only[Par.putA,Par.dstAt,Act.put,List.getElem?_toArray,List.getElem?_cons_zero,List.getElem?_cons_succ,Option.bind_some,List.setIfInBounds_toArray,List.set_cons_zero,List.set_cons_succ,List.getD_cons_zero,List.getD_cons_succ];rfl
     case hop3 =>
      simp only[List.take_succ_cons,List.take_zero,Par.GiveAll,and_true];and_intros<;>intro w' hR
      ·have HR:=Lib.hid hR;clear hR;simp only[Par.Gives];go_simp;all_goals exact HR.out
      ·have HR:=Lib.hid hR;have zl:=(HF.out w' hR).2.2.1;clear hR;simp only[Par.Gives];go_simp;all_goals exact HR.out
      ·have HR:=Lib.hid hR;have zl:=(HF.out w' hR).2.2.1;clear hR;simp only[Par.Gives];go_simp;all_goals exact HR.out
      ·have HR:=Lib.hid hR;have x0:=(HO.out w' hR).1;clear hR;simp only[Par.Gives];go_simp;all_goals exact HR.out
      ·have HR:=Lib.hid hR;clear hR;simp only[Par.Gives];go_simp;all_goals exact HR.out
      ·have HR:=Lib.hid hR;clear hR;simp only[Par.Gives];go_simp;all_goals exact HR.out
      ·have HR:=Lib.hid hR;have x0:=(HO.out w' hR).2.1;clear hR;simp only[Par.Gives];go_simp;all_goals exact HR.out
      ·have HR:=Lib.hid hR;clear hR;simp only[Par.Gives];go_simp;all_goals exact HR.out
      ·have HR:=Lib.hid hR;clear hR;simp only[Par.Gives];go_simp;all_goals exact HR.out
      ·have HR:=Lib.hid hR;have zl:=(HO.out w' hR).2.2.2.2.2.1;clear hR;simp only[Par.Gives];go_simp;all_goals exact HR.out
      ·have HR:=Lib.hid hR;have x0:=(HO.out w' hR).2.2.1;clear hR;simp only[Par.Gives];go_simp;all_goals exact HR.out
      ·have HR:=Lib.hid hR;clear hR;simp only[Par.Gives];go_simp;all_goals exact HR.out
      ·have HR:=Lib.hid hR;have x0:=nd_cell (HX.out w' hR).2.1 0;have x1:=nd_cell (HX.out w' hR).2.1 1;have x2:=nd_cell (HX.out w' hR).2.1 2;clear hR;simp only[Par.Gives];go_simp;all_goals exact HR.out
      ·have HR:=Lib.hid hR;clear hR;simp only[Par.Gives];go_simp;all_goals exact HR.out
     case hT3 =>
      intro w' hR;simp only[List.drop_succ_cons,List.drop_zero];have HR2:=Lib.hid hR;obtain⟨_,_,_,_,_,_,q7⟩:=HO.out _ hR;have y0:=q7.cell (j:=j*3) (List.getElem?_eq_getElem (by rw[H0.out];omega));have y1:=q7.cell (j:=j*3+1) (List.getElem?_eq_getElem (by rw[H0.out];omega));have y2:=q7.cell (j:=j*3+2) (List.getElem?_eq_getElem (by rw[H0.out];omega));have yf:=(fun m=>q7.frozenAt m);have yl:=(HRow.lt q7 gv rfl).2;clear hR q7;go_wp2_with fail;go_ret;obtain⟨d1,_,d3⟩:=HX.out _ HR2.out;obtain⟨z1,z2⟩:=d1.setval HT0.out.2.1 HT0.out.2.2.1 hk (j:=j) (show j<(ts[t]'HT0.out.2.1).cols.length by rw[HT0.out.1,HN.out.1];omega) HV.out kd n1 s;rw[HE.out] at z1;refine⟨rfl,_,z1,rfl,?_,(Tn.of_below (S:=fun _=>False) d3).trans z2 (fun _ _ h=>h.elim) (fun _ _ h=>h)⟩;rw[Int.toNat_natCast]
end
