import Derived.Test.YthlccadnojnkaaaGreatZk31
import Derived.Test.YthlccadnojnkaaaGreatZk33
import Derived.Test.YthlccadnojnkaaaGreatZk32
set_option maxHeartbeats 8000000
set_option maxRecDepth 100000
namespace Go.Proofs.YthlccadnojnkaaaGreat
open Go Go.RowKit Go.Proofs Co Co.S
def tgtOf (ts:List T) (x y:ByteArray):ByteArray:=(orC (colOf (colsAt ts x) y)).tgt
def rowsAt (ts:List T) (As:List (List R1)) (x:ByteArray):List R1:=(As[(ixT ts x).toNat]?).getD []
def cellA (A:List R1) (k:Nat) (id:Int):T3:=((A.find? fun a=>decide (a.1=id)).map fun a=>a.2.getD k z3).getD z3
def hasId (A:List R1) (id:Int):Bool:=A.any fun a=>decide (a.1=id)
def cellP (ts:List T) (As:List (List R1)) (x:ByteArray) (id:Int) (y:ByteArray):T3:=cellA (rowsAt ts As x) (ixC (colsAt ts x) y).toNat id
def valP (ts:List T) (As:List (List R1)):ByteArray->Int->List ByteArray->T3
 | _,_,[]=>z3
 | x,id,y::r=>if r.isEmpty=true then cellP ts As x id y else match byKeyP ts As (tgtOf ts x y) (cellP ts As x id y) with
  | none=>z3
  | some i=>valP ts As (tgtOf ts x y) i r
def valueP (ts:List T) (As:List (List R1)) (x:ByteArray) (id:Int) (p:List ByteArray):T3×Bool :=
 if (pcolL ts x p).2.2=0/\hasId (rowsAt ts As x) id=true then (valP ts As x id p,true) else (z3,false)
section
variable {ts:List T} {As:List (List R1)} {x y:ByteArray} {id:Int} {p:List ByteArray} {j:Nat}
theorem kE (p:List ByteArray) {j:Nat} (hj:j<p.length):(p.drop (j+1)).isEmpty=true↔j+1=p.length:=by
 constructor
 ·intro h;rw[List.isEmpty_iff] at h
  have:=congrArg List.length h
  simp only[List.length_drop,List.length_nil] at this;omega
 intro h;rw[List.drop_of_length_le (by omega)];rfl
theorem aBB (hj:j<p.length) (h:j+1=p.length):valP ts As x id (p.drop j)=cellP ts As x id p[j]:=by
 rw[List.drop_eq_getElem_cons hj,valP,if_pos ((kE p hj).2 h)]
theorem aBC (hj:j<p.length) (h:j+1≠p.length) (hb:byKeyP ts As (tgtOf ts x p[j]) (cellP ts As x id p[j])=none):valP ts As x id (p.drop j)=z3:=by
 rw[List.drop_eq_getElem_cons hj,valP,if_neg (fun e=>h ((kE p hj).1 e)),hb]
theorem aBD (hj:j<p.length) (h:j+1≠p.length) {i:Int} (hb:byKeyP ts As (tgtOf ts x p[j]) (cellP ts As x id p[j])=some i):valP ts As x id (p.drop j)=valP ts As (tgtOf ts x p[j]) i (p.drop (j+1)):=by
 rw[List.drop_eq_getElem_cons hj,valP,if_neg (fun e=>h ((kE p hj).1 e)),hb]
theorem aAe (hj:j<p.length) (h:(pcol ts x (p.drop j)).2.2=0):hasC (colsAt ts x) p[j]=true/\(j+1≠p.length->(pcol ts (tgtOf ts x p[j]) (p.drop (j+1))).2.2=0):=by
 rw[aAd ts x p hj] at h;split at h
 ·rename_i h1;refine⟨h1,fun hne=>?_⟩;rw[if_neg hne] at h;split at h
  ·exact absurd h (by decide)
  exact h
 exact absurd h (by decide)
theorem aFt (h:hasC (colsAt ts x) y=true):∃ (j:Nat) (hj:j<ts.length),ts[j].nm=x/\ixT ts x=(j:Int)/\findT ts x=some ts[j]/\colsAt ts x=ts[j].cols/\∃ k,k<ts[j].cols.length/\ixC ts[j].cols y=(k:Int):=by
 rcases bZ ts x with ⟨_,_,h3⟩ | ⟨j,hj,h1,_,h3⟩
 ·rw[colsAt,h3] at h;simp[hasC,orT,zeroT] at h
 have e:colsAt ts x=ts[j].cols:=(by rw[colsAt,h3];rfl);rw[e] at h;rcases cI ts[j].cols y with ⟨_,h2,_⟩ | ⟨k,hk,h2,_⟩
 ·rw[h2] at h;cases h
 have hn:ts[j].nm=x:=by
  have:=List.find?_some (l:=ts) (p:=isT x) h3
  exact dQ (by simpa [isT,eqS] using this)
 exact⟨j,hj,hn,h1,h3,e,k,hk,h2⟩
theorem aBE {A:List R1} {k:Nat} {v:T3} {i:Int} (h:byRow A k v=some i):hasId A i=true:=by
 unfold byRow at h;cases hf:A.find? (fun a=>decide (a.2.getD k z3=v)) with
 | none=>rw[hf] at h;cases h
 | some a =>
  rw[hf] at h;simp only[Option.map_some,Option.some.injEq] at h;unfold hasId;rw[List.any_eq_true];exact⟨a,List.mem_of_find?_eq_some hf,by simpa using h⟩
theorem xQ {v:T3} {i:Int} (h:byKeyP ts As x v=some i):hasId (rowsAt ts As x) i=true:=by
 unfold byKeyP at h;split at h
 ·rename_i t A h1 h2;rw[rowsAt,h2];split at h
  ·cases h
  split at h
  ·cases h
  split at h
  ·cases h
  exact aBE h
 cases h
theorem kG {A:List R1} {i:Int}:hasId A i=true↔∃ a∈A,a.1=i:=by
 unfold hasId;rw[List.any_eq_true]
 simp
theorem nN {A:List R1} {i:Int}:hasId A i=false↔∀ a∈A,a.1≠i:=by
 unfold hasId;rw[List.any_eq_false]
 simp
theorem aDs {A:List R1} {i:Int} (h:hasId A i=true):∃ a∈A,a.1=i/\∀ k,cellA A k i=a.2.getD k z3:=by
 unfold hasId at h;have hs:(A.find? fun a=>decide (a.1=i)).isSome=true:=List.find?_isSome.2 (List.any_eq_true.1 h);obtain⟨a,ha⟩:=Option.isSome_iff_exists.1 hs;refine⟨a,List.mem_of_find?_eq_some ha,by simpa using List.find?_some ha,fun k=>?_⟩;unfold cellA;rw[ha];rfl
theorem aDt {A:List R1} {i:Int} (h:hasId A i=false) (k:Nat):cellA A k i=z3:=by
 have:A.find? (fun a=>decide (a.1=i))=none:=by
  rw[List.find?_eq_none];unfold hasId at h;rw[List.any_eq_false] at h;exact h
 unfold cellA;rw[this];rfl
end
section
variable {W W':World} {d:Nat} {ts:List T} {st:List DT} {O O':Nat->Nat} {S:Nat->Prop} {t:T} {cv dv:Value}
theorem lU {ts:List T} {x:ByteArray} (h:hasT ts x=false) {j:Nat} (hj:j<ts.length):ts[j].nm≠x:=fun e=>by
 unfold hasT at h;have h1:=List.any_eq_false.1 h ts[j] (List.getElem_mem hj);unfold isT eqS at h1;rw[e] at h1;simp at h1
theorem aDu {ts:List T} {x:ByteArray} (h:hasT ts x=false):findT ts x=none:=by
 unfold findT;rw[List.find?_eq_none];unfold hasT at h;intro a ha;simpa using List.any_eq_false.1 h a ha
theorem tY (t:T):isT t.nm (formT t)=true:=by unfold isT eqS formT;simp
theorem xR {ts:List T} {t:T} (h:hasT ts t.nm=false):findT (ts++[formT t]) t.nm=some (formT t):=by
 have h1:=aDu h;unfold findT at h1 ⊢;rw[List.find?_append,h1];simp[tY]
theorem aBF {ts:List T} {t:T} {x:ByteArray} (h:hasT (ts++[formT t]) x=false):hasT ts x=false/\t.nm≠x:=by
 unfold hasT at h ⊢;rw[List.any_append,Bool.or_eq_false_iff] at h;refine⟨h.1,fun e=>?_⟩;have h2:=h.2;simp only[List.any_cons,List.any_nil,Bool.or_false] at h2;rw[<- e,tY] at h2;cases h2
theorem tZ (h:Few t):Few (formT t):=⟨by unfold formT;simpa using h.1,h.2.1,h.2.2⟩
theorem aFu (h:kindsGood t.cols=true):∀ c∈(formT t).cols,c.kd=1∨c.kd=2:=fun c hc=>by
 unfold formT at hc;obtain⟨c0,hc0,rfl⟩:=List.mem_map.1 hc;obtain⟨j,hj,rfl⟩:=List.getElem_of_mem hc0;unfold kindsGood at h;have h1:=List.all_eq_true.1 h j (List.mem_range.2 hj);unfold kindAt at h1;rw[List.getElem?_eq_getElem hj] at h1;exact of_decide_eq_true h1
theorem aDv (h:mayP ts t=0):hasT ts t.nm=false:=by
 obtain⟨_,h2,_⟩:=gG h;unfold namesGood free at h2;simp only[Bool.and_eq_true,Bool.not_eq_true'] at h2;exact h2.1.2
theorem aIv (h:Dd W d ts st O) (hT:RdT W cv dv t) (hsm:SmQ t) (hno:mayP ts t≠0):Calls Tryz.prog 34 #[.pointer (some ⟨d,0,none⟩),.agg #[.string t.nm,cv,.string t.key,dv]] W fun e w'=>e=.returned (.int .i64 (mayP ts t))/\Dd w' d ts st O/\Tn (fun q=>O q=1) W w':=by
 obtain⟨pc,kc,rfl,_,_⟩:=hT.1.slice;obtain⟨pd,kd,rfl,_,_⟩:=hT.2.slice;obtain⟨nc,hnc⟩:∃ n,t.cols.length=n:=⟨_,rfl⟩;obtain⟨nd,hnd⟩:∃ n,t.deps.length=n:=⟨_,rfl⟩;obtain⟨nm,hnm⟩:∃ n,t.nm=n:=⟨_,rfl⟩;obtain⟨key,hkey⟩:∃ n,t.key=n:=⟨_,rfl⟩;have hbl:=aD W (.cells #[.string nm,.slice pc nc kc,.string key,.slice pd nd kd] 77);have hV:=heap_alloc_new W (.cells #[.string nm,.slice pc nc kc,.string key,.slice pd nd kd] 77);have hT1:=hT.kp (Tn.of_below (S:=fun _=>False) hbl).kpX;have h1:=h.later hbl;obtain⟨w1,hw1⟩:∃ w1,W.alloc (.cells #[.string nm,.slice pc nc kc,.string key,.slice pd nd kd] 77)=w1:=⟨_,rfl⟩;obtain⟨V,hVe⟩:∃ V,W.heap.size=V:=⟨_,rfl⟩;rw[hw1] at hbl hV hT1 h1;rw[hVe] at hV;obtain⟨r,hr⟩:∃ r,mayP ts t=r:=⟨_,rfl⟩
 have hadd:∀ w,Below w1.heap.size w1 w->Calls Tryz.prog 66 #[.pointer (some ⟨d,0,none⟩),.agg #[.string nm,.slice pc nc kc,.string key,.slice pd nd kd]] w fun e w'=>e=.returned (.int .i64 r)/\Dd w' d ts st O/\Tn (fun b=>b=d) w w':=fun w hw=>by
  have h2:=h1.later hw;obtain⟨mv,f,n,k1,k2,k3,k4,k5⟩:=h2.own
  have:=tX (hT1.kp (Tn.of_below (S:=fun _=>False) hw).kpX) k1 hsm
  rw[hnm,hkey,hnc,hnd,hr] at this;refine this.mono ?_;rintro e w' ⟨rfl,hS,hC⟩;have hS:Sch mv w' d ts:=by unfold addT at hS;rw[if_neg hno] at hS;exact hS
  have htn:Tn (fun q=>q=d) w w':=Tn.of_chg hC (fun q _ hq=>by
   obtain⟨_,xs,rest,e1,_⟩:=k1;exact .inl (by rw[hq];exact⟨_,122,e1,rfl⟩))
  refine⟨rfl,?_,htn⟩;refine⟨⟨mv,f,n,hS,k2.of (fun b hb=>htn.chg.block b (k2.lt b hb) (fun e=>?_)),k3,k4,k5⟩,h2.len,h2.nd,h2.od,fun j a c=>?_,fun q hq=>Nat.lt_of_lt_of_le (h2.lt q hq) htn.size⟩
  ·have e:b=d:=e;subst e;rcases k2 with ⟨rfl,_⟩ | ⟨b',rfl,hb'⟩
   ·cases hb
   cases hb;obtain⟨es,ck,e1⟩:=hb'.isMap;obtain⟨_,xs,rest,e2,_⟩:=k1;rw[e1] at e2;cases e2
  obtain⟨lab,q1,q2⟩:=h2.tab j a c;exact⟨lab,q1.tn htn (fun q hq=>Classical.byContradiction fun hn=>by have:=q2 q hn;rw[hq,h2.od] at this;omega),q2⟩
 have hdl:=h1.lt d (by rw[h1.od];decide);have HA:=qAq hadd;have HV:=qAq (qBq hV (qBq hbl hdl));have HW:=qAq (qBq hw1 hVe);have hod:=h.od;have hr0:¬ r=0:=(by rw[<- hr];exact hno);have hbW:Below W.heap.size W w1:=hbl;rw[hr,hnm,hkey,hnc,hnd];clear h h1 hT hT1 hsm hV hbl hadd hno hw1 hVe hr hnm hkey hnc hnd hdl;go_enter Tryz.func34,Tryz.ntmps34;go_upto_region 1 with fail;rw[HW.out.1,HW.out.2];refine Par.wp_region_par 3 [.pointer (some ⟨d,0,none⟩),.pointer (some ⟨d,0,none⟩),.agg #[.string nm,.slice pc nc kc,.string key,.slice pd nd kd]] (fun w=>Below w1.heap.size w1 w) ?A1 ?hm1 ?hB1 ?hA1 ((aF w1)) ?hop1 ?hT1
 case hm1=>kernel_rfl
 case hB1=>kernel_rfl
 case hA1 =>
  simp only[Par.putA,Par.dstAt,Act.put,qDq,qEq,qFq,qLq,qGq,qHq,qIq,qJq,qKq];rfl
 case hop1 =>
  simp only[qMq,List.take_zero,Par.GiveAll,and_true];and_intros<;>intro w' hR<;>have HR:=qAq hR
  rotate_left
  ·clear hR;simp only[Par.Gives];go_simp;exact (bF (Nat.lt_of_lt_of_le HV.out.2.2 HR.out.size)).mono (fun e w'' ⟨he,hb⟩=>⟨he,(hb▸HR.out)⟩)
  have x0:=aA (aE hR HV.out.1) 0;have x1:=aA (aE hR HV.out.1) 1;have x2:=aA (aE hR HV.out.1) 2;have x3:=aA (aE hR HV.out.1) 3;rotate_left
  all_goals(clear hR;simp only[Par.Gives];go_simp;all_goals exact HR.out)
 intro w' hR;simp only[qNq,List.drop_zero];have HR:=qAq hR;have hadd:=HA.out w' hR;clear hR;have hr0':(r==0)=false:=(by simpa using hr0);go_wp2_with (go_at_call 66;(with_reducible refine hadd.mono ?_);rintro e w4 ⟨rfl,hD,hC⟩;have H4:=qAq (qBq hD hC);clear hadd hD hC);go_ret;exact⟨rfl,H4.out.1,(Tn.of_below (S:=fun q=>O q=1) (aB hbW HR.out)).trans H4.out.2 (fun _ _ h=>h) (fun q _ hq=>by have e:q=d:=hq;rw[e];exact hod)⟩
theorem aDw (h:Dd W d ts st O) (hT:RdT W cv dv t) (hsm:SmQ t) (hyes:mayP ts t=0) (hfew:AllFew ts):Calls Tryz.prog 34 #[.pointer (some ⟨d,0,none⟩),.agg #[.string t.nm,cv,.string t.key,dv]] W fun e w'=>e=.returned (.int .i64 0)/\∃ tb O',Dd w' d (ts++[formT t]) (st++[(tb,0,[])]) O'/\Ext W O O'/\Tn (fun q=>O q=1) W w':=by
 obtain⟨pc,kc,rfl,_,_⟩:=hT.1.slice;obtain⟨pd,kd,rfl,_,_⟩:=hT.2.slice;obtain⟨nc,hnc⟩:∃ n,t.cols.length=n:=⟨_,rfl⟩;obtain⟨nd,hnd⟩:∃ n,t.deps.length=n:=⟨_,rfl⟩;obtain⟨nm,hnm⟩:∃ n,t.nm=n:=⟨_,rfl⟩;obtain⟨key,hkey⟩:∃ n,t.key=n:=⟨_,rfl⟩;have hfr:=aDv hyes;rw[hnm] at hfr;have hbl:=aD W (.cells #[.string nm,.slice pc nc kc,.string key,.slice pd nd kd] 77);have hV:=heap_alloc_new W (.cells #[.string nm,.slice pc nc kc,.string key,.slice pd nd kd] 77);have hT1:=hT.kp (Tn.of_below (S:=fun _=>False) hbl).kpX;have h1:=h.later hbl;obtain⟨w1,hw1⟩:∃ w1,W.alloc (.cells #[.string nm,.slice pc nc kc,.string key,.slice pd nd kd] 77)=w1:=⟨_,rfl⟩;obtain⟨V,hVe⟩:∃ V,W.heap.size=V:=⟨_,rfl⟩;rw[hw1] at hbl hV hT1 h1;rw[hVe] at hV
 have h8:ts.length<=8:=by
  obtain⟨mv,f,n,k1,_⟩:=h.own;exact k1.1
 have hadd:∀ w,Below w1.heap.size w1 w->Calls Tryz.prog 66 #[.pointer (some ⟨d,0,none⟩),.agg #[.string nm,.slice pc nc kc,.string key,.slice pd nd kd]] w fun e w'=>e=.returned (.int .i64 0)/\Tn (fun b=>b=d) w w'/\∃ mv f n,Sch mv w' d (ts++[formT t])/\PmS w' mv f n ts.length/\(∀ j (h:j<ts.length) (h':j<st.length),f ts[j].nm=some st[j].1)/\(∀ x,hasT ts x=false->f x=none)/\∀ b,mblk mv=some b->O b=1:=fun w hw=>by
  have h2:=h1.later hw;obtain⟨mv,f,n,k1,k2,k3,k4,k5⟩:=h2.own
  have:=tX (hT1.kp (Tn.of_below (S:=fun _=>False) hw).kpX) k1 hsm
  rw[hnm,hkey,hnc,hnd,hyes] at this;refine this.mono ?_;rintro e w' ⟨rfl,hS,hC⟩;have hS:Sch mv w' d (ts++[formT t]):=by unfold addT at hS;rw[if_pos hyes] at hS;exact hS
  have htn:Tn (fun q=>q=d) w w':=Tn.of_chg hC (fun q _ hq=>by
   obtain⟨_,xs,rest,e1,_⟩:=k1;exact .inl (by rw[hq];exact⟨_,122,e1,rfl⟩))
  refine⟨rfl,htn,mv,f,n,hS,k2.of (fun b hb=>htn.chg.block b (k2.lt b hb) (fun e=>?_)),k3,k4,k5⟩;have e:b=d:=e;subst e;rcases k2 with ⟨rfl,_⟩ | ⟨b',rfl,hb'⟩
  ·cases hb
  cases hb;obtain⟨es,ck,e1⟩:=hb'.isMap;obtain⟨_,xs,rest,e2,_⟩:=k1;rw[e1] at e2;cases e2
 have hdl:=h1.lt d (by rw[h1.od];decide);have hnms:nm.size<=maxLen:=(by rw[<- hnm];exact hsm.1);have hfo:=xR (ts:=ts) (t:=t) (by rw[hnm];exact hfr)
 have hht:hasT (ts++[formT t]) nm=true:=by
  rw[dK,<- hnm,hfo];rfl
 rw[hnm] at hfo
 have hff:AllFew (ts++[formT t]):=fun u hu=>by
  rcases List.mem_append.1 hu with h|h
  ·exact hfew u h
  rw[List.mem_singleton.1 h];exact tZ (aDi hyes)
 have hkd:=aFu (gG hyes).2.2.1;have hdV:d≠V:=(by have:=h.lt d (by rw[h.od];decide);omega);have HA:=qAq hadd;have HV:=qAq (qBq hV (qBq hbl (qBq hdl hdV)));have HW:=qAq (qBq hw1 hVe);have HD:=qAq (qBq h (qBq hfr (qBq hfo (qBq hht (qBq hff (qBq hkd (qBq hnm (qBq h8 hnms))))))));rw[hnm,hkey,hnc,hnd];clear h h1 hT hT1 hsm hV hbl hadd hyes hw1 hVe hnm hkey hnc hnd hdl hfr hfo hht hff hkd hdV h8 hfew;go_enter Tryz.func34,Tryz.ntmps34;go_upto_region 1 with fail;rw[HW.out.1,HW.out.2];refine Par.wp_region_par 3 [.pointer (some ⟨d,0,none⟩),.pointer (some ⟨d,0,none⟩),.agg #[.string nm,.slice pc nc kc,.string key,.slice pd nd kd]] (fun w=>Below w1.heap.size w1 w) ?A2 ?hm2 ?hB2 ?hA2 ((aF w1)) ?hop2 ?hT2
 case hm2=>kernel_rfl
 case hB2=>kernel_rfl
 case hA2 =>
  simp only[Par.putA,Par.dstAt,Act.put,qDq,qEq,qFq,qLq,qGq,qHq,qIq,qJq,qKq];rfl
 case hop2 =>
  simp only[qMq,List.take_zero,Par.GiveAll,and_true];and_intros<;>intro w' hR<;>have HR:=qAq hR
  rotate_left
  ·clear hR;simp only[Par.Gives];go_simp;exact (bF (Nat.lt_of_lt_of_le HV.out.2.2.1 HR.out.size)).mono (fun e w'' ⟨he,hb⟩=>⟨he,(hb▸HR.out)⟩)
  have x0:=aA (aE hR HV.out.1) 0;have x1:=aA (aE hR HV.out.1) 1;have x2:=aA (aE hR HV.out.1) 2;have x3:=aA (aE hR HV.out.1) 3;rotate_left
  all_goals(clear hR;simp only[Par.Gives];go_simp;all_goals exact HR.out)
 intro w' hR;simp only[qNq,List.drop_zero];have HR:=qAq hR;have hadd:=HA.out w' hR;clear hR;go_upto_region 3 with (go_at_call 66;(with_reducible refine hadd.mono ?_);rintro e w4 ⟨rfl,hC,hD⟩;have H4:=qAq (qBq hC hD);clear hadd hC hD);obtain⟨hC,mv,f,n,k1,k2,k3,k4,k5⟩:=H4.out;have hV4:w4.heap[V]?=some (.cells #[.string nm,.slice pc nc kc,.string key,.slice pd nd kd] 77):=(hC.chg.block V (aC (aE HR.out HV.out.1)) (fun e=>HV.out.2.2.2 e.symm)).trans (aE HR.out HV.out.1);have v0:=aA hV4 0;have vl:=aC hV4;have htab:=xP k1 k2 HD.out.2.2.2.2.2.2.2.2 (k4 nm HD.out.2.1) HD.out.2.2.2.1 HD.out.2.2.2.2.1 (by rw[HD.out.2.2.1];exact HD.out.2.2.2.2.2.1) (by have:=HD.out.2.2.2.2.2.2.2.1;omega);have HK:=qAq (qBq hC (qBq k2 (qBq k3 (qBq k4 k5))));clear hC k1 k2 k3 k4 k5 hV4;go_wp2_with (go_at_call 29;(with_reducible refine htab.mono ?_);rintro e w5 ⟨tb,b,lab,rfl,hN⟩;have HN:=qAq hN;clear htab hN);go_ret;obtain⟨q1,q2,q3,q4,q5,q6⟩:=HN.out;obtain⟨hC,k2,k3,k4,k5⟩:=HK.out;obtain⟨h,hfr,hfo,hht,hff,hkd,hnm,h8,hnms⟩:=HD.out;rw[hfo] at q3;have q3:Tb w5 tb (formT t) 0 [] lab:=q3;have hbW:Below W.heap.size W w':=aB HV.out.2.1 HR.out;have htn1:Tn (fun q=>O q=1) W w4:=(Tn.of_below (S:=fun q=>O q=1) hbW).trans hC (fun _ _ h=>h) (fun q _ hq=>by have e:q=d:=hq;show O q=1;rw[e];exact h.od);have hz4:W.heap.size<=w4.heap.size:=htn1.size
 have htn:Tn (fun q=>O q=1) W w5:=htn1.trans q6 (fun _ _ h=>h) (fun q _ hq=>by
  rcases hq with hq|hq
  ·show O q=1;rw[hq];exact h.od
  exact k5 q hq)
 have hE:∀ q,q<W.heap.size->(if q<W.heap.size then O q else if q=b then 1 else if lab q≠0 then ts.length+2 else 0)=O q:=(fun q hq=>if_pos hq);have hlen:=h.len;refine⟨rfl,tb,fun q=>if q<W.heap.size then O q else if q=b then 1 else if lab q≠0 then ts.length+2 else 0,⟨⟨.map (some b),_,_,q1,.inr ⟨b,rfl,by rw[List.length_append];exact q2⟩,fun j hj hj'=>?_,fun x hx=>?_,fun b' hb'=>?_⟩,by simp[hlen],fun j k hj hk e=>?_,(hE d (h.lt d (by rw[h.od];decide))).trans h.od,fun j hj hj'=>?_,fun q hq=>?_⟩,hE,htn⟩
 ·unfold upS;by_cases e:j<ts.length
  ·rw[List.getElem_append_left e,List.getElem_append_left (by rw[hlen];exact e),if_neg (lU hfr e)];exact k3 j e (by rw[hlen];exact e)
  have e2:j=ts.length:=(by simp at hj;omega);subst e2;have e3:(ts++[formT t])[ts.length]'hj=formT t:=(by simp);have e4:(st++[((tb,0,[]):DT)])[ts.length]'hj'=(tb,0,[]):=(by simp[<- hlen]);rw[e3,e4,if_pos (show (formT t).nm=nm from hnm)]
 ·obtain⟨h1,h2⟩:=aBF hx;unfold upS;rw[if_neg (fun e=>h2 (hnm.trans e.symm))];exact k4 x h1
 ·cases hb';show (if b<W.heap.size then O b else if b=b then 1 else _)=1;rcases q5 with h1|h1
  ·by_cases hlt:b<W.heap.size
   ·rw[if_pos hlt];exact k5 b h1
   rw[if_neg hlt,if_pos rfl]
  rw[if_neg (by omega),if_pos rfl]
 ·by_cases ej:j<ts.length <;> by_cases ek:k<ts.length
  ·rw[List.getElem_append_left ej,List.getElem_append_left ek] at e;exact h.nd j k ej ek e
  ·have e2:k=ts.length:=(by simp at hk;omega);subst e2;rw[List.getElem_append_left ej] at e;have e3:(ts++[formT t])[ts.length]'hk=formT t:=(by simp);rw[e3] at e;exact absurd (e.trans hnm) (lU hfr ej)
  ·have e2:j=ts.length:=(by simp at hj;omega);subst e2;rw[List.getElem_append_left ek] at e;have e3:(ts++[formT t])[ts.length]'hj=formT t:=(by simp);rw[e3] at e;exact absurd (e.symm.trans hnm) (lU hfr ek)
  simp at hj hk;omega
 ·by_cases e:j<ts.length
  ·have e1:(ts++[formT t])[j]'hj=ts[j]:=List.getElem_append_left e;have es:j<st.length:=(by rw[hlen];exact e);have e2:(st++[((tb,0,[]):DT)])[j]'hj'=st[j]:=List.getElem_append_left es;rw[e1,e2];obtain⟨lm,m1,m2⟩:=h.tab j e es;exact⟨lm,m1.tn htn (fun q hq=>Classical.byContradiction fun hn=>by have h1:=m2 q hn;have h2:O q=1:=hq;omega),fun q hq=>(hE q (m1.lt q hq)).trans (m2 q hq)⟩
  have e0:j=ts.length:=(by simp at hj;omega);subst e0;have e3:(ts++[formT t])[ts.length]'hj=formT t:=(by simp);have e4:(st++[((tb,0,[]):DT)])[ts.length]'hj'=(tb,0,[]):=(by simp[<- hlen]);rw[e3,e4];refine⟨lab,q3,fun q hq=>?_⟩;obtain⟨h1,h2⟩:=q4 q hq;show (if q<W.heap.size then O q else if q=b then 1 else if lab q≠0 then ts.length+2 else 0)=ts.length+2;rw[if_neg (by omega),if_neg h2,if_pos hq]
 have hq:(if q<W.heap.size then O q else if q=b then 1 else if lab q≠0 then ts.length+2 else 0)≠0:=hq;by_cases hlt:q<W.heap.size
 ·have:=htn.size;omega
 rw[if_neg hlt] at hq;by_cases e:q=b
 ·rw[e];exact q2.lt
 rw[if_neg e] at hq;by_cases hl:lab q≠0
 ·exact q3.lt q hl
 rw[if_neg hl] at hq;exact absurd rfl hq
end
theorem aBG {dv pv v mv:Value} {ts:List T} {x:ByteArray} {p:List ByteArray} {id:Int} {W:World} (hd:∀ w,Below W.heap.size W w->Calls Tryz.prog 43 #[dv] w fun e w'=>e=.returned pv/\w'=w) (h:SchP mv W pv ts) (hp:Wd W v p) (hno:(pcolL ts x p).2.2≠0) :
  Calls Tryz.prog 99 #[dv,.string x,.int .i64 id,v] W fun e w'=>e=.returned (.tuple #[(Value.agg #[Value.int .i64 (0),Value.int .i64 (0),Value.string (e0)]),.bool false])/\Below W.heap.size W w':=by
 have hb1:=aD W (.cells #[.int .i64 0,.int .i64 0,.string e0] 32);have k1:=heap_alloc_new W (.cells #[.int .i64 0,.int .i64 0,.string e0] 32);obtain⟨w1,hw1⟩:∃ w1,W.alloc (.cells #[.int .i64 0,.int .i64 0,.string e0] 32)=w1:=⟨_,rfl⟩;obtain⟨B,hB⟩:∃ B,W.heap.size=B:=⟨_,rfl⟩;rw[hw1] at hb1 k1;have hs:=hd w1 hb1;have hc:=lI (tb:=x) (h.later hb1) (hp.later hb1);obtain⟨err,herr⟩:∃ e,(pcolL ts x p).2.2=e:=⟨_,rfl⟩;obtain⟨s2,hs2⟩:∃ e,(pcolL ts x p).2.1=e:=⟨_,rfl⟩;obtain⟨cc,hcc⟩:∃ e,(pcolL ts x p).1=e:=⟨_,rfl⟩;rw[herr] at hc hno;rw[hs2,hcc] at hc;obtain⟨nm,kd,mu,tg⟩:=cc;rw[show colVQ ⟨nm,kd,mu,tg⟩=.agg #[.string nm,.int .i64 kd,.bool mu,.string tg] from rfl] at hc;rw[hB] at k1;have HW:=qAq (qBq hw1 (qBq hB (qBq hb1 k1)));clear hw1 hB hb1 k1 hd h hp herr hs2;go_enter Tryz.func99,Tryz.ntmps99;go_upto_region 1 with fail;rw[HW.out.1,HW.out.2.1]
 go_wp2_with (first
  | (go_at_call 43;(with_reducible refine hs.mono ?_);rintro e w2 ⟨rfl,hw⟩;subst w2;clear hs)
  | (go_at_call 131;(with_reducible refine hc.mono ?_);rintro e w3 ⟨rfl,hb3⟩;have hb4:=aD w3 (.cells #[.string nm,.int .i64 kd,.bool mu,.string tg] 95);have hres:=aE hb4 (aE hb3 HW.out.2.2.2);have z0:=aA hres 0;have z1:=aA hres 1;have z2:=aA hres 2;have zf:=fun i=>frozen_of_row (w3.alloc (.cells #[.string nm,.int .i64 kd,.bool mu,.string tg] 95)) B i _ _ hres;have zl:=aC hres;have H3:=qAq (qBq (aB (aB HW.out.2.2.1 hb3) hb4) hres);clear hc hb3 hb4 hres))
 have hS3:=jT H3.out.2 (.int .i64 0) (.int .i64 0) (.string e0);have hBx:=bL H3.out.1 (Nat.le_of_eq HW.out.2.1) (.int .i64 0) (.int .i64 0) (.string e0);generalize ((World.setCell _ _ _).setCell _ _).setCell _ _=wz at hS3 hBx ⊢;have y0:=aA hS3 0;have y1:=aA hS3 1;have y2:=aA hS3 2;refine bodyPost_ret (v:=.tuple #[(Value.agg #[Value.int .i64 (0),Value.int .i64 (0),Value.string (e0)]),.bool false]) (by simp[results,Tryz.results99,go_sem,y0,y1,y2]) rfl ?_;exact⟨rfl,hBx⟩
theorem aAf {w:World} {a b:Nat} {x y u v:Value} {t1 t2:TypeId} (h1:w.heap[a]?=some (.cells #[x] t1)) (h2:w.heap[b]?=some (.cells #[y] t2)) (hne:a≠b) :
  ((w.setCell ⟨a,0,none⟩ u).setCell ⟨b,0,none⟩ v).cell? ⟨a,0,none⟩=some u/\((w.setCell ⟨a,0,none⟩ u).setCell ⟨b,0,none⟩ v).cell? ⟨b,0,none⟩=some v:=by
 have k1:=heap_setCell_same w a 0 #[x] t1 u h1;have k2:(w.setCell ⟨a,0,none⟩ u).heap[b]?=some (.cells #[y] t2):=(heap_setCell_other w ⟨a,0,none⟩ b u (fun e=>hne e.symm)).trans h2;have k3:=heap_setCell_same (w.setCell ⟨a,0,none⟩ u) b 0 #[y] t2 v k2;have k4:((w.setCell ⟨a,0,none⟩ u).setCell ⟨b,0,none⟩ v).heap[a]?=_:=(heap_setCell_other (w.setCell ⟨a,0,none⟩ u) ⟨b,0,none⟩ a v hne).trans k1;exact⟨aA k4 0,aA k3 0⟩
theorem kH {dv pv mv:Value} {ts:List T} {x:ByteArray} {u:T3} {W:World} (hd:∀ w,Below W.heap.size W w->Calls Tryz.prog 43 #[dv] w fun e w'=>e=.returned pv/\w'=w) (h:SchP mv W pv ts) (hfew:AllFew ts) (hno:(orT (findT ts x)).key=e0∨u.1=0) :
  Calls Tryz.prog 100 #[dv,.string x,.agg #[.int .i64 (u.1),.int .i64 (u.2.1),.string (u.2.2)]] W fun e w'=>e=.returned (.tuple #[(Value.int .i64 (0)),.bool false])/\Below W.heap.size W w':=by
 have hb0:=aD W (.cells #[.int .i64 u.1,.int .i64 u.2.1,.string u.2.2] 32);have k0:=heap_alloc_new W (.cells #[.int .i64 u.1,.int .i64 u.2.1,.string u.2.2] 32);have hb1:=aD (W.alloc (.cells #[.int .i64 u.1,.int .i64 u.2.1,.string u.2.2] 32)) (.cells #[.int .i64 0] 3);have k1:=heap_alloc_new (W.alloc (.cells #[.int .i64 u.1,.int .i64 u.2.1,.string u.2.2] 32)) (.cells #[.int .i64 0] 3);have hb2:=aD ((W.alloc (.cells #[.int .i64 u.1,.int .i64 u.2.1,.string u.2.2] 32)).alloc (.cells #[.int .i64 0] 3)) (.cells #[.bool false] 4);have k2:=heap_alloc_new ((W.alloc (.cells #[.int .i64 u.1,.int .i64 u.2.1,.string u.2.2] 32)).alloc (.cells #[.int .i64 0] 3)) (.cells #[.bool false] 4);have k0:=aE hb2 (aE hb1 k0);have k1:=aE hb2 k1;have hb2:=aB (aB hb0 hb1) hb2;obtain⟨w1,hw1⟩:∃ w1,((W.alloc (.cells #[.int .i64 u.1,.int .i64 u.2.1,.string u.2.2] 32)).alloc (.cells #[.int .i64 0] 3)).alloc (.cells #[.bool false] 4)=w1:=⟨_,rfl⟩;obtain⟨B,hB⟩:∃ B,W.heap.size=B:=⟨_,rfl⟩;simp only[World.size_alloc] at k1 k2;rw[hw1] at hb2 k0 k1 k2;rw[hB] at k0 k1 k2;have hs:=hd w1 hb2;have hfi:=eP (x:=x) (h.later hb2) hfew;generalize orT (findT ts x)=t at hfi hno;generalize hasT ts x=ok at hfi;have HW:=qAq (qBq hw1 (qBq hB (qBq hb2 (qBq k0 (qBq k1 k2)))));clear hw1 hB hb0 hb1 hb2 k0 k1 k2 hd h hfew;have hc:∃ b:Bool,b=decide (t.key=e0):=⟨_,rfl⟩;go_enter Tryz.func100,Tryz.ntmps100;go_upto_region 1 with fail;rw[HW.out.1,HW.out.2.1]
 go_upto_region 2 with (first
  | (go_at_call 43;(with_reducible refine hs.mono ?_);rintro e w2 ⟨rfl,hw⟩;subst w2;clear hs)
  | (go_at_call 45;(with_reducible refine hfi.mono ?_);rintro e w3 ⟨p1,n1,c1,p2,n2,c2,rfl,_,hb3⟩;have hb4:=aD w3 (.cells #[.string t.nm,.slice p1 n1 c1,.string t.key,.slice p2 n2 c2] 77);have ka:=heap_alloc_new w3 (.cells #[.string t.nm,.slice p1 n1 c1,.string t.key,.slice p2 n2 c2] 77);have H3:=qAq (qBq (aB HW.out.2.2.1 (aB hb3 hb4)) (qBq (aE hb4 (aE hb3 HW.out.2.2.2.1)) (qBq (aE hb4 (aE hb3 HW.out.2.2.2.2.1)) (qBq (aE hb4 (aE hb3 HW.out.2.2.2.2.2)) ka))));clear hfi hb3 hb4 ka))
 generalize w3.alloc _=w4 at H3 ⊢;obtain⟨m0,m1,m2,m3,m4⟩:=H3.out;have z2:=aA m4 2;have v0:=aA m1 0;have r0:=aA m2 0;have r1:=aA m3 0;have f0:=(fun i=>frozen_of_row w4 (B+1) i _ _ m2);have f1:=(fun i=>frozen_of_row w4 (B+1+1) i _ _ m3);have l0:=aC m2;have l1:=aC m3;have l2:=aC m4;have l3:=aC m1;have hst:=aAf (u:=.int .i64 0) (v:=.bool false) m2 m3 (by omega);have hBx:Below B W ((w4.setCell ⟨B+1,0,none⟩ (.int .i64 0)).setCell ⟨B+1+1,0,none⟩ (.bool false)):=((HW.out.2.1▸m0).setCell (p:=⟨B+1,0,none⟩) (by show B<=B+1;omega) _).setCell (p:=⟨B+1+1,0,none⟩) (by show B<=B+1+1;omega) _;have HE:=qAq (qBq hst hBx);clear m0 m1 m2 m3 m4 hst hBx;by_cases hk:t.key=e0
 ·go_upto_region 3 with fail
  all_goals (go_wp2_with fail)
  all_goals
   obtain⟨⟨y0,y1⟩,hBx⟩:=HE.out;refine bodyPost_ret (v:=.tuple #[.int .i64 0,.bool false]) (by simp[results,Tryz.results100,go_sem,y0,y1]) rfl ?_;exact⟨rfl,HW.out.2.1▸hBx⟩
 obtain hu:u.1=0:=hno.resolve_left hk;go_upto_region 3 with fail
 all_goals (go_wp2_with fail)
 all_goals
  obtain⟨⟨y0,y1⟩,hBx⟩:=HE.out;refine bodyPost_ret (v:=.tuple #[.int .i64 0,.bool false]) (by simp[results,Tryz.results100,go_sem,y0,y1]) rfl ?_;exact⟨rfl,HW.out.2.1▸hBx⟩
def cutT (x:T3):T3:=(x.1,x.2.1,cutB 20 x.2.2)
def cutR (N:Nat) (xs:List T3):List T3:=(xs.map cutT).take N
theorem aDx (N:Nat) (xs:List T3):(cutR N xs).length<=N:=by simp[cutR];omega
theorem aBH (xs:List T3) (k:Nat) (h:k<xs.length):cells3 ((xs.map cutT).take (k+1))=cells3 ((xs.map cutT).take k)++[.int .i64 xs[k].1,.int .i64 xs[k].2.1,.string (cutB 20 xs[k].2.2)]:=by
 rw[List.take_succ_eq_append_getElem (by simpa using h),gT];simp[cells3,cutT]
theorem aDy {S:Nat->Prop} {v:Value} {xs:List T3} {W:World} {N:Nat} (hN:N<=1000) (h:InV S W v xs) (hs:∀ x∈xs,x.2.2.size<=maxLen) :
  Calls Tryz.prog 56 #[v,.int .i64 (N:Int)] W fun e w'=>∃ v',e=.returned v'/\HRow w' W.heap.size 32 3 v' (cutR N xs).length (cells3 (cutR N xs))/\Below W.heap.size W w':=by
 obtain⟨p,c,rfl,_,hm⟩:=h.slice;obtain⟨n,hn⟩:∃ n,xs.length=n:=⟨_,rfl⟩;have hn':(n:Int)<=9223372036854775807:=(by unfold maxLen at hm;omega);have HN:=qAq hn;have HI:=qAq h;have HS:=qAq hs;rw[hn];clear h hs hm hn;go_enter Tryz.func56,Tryz.ntmps56;go_wp2_with fail;go_loopg [5,6] (N+1) (fun gh tv iv w=>∃ (k:Nat),k<=n/\k<=N/\N+1<=k+gh/\iv=.int .i64 (k:Int)/\HRow w W.heap.size 32 3 tv k (cells3 ((xs.map cutT).take k))/\Below W.heap.size W w)
 case atStart=>exact⟨0,Nat.zero_le _,Nat.zero_le _,by omega,rfl,HRow.nil,Below.refl _ _⟩
 obtain⟨k,hk,hk6,hg,rfl,hr,hB⟩:=hrel;obtain⟨pt,ct,rfl,_,_⟩:=hr.isslice;by_cases hlt:k<n/\k<N
 ·obtain⟨h1,h2⟩:=hlt;have hkl:k<xs.length:=(by rw[HN.out];exact h1);have hd6:(k:Int)<(N:Int):=(by omega);have hdn:(k:Int)<(n:Int):=(by omega);obtain⟨b1,o1,rfl,hb1,y0,y1,y2⟩:=(HI.out.later hB).val hkl;have hsn:=aBH xs k hkl;have hsz:=HS.out _ (List.getElem_mem hkl);obtain⟨u,hu⟩:∃ u,xs[k]=u:=⟨_,rfl⟩;rw[hu] at y0 y1 y2 hsn hsz;have hval:=aGy u.1 u.2.1 u.2.2 wr hsz;have hap:=(fun y (hy:Below wr.heap.size wr y)=>Co.S.app_one y W.heap.size (hr.later hy) (by omega) (Nat.le_trans hB.size hy.size) u.1 u.2.1 (cutB 20 u.2.2));have HB:=qAq (qBq hB (qBq hsn hr));clear hB hsn hsz hu hr
  go_wp2_with (first
   | (go_at_call 92;(with_reducible refine hval.mono ?_);rintro e w2 ⟨rfl,hb2⟩;obtain⟨g,cap,w3,hrun,r3,g3,o3⟩:=hap w2 hb2;have H3:=qAq (qBq r3 (qBq g3 hb2));clear hval hap r3 g3 o3 hb2)
   | (at_builtin;refine aK rfl (.tmp 18) (.tmp 24) 27 rfl rfl rfl hrun ?_))
  go_roundg (N-k)
  case measure=>omega
  obtain⟨hB,hsn,hr⟩:=HB.out;obtain⟨r3,g3,hb2⟩:=H3.out;refine⟨k+1,by omega,by omega,by omega,rfl,by rw[hsn];exact r3,?_⟩;have hB2:=hB.trans (hb2.mono hB.size);refine hB2.trans ⟨g3.os,g3.tape,g3.output,Nat.le_trans (aD w2 _).size g3.size,fun q hq=>?_⟩;have hlt2:q<w2.heap.size:=Nat.lt_of_lt_of_le hq hB2.size;rw[g3.block q (by rw[World.size_alloc];omega) (fun e=>by have:=(HRow.lt hr q e.symm).1;omega)];exact (aD w2 _).block q hlt2
 have hex:¬ k<n∨(k<n/\¬ k<N):=(by omega);have HR:=qAq (qBq hr hB)
 have he:cutR N xs=(xs.map cutT).take k:=by
  unfold cutR;rcases hex with he|⟨_,he⟩
  ·rw[List.take_of_length_le (l:=xs.map cutT) (i:=k) (by rw[List.length_map,HN.out];omega),List.take_of_length_le (by rw[List.length_map,HN.out];omega)]
  obtain rfl:k=N:=(by omega);rfl
 have hl:(cutR N xs).length=k:=(by rw[he,List.length_take,List.length_map,HN.out];omega);have HE:=qAq (qBq he hl);clear hlt hr hB he hl;rcases hex with hex|⟨hex,hex'⟩
 all_goals
  go_wp2_with fail;go_ret;exact⟨_,rfl,by rw[HE.out.2,HE.out.1];exact HR.out.1,HR.out.2⟩
