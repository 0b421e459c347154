import Derived.Test.YtjepplacnaoomaaGreatZw21
set_option maxHeartbeats 2000000
set_option maxRecDepth 100000
namespace Go.Proofs.YtjepplacnaoomaaGreat
open Go Go.RowKit Go.Proofs Co Co.S
def colV (c:C):Value:=.agg #[.string c.nm,.int .i64 c.kd,.bool c.mu,.string c.tgt]
section
variable {W W':World} {tb next:Nat} {t:T} {i:In} {lab:Nat->Nat}
theorem tat_any (h:TbM W tb t next i lab) {x:Int} (hx:F64 x):Calls Tryz.prog 84 #[(Value.pointer (some ⟨tb,0,none⟩)),.int .i64 x] W fun e w'=>e=.returned (.tuple #[.int .i64 (((i.f x).getD 0:Nat):Int),.bool (i.f x).isSome])/\w'=W:=by
 have hl:=h.place.look hx;obtain⟨_,_,_,_,_,c5,_⟩:=h.cells;have zl:=h.tlt;generalize (((i.f x).getD 0:Nat):Int)=p at hl ⊢;generalize (i.f x).isSome=ok at hl ⊢;generalize i.pv=pv at c5 hl;clear h hx;go_enter Tryz.func84,Tryz.ntmps84;go_wp2_with (at_lookup;refine wpList_look rfl (.tmp 14) (.tmp 15) 131 true rfl rfl rfl hl ?_);go_ret2;exact⟨rfl,rfl⟩
theorem colfn_any {c:C} {x:ByteArray} {b:Nat} {w:World} (h:w.cell? ⟨b,0,none⟩=some (.string x)):Calls Tryz.prog 119 #[colV c,(Value.pointer (some ⟨b,0,none⟩))] w fun e w'=>e=.returned (.bool (isC x c))/\Below w.heap.size w w':=by
 have hlt:b<w.heap.size:=World.block_lt_of_cell? w ⟨b,0,none⟩ h;have hx2:(c.nm.toList==x.toList)=isC x c:=(by rw[eqS_toList];rfl);generalize isC x c=r at hx2 ⊢;unfold colV;go_enter Tryz.func119,Tryz.ntmps119
 go_wp2
 go_ret;exact⟨rfl,below_alloc w _⟩
theorem ixf_any {l:List C} {v:Value} {x:ByteArray} {b:Nat} {W:World} (h:RdC W v l) (hb:W.cell? ⟨b,0,none⟩=some (.string x)):Calls Tryz.prog 118 #[v,.func (.func 119) #[] #[(Value.pointer (some ⟨b,0,none⟩))]] W fun e w'=>e=.returned (.int .i64 (ixC l x))/\Below W.heap.size W w':=by
 obtain⟨pc,cc,hcv,hc,hm⟩:=h.slice;obtain⟨n,hn⟩:∃ n,l.length=n:=⟨_,rfl⟩;unfold maxLen at hm;rw[hn] at hcv hc;subst hcv;have hbl:b<W.heap.size:=World.block_lt_of_cell? W ⟨b,0,none⟩ hb;have HN:=Lib.hid hn;have HW:=Lib.hid (And.intro h (And.intro hb hbl));have hent:=enters_of Tryz.func119 (by kernel_rfl) rfl;clear h hb hn hbl;go_enter Tryz.func118,Tryz.ntmps118;go_wp2_with fail;go_loopg [8] (n+1) (fun gh jv w=>∃ (j:Nat),jv=.int .i64 (j:Int)/\j<=n/\n+1<=j+gh/\(∀ i (h:i<l.length),i<j->isC x l[i]=false)/\Below W.heap.size W w)
 case atStart=>exact⟨0,rfl,Nat.zero_le _,by omega,fun i _ hi=>by omega,Below.refl _ _⟩
 case round =>
  obtain⟨j,rfl,hj,hg,hno,hB⟩:=hrel;have HI:=Lib.hid (And.intro hno hB);by_cases hlt:j<n
  ·have hjl:j<l.length:=(by rw[HN.out];exact hlt);obtain⟨bc,off,rfl,hbc,c0,c1,c2,c3⟩:=RdC.col (HW.out.1.later hB) hjl;have hcell:wr.cell? ⟨b,0,none⟩=some (.string x):=(World.cell?_of_block (w:=W) (hB.block b HW.out.2.2)).trans HW.out.2.1;have hcall:=colfn_any (c:=l[j]) hcell;obtain⟨c,hcj⟩:∃ c,l[j]=c:=⟨_,rfl⟩;rw[hcj] at c0 c1 c2 c3 hcall;have HC:=Lib.hid hcj;have hji:(j:Int)<(n:Int):=(by omega);clear hcj hno hB hcell;unfold colV at hcall;cases hx:isC x c
   ·have HX:=Lib.hid hx;rw[hx] at hcall;clear hx;go_wp2_with (go_at_call 119;(with_reducible refine hcall.mono ?_);rintro e w2 ⟨rfl,hb2⟩);have HB2:=Lib.hid hb2;go_roundg (n-j)
    case measure=>omega
    case rel =>
     refine⟨j+1,by go_num,by omega,by omega,fun i hi hij=>?_,below_on HI.out.2 HB2.out⟩;by_cases e:i=j
     ·subst e;rw[HC.out];exact HX.out
     ·exact HI.out.1 i hi (by omega)
   ·have HX:=Lib.hid hx;rw[hx] at hcall;clear hx;go_wp2_with (go_at_call 119;(with_reducible refine hcall.mono ?_);rintro e w2 ⟨rfl,hb2⟩);go_ret;exact⟨ret_int (ixC_at j (by rw[HN.out];exact hlt) (by rw[HC.out];exact HX.out) (fun i hi=>HI.out.1 i _ hi)).symm,below_on HI.out.2 hb2⟩
  ·go_wp2_with fail;go_ret;exact⟨ret_int (ixC_none (fun i hi=>HI.out.1 i hi (by have:=HN.out;omega))).symm,HI.out.2⟩
theorem tcol_any (h:TbM W tb t next i lab) (x:ByteArray):Calls Tryz.prog 87 #[(Value.pointer (some ⟨tb,0,none⟩)),.string x] W fun e w'=>e=.returned (.tuple #[.int .i64 (ixC t.cols x),.bool (decide (0<=ixC t.cols x))])/\Below W.heap.size W w':=by
 have hb:=below_alloc W (.cells #[.string x] 9);have hk:=nd_cell (heap_alloc_new W (.cells #[.string x] 9)) 0;have h1:=h.later hb;have hcall:=ixf_any (x:=x) h1.form.rd.1 hk;obtain⟨_,c1,_⟩:=h1.cells;have zl:=h1.tlt;have HB:=Lib.hid hb;obtain⟨w1,hw1⟩:∃ w1,W.alloc (.cells #[.string x] 9)=w1:=⟨_,rfl⟩;obtain⟨B,hBB⟩:∃ B,W.heap.size=B:=⟨_,rfl⟩;rw[hw1] at c1 zl hcall HB;rw[hBB] at hcall;generalize ixC t.cols x=z at hcall ⊢;generalize i.fc=fc at c1 hcall;have hz:(z≥0)=(0<=z):=rfl;have HW:=Lib.hid (And.intro hw1 hBB);clear h h1 hb hk hw1 hBB;go_enter Tryz.func87,Tryz.ntmps87;go_upto_region 1 with fail;rw[HW.out.1,HW.out.2];go_wp2_with (go_at_call 118;(with_reducible refine hcall.mono ?_);rintro e w2 ⟨rfl,hb2⟩);go_ret2;exact⟨rfl,below_on HB.out hb2⟩
theorem ttakes_any (h:TbM W tb t next i lab) (j:Nat) (hj:j<t.cols.length) (k n1:Int) (s:ByteArray) (hs:s.size<=maxLen):Calls Tryz.prog 88 #[(Value.pointer (some ⟨tb,0,none⟩)),.int .i64 (j:Int),(Value.agg #[Value.int .i64 (k),Value.int .i64 (n1),Value.string (s)])] W fun e w'=>e=.returned (.bool (inC t.cols[j].kd (k,n1,s)))/\Below W.heap.size W w':=by
 have hb:=below_alloc W (.cells #[.int .i64 k,.int .i64 n1,.string s] 26);have hk:=heap_alloc_new W (.cells #[.int .i64 k,.int .i64 n1,.string s] 26);have h1:=h.later hb;obtain⟨pc,cc,hcv,hc,hm⟩:=h.form.rd.1.slice;obtain⟨n,hn⟩:∃ n,t.cols.length=n:=⟨_,rfl⟩;have hr:=h1.form.rd.1;rw[hcv] at hr;obtain⟨cb,oc,rfl,hbc,_⟩:=RdC.col hr hj;obtain⟨kd,hkd⟩:∃ kd,t.cols[j].kd=kd:=⟨_,rfl⟩;obtain⟨w1,hw1⟩:∃ w1,W.alloc (.cells #[.int .i64 k,.int .i64 n1,.string s] 26)=w1:=⟨_,rfl⟩;obtain⟨B,hBB⟩:∃ B,W.heap.size=B:=⟨_,rfl⟩;rw[hw1] at h1 hk hb hr hbc;rw[hBB] at hk hb;have hst:B<=w1.heap.size:=hBB▸hb.size;rw[hn] at hr hcv hc
 have HX:Hid (∀ w,Below w1.heap.size w1 w->w.cell? ⟨B,0,none⟩=some (.int .i64 k)/\w.cell? ⟨B,1,none⟩=some (.int .i64 n1)/\w.cell? ⟨B,2,none⟩=some (.string s)/\w.cell? ⟨tb,1,none⟩=some (.slice (some ⟨cb,oc,none⟩) n cc)/\w.cell? ⟨cb,oc+j*4+1,none⟩=some (.int .i64 kd)/\w.heap[B]?=some (.cells #[.int .i64 k,.int .i64 n1,.string s] 26)):=Lib.hid (fun w hw=>by
  have hB2:=heap_on hw hk;refine⟨nd_cell hB2 0,nd_cell hB2 1,nd_cell hB2 2,?_,?_,hB2⟩
  ·rw[<- hcv];exact (h1.later hw).cells.2.1
  ·rw[<- hkd];exact (RdC.colAt (hr.later hw) hj).2.2.1)
 have HW:=Lib.hid (And.intro hw1 hBB);have HB:=Lib.hid (show Below W.heap.size W w1 by rw[hBB];exact hb);have HS:=Lib.hid (show W.heap.size<=w1.heap.size by rw[hBB];exact hst);have zn:tb<w1.heap.size:=h1.tlt;have hji:(j:Int)<(n:Int):=(by omega);have hcl:cb<w1.heap.size:=hbc;unfold maxLen at hm;rw[hkd];unfold inC;simp only;clear h h1 hr hk hb hcv hst hw1 hBB hn hkd hbc;generalize hmy:mayV k n1 s.data.toList=may;have HM:=Lib.hid hmy;have hmay:=(fun w=>may_any k n1 s w hs);rw[hmy] at hmay;clear hmy;cases may with
 | false =>
  simp only[Bool.false_and];go_enter Tryz.func88,Tryz.ntmps88;go_upto_region 1 with fail;rw[HW.out.1,HW.out.2];refine Par.wp_region_par 21 [.agg #[.int .i64 k,.int .i64 n1,.string s],.bool false,.bool false,undef,undef,undef,undef,undef,undef,undef,undef,undef,undef,undef,undef,undef,undef,undef,undef,undef,.bool false] (fun w=>Below w1.heap.size w1 w) ?A1 ?hm1 ?hB1 ?hA1 ((Below.refl _ _).drew) ?hop1 ?hT1
  case hm1=>kernel_rfl
  case hB1=>kernel_rfl
  case hA1 =>
   simp only[Par.putA,Par.dstAt,Act.put,List.getElem?_toArray,List.getElem?_cons_zero,List.getElem?_cons_succ,Option.bind_some,List.setIfInBounds_toArray,List.set_cons_zero,List.set_cons_succ,List.getD_cons_zero,List.getD_cons_succ];rfl
  case hop1 =>
   simp only[List.take_succ_cons,List.take_zero,Par.GiveAll,and_true];and_intros<;>intro w' hR
   ·have HR:=Lib.hid hR;have b0:=(HX.out w' hR).1;have b1:=(HX.out w' hR).2.1;have b2:=(HX.out w' hR).2.2.1;clear hR;simp only[Par.Gives];go_simp;all_goals exact HR.out
   ·have HR:=Lib.hid hR;clear hR;simp only[Par.Gives];go_simp;exact (hmay w').mono (fun e w'' ⟨he,hb⟩=>⟨he,below_on HR.out hb⟩)
   ·have HR:=Lib.hid hR;clear hR;simp only[Par.Gives];go_simp;all_goals exact HR.out
   ·have HR:=Lib.hid hR;clear hR;simp only[Par.Gives];go_simp;all_goals exact HR.out
   ·have HR:=Lib.hid hR;clear hR;simp only[Par.Gives];go_simp;all_goals exact HR.out
   ·have HR:=Lib.hid hR;clear hR;simp only[Par.Gives];go_simp;all_goals exact HR.out
   ·have HR:=Lib.hid hR;clear hR;simp only[Par.Gives];go_simp;all_goals exact HR.out
   ·have HR:=Lib.hid hR;clear hR;simp only[Par.Gives];go_simp;all_goals exact HR.out
   ·have HR:=Lib.hid hR;clear hR;simp only[Par.Gives];go_simp;all_goals exact HR.out
   ·have HR:=Lib.hid hR;clear hR;simp only[Par.Gives];go_simp;all_goals exact HR.out
   ·have HR:=Lib.hid hR;clear hR;simp only[Par.Gives];go_simp;all_goals exact HR.out
   ·have HR:=Lib.hid hR;clear hR;simp only[Par.Gives];go_simp;all_goals exact HR.out
   ·have HR:=Lib.hid hR;clear hR;simp only[Par.Gives];go_simp;all_goals exact HR.out
   ·have HR:=Lib.hid hR;clear hR;simp only[Par.Gives];go_simp;all_goals exact HR.out
   ·have HR:=Lib.hid hR;clear hR;simp only[Par.Gives];go_simp;all_goals exact HR.out
   ·have HR:=Lib.hid hR;clear hR;simp only[Par.Gives];go_simp;all_goals exact HR.out
   ·have HR:=Lib.hid hR;clear hR;simp only[Par.Gives];go_simp;all_goals exact HR.out
   ·have HR:=Lib.hid hR;clear hR;simp only[Par.Gives];go_simp;all_goals exact HR.out
   ·have HR:=Lib.hid hR;clear hR;simp only[Par.Gives];go_simp;all_goals exact HR.out
   ·have HR:=Lib.hid hR;clear hR;simp only[Par.Gives];go_simp;all_goals exact HR.out
   ·have HR:=Lib.hid hR;clear hR;simp only[Par.Gives];go_simp;all_goals exact HR.out
  case hT1 =>
   intro w' hR;simp only[List.drop_succ_cons,List.drop_zero];have hW:=HB.out.trans (hR.mono HS.out);clear hR;go_wp2_with fail;go_ret;exact⟨rfl,hW⟩
 | true =>
  by_cases h0:k=0
  ·have e0:(k==0)=true:=(by simp[h0]);have e0d:decide (k=0)=true:=decide_eq_true h0;rw[e0d];simp only[Bool.true_and,Bool.true_or];clear e0d h0;go_enter Tryz.func88,Tryz.ntmps88;go_upto_region 1 with fail;rw[HW.out.1,HW.out.2];refine Par.wp_region_par 21 [.agg #[.int .i64 k,.int .i64 n1,.string s],.bool true,.bool true,(Value.pointer (some ⟨B,0,none⟩)),.int .i64 k,.bool true,.bool true,undef,undef,undef,undef,undef,undef,undef,undef,undef,undef,undef,undef,.bool true,.bool true] (fun w=>Below w1.heap.size w1 w) ?A2 ?hm2 ?hB2 ?hA2 ((Below.refl _ _).drew) ?hop2 ?hT2
   case hm2=>kernel_rfl
   case hB2=>kernel_rfl
   case hA2 =>
    simp only[Par.putA,Par.dstAt,Act.put,List.getElem?_toArray,List.getElem?_cons_zero,List.getElem?_cons_succ,Option.bind_some,List.setIfInBounds_toArray,List.set_cons_zero,List.set_cons_succ,List.getD_cons_zero,List.getD_cons_succ];rfl
   case hop2 =>
    simp only[List.take_succ_cons,List.take_zero,Par.GiveAll,and_true];and_intros<;>intro w' hR
    ·have HR:=Lib.hid hR;have b0:=(HX.out w' hR).1;have b1:=(HX.out w' hR).2.1;have b2:=(HX.out w' hR).2.2.1;clear hR;simp only[Par.Gives];go_simp;all_goals exact HR.out
    ·have HR:=Lib.hid hR;clear hR;simp only[Par.Gives];go_simp;exact (hmay w').mono (fun e w'' ⟨he,hb⟩=>⟨he,below_on HR.out hb⟩)
    ·have HR:=Lib.hid hR;clear hR;simp only[Par.Gives];go_simp;all_goals exact HR.out
    ·have HR:=Lib.hid hR;have b0:=(HX.out w' hR).1;have zl:=lt_of_heap (HX.out w' hR).2.2.2.2.2;clear hR;simp only[Par.Gives];go_simp;all_goals exact HR.out
    ·have HR:=Lib.hid hR;have b0:=(HX.out w' hR).1;have zl:=lt_of_heap (HX.out w' hR).2.2.2.2.2;clear hR;simp only[Par.Gives];go_simp;all_goals exact HR.out
    ·have HR:=Lib.hid hR;clear hR;simp only[Par.Gives];go_simp;all_goals exact HR.out
    ·have HR:=Lib.hid hR;clear hR;simp only[Par.Gives];go_simp;all_goals exact HR.out
    ·have HR:=Lib.hid hR;clear hR;simp only[Par.Gives];go_simp;all_goals exact HR.out
    ·have HR:=Lib.hid hR;clear hR;simp only[Par.Gives];go_simp;all_goals exact HR.out
    ·have HR:=Lib.hid hR;clear hR;simp only[Par.Gives];go_simp;all_goals exact HR.out
    ·have HR:=Lib.hid hR;clear hR;simp only[Par.Gives];go_simp;all_goals exact HR.out
    ·have HR:=Lib.hid hR;clear hR;simp only[Par.Gives];go_simp;all_goals exact HR.out
    ·have HR:=Lib.hid hR;clear hR;simp only[Par.Gives];go_simp;all_goals exact HR.out
    ·have HR:=Lib.hid hR;clear hR;simp only[Par.Gives];go_simp;all_goals exact HR.out
    ·have HR:=Lib.hid hR;clear hR;simp only[Par.Gives];go_simp;all_goals exact HR.out
    ·have HR:=Lib.hid hR;clear hR;simp only[Par.Gives];go_simp;all_goals exact HR.out
    ·have HR:=Lib.hid hR;clear hR;simp only[Par.Gives];go_simp;all_goals exact HR.out
    ·have HR:=Lib.hid hR;clear hR;simp only[Par.Gives];go_simp;all_goals exact HR.out
    ·have HR:=Lib.hid hR;clear hR;simp only[Par.Gives];go_simp;all_goals exact HR.out
    ·have HR:=Lib.hid hR;clear hR;simp only[Par.Gives];go_simp;all_goals exact HR.out
    ·have HR:=Lib.hid hR;clear hR;simp only[Par.Gives];go_simp;all_goals exact HR.out
   case hT2 =>
    intro w' hR;simp only[List.drop_succ_cons,List.drop_zero];have hW:=HB.out.trans (hR.mono HS.out);clear hR;go_wp2_with fail;go_ret;exact⟨rfl,hW⟩
  ·have e0:(k==0)=false:=(by simp[h0]);have e0d:decide (k=0)=false:=decide_eq_false h0;rw[e0d];simp only[Bool.true_and,Bool.false_or];have ee:(k==kd)=decide (k=kd):=(by rw[Bool.eq_iff_iff];simp);generalize decide (k=kd)=ke at ee ⊢;clear e0d h0;go_enter Tryz.func88,Tryz.ntmps88;go_upto_region 1 with fail;rw[HW.out.1,HW.out.2];refine Par.wp_region_par 21 [.agg #[.int .i64 k,.int .i64 n1,.string s],.bool true,.bool true,(Value.pointer (some ⟨B,0,none⟩)),.int .i64 k,.bool false,.bool false,(Value.pointer (some ⟨B,0,none⟩)),.int .i64 k,(Value.pointer (some ⟨tb,0,none⟩)),(Value.pointer (some ⟨tb,0,none⟩)),(Value.pointer (some ⟨tb,0,none⟩)),(Value.pointer (some ⟨tb,1,none⟩)),.slice (some ⟨cb,oc,none⟩) n cc,.int .i64 (j:Int),(Value.pointer (some ⟨cb,oc+j*4,none⟩)),(Value.pointer (some ⟨cb,oc+j*4+1,none⟩)),.int .i64 kd,.bool ke,.bool ke,.bool ke] (fun w=>Below w1.heap.size w1 w) ?A3 ?hm3 ?hB3 ?hA3 ((Below.refl _ _).drew) ?hop3 ?hT3
   case hm3=>kernel_rfl
   case hB3=>kernel_rfl
   case hA3 =>
    simp only[Par.putA,Par.dstAt,Act.put,List.getElem?_toArray,List.getElem?_cons_zero,List.getElem?_cons_succ,Option.bind_some,List.setIfInBounds_toArray,List.set_cons_zero,List.set_cons_succ,List.getD_cons_zero,List.getD_cons_succ];rfl
   case hop3 =>
    simp only[List.take_succ_cons,List.take_zero,Par.GiveAll,and_true];and_intros<;>intro w' hR
    ·have HR:=Lib.hid hR;have b0:=(HX.out w' hR).1;have b1:=(HX.out w' hR).2.1;have b2:=(HX.out w' hR).2.2.1;clear hR;simp only[Par.Gives];go_simp;all_goals exact HR.out
    ·have HR:=Lib.hid hR;clear hR;simp only[Par.Gives];go_simp;exact (hmay w').mono (fun e w'' ⟨he,hb⟩=>⟨he,below_on HR.out hb⟩)
    ·have HR:=Lib.hid hR;clear hR;simp only[Par.Gives];go_simp;all_goals exact HR.out
    ·have HR:=Lib.hid hR;have b0:=(HX.out w' hR).1;have zl:=lt_of_heap (HX.out w' hR).2.2.2.2.2;clear hR;simp only[Par.Gives];go_simp;all_goals exact HR.out
    ·have HR:=Lib.hid hR;have b0:=(HX.out w' hR).1;have zl:=lt_of_heap (HX.out w' hR).2.2.2.2.2;clear hR;simp only[Par.Gives];go_simp;all_goals exact HR.out
    ·have HR:=Lib.hid hR;clear hR;simp only[Par.Gives];go_simp;all_goals exact HR.out
    ·have HR:=Lib.hid hR;clear hR;simp only[Par.Gives];go_simp;all_goals exact HR.out
    ·have HR:=Lib.hid hR;have b0:=(HX.out w' hR).1;have zl:=lt_of_heap (HX.out w' hR).2.2.2.2.2;clear hR;simp only[Par.Gives];go_simp;all_goals exact HR.out
    ·have HR:=Lib.hid hR;have b0:=(HX.out w' hR).1;have zl:=lt_of_heap (HX.out w' hR).2.2.2.2.2;clear hR;simp only[Par.Gives];go_simp;all_goals exact HR.out
    ·have HR:=Lib.hid hR;clear hR;simp only[Par.Gives];go_simp;all_goals exact HR.out
    ·have HR:=Lib.hid hR;clear hR;simp only[Par.Gives];go_simp;all_goals exact HR.out
    ·have HR:=Lib.hid hR;clear hR;simp only[Par.Gives];go_simp;all_goals exact HR.out
    ·have HR:=Lib.hid hR;clear hR;simp only[Par.Gives];go_simp;all_goals exact HR.out
    ·have HR:=Lib.hid hR;have zt:=(HX.out w' hR).2.2.2.1;clear hR;simp only[Par.Gives];go_simp;all_goals exact HR.out
    ·have HR:=Lib.hid hR;clear hR;simp only[Par.Gives];go_simp;all_goals exact HR.out
    ·have HR:=Lib.hid hR;clear hR;simp only[Par.Gives];go_simp;all_goals exact HR.out
    ·have HR:=Lib.hid hR;clear hR;simp only[Par.Gives];go_simp;all_goals exact HR.out
    ·have HR:=Lib.hid hR;have zk:=(HX.out w' hR).2.2.2.2.1;clear hR;simp only[Par.Gives];go_simp;all_goals exact HR.out
    ·have HR:=Lib.hid hR;clear hR;simp only[Par.Gives];go_simp;all_goals exact HR.out
    ·have HR:=Lib.hid hR;clear hR;simp only[Par.Gives];go_simp;all_goals exact HR.out
    ·have HR:=Lib.hid hR;clear hR;simp only[Par.Gives];go_simp;all_goals exact HR.out
   case hT3 =>
    intro w' hR;simp only[List.drop_succ_cons,List.drop_zero];have hW:=HB.out.trans (hR.mono HS.out);clear hR;go_wp2_with fail;go_ret;exact⟨rfl,hW⟩
end
def mapV (P:Int->Bool):Par.VW:=⟨fun v w=>∃ p n c,v=.agg #[.slice p n c]/\Vm w (.slice p n c) P,fun _ _ _ ⟨p,n,c,h1,h2⟩ hb=>⟨p,n,c,h1,h2.later hb⟩⟩
theorem IsV.mapV {P:Int->Bool} {W w':World} {e:Ending} (h:IsV P W e w'):∃ u,e=.returned u/\(mapV P).1 u w'/\Below W.heap.size W w':=by
 obtain⟨p,n,c,h1,h2,h3⟩:=h;exact⟨_,h1,⟨p,n,c,rfl,h2⟩,h3⟩
section
variable {W W':World} {tb next:Nat} {t:T} {i:In} {lab:Nat->Nat}
abbrev goneP (i:In):Int->Bool:=fun x=>i.G x || ofP i.late x
theorem tgone_any (h:TbM W tb t next i lab) (hl:i.late.length<=100):Calls Tryz.prog 86 #[(Value.pointer (some ⟨tb,0,none⟩))] W (IsV (goneP i) W):=by
 have hb:=below_alloc W (.cells #[.slice none 0 0] 110);have hk:=heap_alloc_new W (.cells #[.slice none 0 0] 110);have h1:=h.later hb;obtain⟨w1,hw1⟩:∃ w1,W.alloc (.cells #[.slice none 0 0] 110)=w1:=⟨_,rfl⟩;obtain⟨B,hBB⟩:∃ B,W.heap.size=B:=⟨_,rfl⟩;rw[hw1] at h1 hk hb;rw[hBB] at hk;have HG:=Lib.hid hb;obtain⟨pg,ng,cg,hgv⟩:=h.gone.slc;obtain⟨pl,cl,hlv,_,_⟩:=h.late.isslice;obtain⟨nl,hnl⟩:∃ n,i.late.length=n:=⟨_,rfl⟩;rw[hnl] at hlv hl
 have HX:Hid (∀ w,Below w1.heap.size w1 w->w.cell? ⟨tb,7,none⟩=some (.slice pg ng cg)/\w.cell? ⟨tb,8,none⟩=some (.slice pl nl cl)/\Vm w (.slice pg ng cg) i.G/\Rd w pl i.late):=Lib.hid (fun w hw=>by
  have h2:=h1.later hw;obtain⟨_,_,_,_,_,_,_,c7,c8,_⟩:=h2.cells;have hg:=h2.gone;have hr:=h2.late;rw[hgv] at c7 hg;rw[hlv] at c8 hr;exact⟨c7,c8,hg,by rw[<- hnl] at hr;exact Ro.rd hr⟩)
 have HN:=Lib.hid (And.intro hnl hl);have HW:=Lib.hid (And.intro hw1 (And.intro hBB hk));have zn:tb<w1.heap.size:=h1.tlt;clear h h1 hk hb hw1 hBB hgv hlv hnl hl;go_enter Tryz.func86,Tryz.ntmps86;go_upto_region 1 with fail;rw[HW.out.1,HW.out.2.1];refine Par.wp_region_par2 10 (fun w=>Below w1.heap.size w1 w) (Par.VL [(.eq (Value.pointer (some ⟨tb,0,none⟩))),(.eq (Value.pointer (some ⟨tb,0,none⟩))),(.eq (Value.pointer (some ⟨tb,7,none⟩))),(.eq (.agg #[.slice pg ng cg])),(.eq (Value.pointer (some ⟨tb,0,none⟩))),(.eq (Value.pointer (some ⟨tb,0,none⟩))),(.eq (Value.pointer (some ⟨tb,8,none⟩))),(.eq (.slice pl nl cl)),((mapV (ofP i.late))),((mapV (goneP i)))]) ?A1 ?hm1 ?hB1 (fun w w' h hb=>below_on h hb) (Par.VL.mono _) ?hA1 ((below_drew w1)) ?hop1 ?hT1
 case hm1=>kernel_rfl
 case hB1=>kernel_rfl
 case hA1 =>
  intro vs;simp only[Par.putA,Par.dstAt,Act.put,List.getElem?_toArray,List.getElem?_cons_zero,List.getElem?_cons_succ,Option.bind_some,List.setIfInBounds_toArray,List.set_cons_zero,List.set_cons_succ];rfl
 case hop1 =>
  simp only[List.take_succ_cons,List.take_zero,Par.GiveAllV,and_true];and_intros<;>intro vs w hK hd
  ·clear hd;simp only[Par.GivesV];go_simp;all_goals exact⟨rfl,Below.refl _ _⟩
  ·have d0:=hd 0 (by decide) (by kernel_rfl);replace d0:vs 0=(Value.pointer (some ⟨tb,0,none⟩)):=d0;clear hd;simp only[Par.GivesV,d0];go_simp;all_goals exact⟨rfl,Below.refl _ _⟩
  ·have d1:=hd 1 (by decide) (by kernel_rfl);replace d1:vs 1=(Value.pointer (some ⟨tb,0,none⟩)):=d1;have zt:=Nat.lt_of_lt_of_le zn hK.size;clear hd;simp only[Par.GivesV,d1];go_simp;all_goals exact⟨rfl,Below.refl _ _⟩
  ·have d2:=hd 2 (by decide) (by kernel_rfl);replace d2:vs 2=(Value.pointer (some ⟨tb,7,none⟩)):=d2;have k:=(HX.out w hK).1;clear hd;simp only[Par.GivesV,d2];go_simp;all_goals exact⟨rfl,Below.refl _ _⟩
  ·clear hd;simp only[Par.GivesV];go_simp;all_goals exact⟨rfl,Below.refl _ _⟩
  ·have d4:=hd 4 (by decide) (by kernel_rfl);replace d4:vs 4=(Value.pointer (some ⟨tb,0,none⟩)):=d4;clear hd;simp only[Par.GivesV,d4];go_simp;all_goals exact⟨rfl,Below.refl _ _⟩
  ·have d5:=hd 5 (by decide) (by kernel_rfl);replace d5:vs 5=(Value.pointer (some ⟨tb,0,none⟩)):=d5;have zt:=Nat.lt_of_lt_of_le zn hK.size;clear hd;simp only[Par.GivesV,d5];go_simp;all_goals exact⟨rfl,Below.refl _ _⟩
  ·have d6:=hd 6 (by decide) (by kernel_rfl);replace d6:vs 6=(Value.pointer (some ⟨tb,8,none⟩)):=d6;have k:=(HX.out w hK).2.1;clear hd;simp only[Par.GivesV,d6];go_simp;all_goals exact⟨rfl,Below.refl _ _⟩
  ·have d7:=hd 7 (by decide) (by kernel_rfl);replace d7:vs 7=(.slice pl nl cl):=d7
   skip
   clear hd;simp only[Par.GivesV,d7];go_simp;exact (vof HN.out.1 (by have:=HN.out.2;omega) (HX.out w hK).2.2.2).mono (fun e w'' h=>h.mapV)
  ·have d3:=hd 3 (by decide) (by kernel_rfl);replace d3:vs 3=(.agg #[.slice pg ng cg]):=d3;have d8:=hd 8 (by decide) (by kernel_rfl);obtain⟨p8,n8,c8,d8,hv8⟩:=d8;replace d8:vs 8=.agg #[.slice p8 n8 c8]:=d8;clear hd;simp only[Par.GivesV,d3,d8];go_simp;exact (vor (HX.out w hK).2.2.1 hv8).mono (fun e w'' h=>h.mapV)
 case hT1 =>
  intro vs w' hK hV;simp only[List.drop_succ_cons,List.drop_zero];have d0:=hV 0 (by decide);replace d0:vs 0=(Value.pointer (some ⟨tb,0,none⟩)):=d0;have d1:=hV 1 (by decide);replace d1:vs 1=(Value.pointer (some ⟨tb,0,none⟩)):=d1;have d2:=hV 2 (by decide);replace d2:vs 2=(Value.pointer (some ⟨tb,7,none⟩)):=d2;have d3:=hV 3 (by decide);replace d3:vs 3=(.agg #[.slice pg ng cg]):=d3;have d4:=hV 4 (by decide);replace d4:vs 4=(Value.pointer (some ⟨tb,0,none⟩)):=d4;have d5:=hV 5 (by decide);replace d5:vs 5=(Value.pointer (some ⟨tb,0,none⟩)):=d5;have d6:=hV 6 (by decide);replace d6:vs 6=(Value.pointer (some ⟨tb,8,none⟩)):=d6;have d7:=hV 7 (by decide);replace d7:vs 7=(.slice pl nl cl):=d7;have d8:=hV 8 (by decide);have d9:=hV 9 (by decide);clear hV;simp only[d0,d1,d2,d3,d4,d5,d6,d7];clear d0 d1 d2 d3 d4 d5 d6 d7;clear d8;obtain⟨p9,n9,c9,e9,hv9⟩:=d9;generalize vs 9=v9 at e9 ⊢;subst e9;generalize vs 8=v8;have hBx:=heap_on hK HW.out.2.2;have z0:=nd_cell hBx 0;have zf:=(fun i=>frozen_of_row w' B i _ _ hBx);have zl:=lt_of_heap hBx;have HR:=Lib.hid (And.intro hK (And.intro hv9 hBx));clear hK hv9 hBx;go_wp2_with fail;have hS:=heap_setCell_same w' B 0 _ _ (.slice p9 n9 c9) HR.out.2.2;have hBel:Below W.heap.size W (w'.setCell ⟨B,0,none⟩ (.slice p9 n9 c9)):=(below_on HG.out HR.out.1).setCell (p:=⟨B,0,none⟩) (Nat.le_of_eq HW.out.2.1) _
  have hv:Vm (w'.setCell ⟨B,0,none⟩ (.slice p9 n9 c9)) (.slice p9 n9 c9) (goneP i):=by
   obtain⟨l,m1,m2,m3⟩:=HR.out.2.1;refine⟨l,HRow.of m1 (fun k hk=>heap_setCell_other w' ⟨B,0,none⟩ k _ (fun e=>?_)),m2,m3⟩;obtain⟨_,cur,hc⟩:=HRow.block m1 k hk;subst e;rw[HR.out.2.2] at hc;cases hc
  generalize w'.setCell _ _=wz at hS hBel hv ⊢;have y0:=nd_cell hS 0;refine bodyPost_ret (v:=.agg #[.slice p9 n9 c9]) (by simp[results,Tryz.results86,go_sem,y0]) rfl ?_;exact⟨p9,n9,c9,rfl,hv,hBel⟩
theorem tnext_any (h:TbM W tb t next i lab):Calls Tryz.prog 33 #[(Value.pointer (some ⟨tb,0,none⟩))] W fun e w'=>e=.returned (.int .i64 (next:Int))/\w'=W:=by
 obtain⟨_,_,_,_,_,_,_,_,_,c9⟩:=h.cells;have zl:=h.tlt;clear h;go_enter Tryz.func33,Tryz.ntmps33
 go_wp2
 go_ret;exact⟨rfl,rfl⟩
theorem tlive_any (h:TbM W tb t next i lab) (hl:i.late.length<=100):Calls Tryz.prog 57 #[(Value.pointer (some ⟨tb,0,none⟩))] W (IsV (notP (goneP i) (next:Int)) W):=by
 have hb:=below_alloc W (.cells #[.slice none 0 0] 110);have hk:=heap_alloc_new W (.cells #[.slice none 0 0] 110);have h1:=h.later hb;obtain⟨w1,hw1⟩:∃ w1,W.alloc (.cells #[.slice none 0 0] 110)=w1:=⟨_,rfl⟩;obtain⟨B,hBB⟩:∃ B,W.heap.size=B:=⟨_,rfl⟩;rw[hw1] at h1 hk hb;rw[hBB] at hk;have HG:=Lib.hid hb
 have HX:Hid (∀ w,Below w1.heap.size w1 w->w.cell? ⟨tb,9,none⟩=some (.int .i64 (next:Int))/\TbM w tb t next i lab):=Lib.hid (fun w hw=>by
  have h2:=h1.later hw;exact⟨h2.cells.2.2.2.2.2.2.2.2.2,h2⟩)
 have HN:=Lib.hid hl;have HW:=Lib.hid (And.intro hw1 (And.intro hBB hk));have zn:tb<w1.heap.size:=h1.tlt;clear h h1 hk hb hw1 hBB hl;go_enter Tryz.func57,Tryz.ntmps57;go_upto_region 3 with fail;rw[HW.out.1,HW.out.2.1];refine Par.wp_region_par2 7 (fun w=>Below w1.heap.size w1 w) (Par.VL [(.eq (Value.pointer (some ⟨tb,0,none⟩))),((mapV (goneP i))),(.eq (Value.pointer (some ⟨tb,0,none⟩))),(.eq (Value.pointer (some ⟨tb,0,none⟩))),(.eq (Value.pointer (some ⟨tb,9,none⟩))),(.eq (.int .i64 (next:Int))),((mapV (notP (goneP i) (next:Int))))]) ?A2 ?hm2 ?hB2 (fun w w' h hb=>below_on h hb) (Par.VL.mono _) ?hA2 ((below_drew w1)) ?hop2 ?hT2
 case hm2=>kernel_rfl
 case hB2=>kernel_rfl
 case hA2 =>
  intro vs;simp only[Par.putA,Par.dstAt,Act.put,List.getElem?_toArray,List.getElem?_cons_zero,List.getElem?_cons_succ,Option.bind_some,List.setIfInBounds_toArray,List.set_cons_zero,List.set_cons_succ];rfl
 case hop2 =>
  simp only[List.take_succ_cons,List.take_zero,Par.GiveAllV,and_true];and_intros<;>intro vs w hK hd
  ·clear hd;simp only[Par.GivesV];go_simp;all_goals exact⟨rfl,Below.refl _ _⟩
  ·have d0:=hd 0 (by decide) (by kernel_rfl);replace d0:vs 0=(Value.pointer (some ⟨tb,0,none⟩)):=d0
   skip
   clear hd;simp only[Par.GivesV,d0];go_simp;exact (tgone_any (HX.out w hK).2 HN.out).mono (fun e w'' h=>h.mapV)
  ·clear hd;simp only[Par.GivesV];go_simp;all_goals exact⟨rfl,Below.refl _ _⟩
  ·have d2:=hd 2 (by decide) (by kernel_rfl);replace d2:vs 2=(Value.pointer (some ⟨tb,0,none⟩)):=d2;clear hd;simp only[Par.GivesV,d2];go_simp;all_goals exact⟨rfl,Below.refl _ _⟩
  ·have d3:=hd 3 (by decide) (by kernel_rfl);replace d3:vs 3=(Value.pointer (some ⟨tb,0,none⟩)):=d3;have zt:=Nat.lt_of_lt_of_le zn hK.size;clear hd;simp only[Par.GivesV,d3];go_simp;all_goals exact⟨rfl,Below.refl _ _⟩
  ·have d4:=hd 4 (by decide) (by kernel_rfl);replace d4:vs 4=(Value.pointer (some ⟨tb,9,none⟩)):=d4;have k:=(HX.out w hK).1;clear hd;simp only[Par.GivesV,d4];go_simp;all_goals exact⟨rfl,Below.refl _ _⟩
  ·have d1:=hd 1 (by decide) (by kernel_rfl);have d5:=hd 5 (by decide) (by kernel_rfl);replace d5:vs 5=(.int .i64 (next:Int)):=d5;obtain⟨p1,n1,c1,d1,hv1⟩:=d1;replace d1:vs 1=.agg #[.slice p1 n1 c1]:=d1;clear hd;simp only[Par.GivesV,d5,d1];go_simp;exact (vnot hv1 (next:Int)).mono (fun e w'' h=>h.mapV)
 case hT2 =>
  intro vs w' hK hV;simp only[List.drop_succ_cons,List.drop_zero];have d0:=hV 0 (by decide);replace d0:vs 0=(Value.pointer (some ⟨tb,0,none⟩)):=d0;have d1:=hV 1 (by decide);have d2:=hV 2 (by decide);replace d2:vs 2=(Value.pointer (some ⟨tb,0,none⟩)):=d2;have d3:=hV 3 (by decide);replace d3:vs 3=(Value.pointer (some ⟨tb,0,none⟩)):=d3;have d4:=hV 4 (by decide);replace d4:vs 4=(Value.pointer (some ⟨tb,9,none⟩)):=d4;have d5:=hV 5 (by decide);replace d5:vs 5=(.int .i64 (next:Int)):=d5;have d6:=hV 6 (by decide);clear hV;simp only[d0,d2,d3,d4,d5];clear d0 d2 d3 d4 d5;clear d1;obtain⟨p9,n9,c9,e9,hv9⟩:=d6;generalize vs 6=v9 at e9 ⊢;subst e9;generalize vs 1=v8;have hBx:=heap_on hK HW.out.2.2;have z0:=nd_cell hBx 0;have zf:=(fun i=>frozen_of_row w' B i _ _ hBx);have zl:=lt_of_heap hBx;have HR:=Lib.hid (And.intro hK (And.intro hv9 hBx));clear hK hv9 hBx;go_wp2_with fail;have hS:=heap_setCell_same w' B 0 _ _ (.slice p9 n9 c9) HR.out.2.2;have hBel:Below W.heap.size W (w'.setCell ⟨B,0,none⟩ (.slice p9 n9 c9)):=(below_on HG.out HR.out.1).setCell (p:=⟨B,0,none⟩) (Nat.le_of_eq HW.out.2.1) _
  have hv:Vm (w'.setCell ⟨B,0,none⟩ (.slice p9 n9 c9)) (.slice p9 n9 c9) (notP (goneP i) (next:Int)):=by
   obtain⟨l,m1,m2,m3⟩:=HR.out.2.1;refine⟨l,HRow.of m1 (fun k hk=>heap_setCell_other w' ⟨B,0,none⟩ k _ (fun e=>?_)),m2,m3⟩;obtain⟨_,cur,hc⟩:=HRow.block m1 k hk;subst e;rw[HR.out.2.2] at hc;cases hc
  generalize w'.setCell _ _=wz at hS hBel hv ⊢;have y0:=nd_cell hS 0;refine bodyPost_ret (v:=.agg #[.slice p9 n9 c9]) (by simp[results,Tryz.results57,go_sem,y0]) rfl ?_;exact⟨p9,n9,c9,rfl,hv,hBel⟩
theorem ptr_at {cb:Nat->Nat} {n k:Nat} (h:k<n):(ptrs cb n)[k]?=some (Value.pointer (some ⟨cb k,0,none⟩)):=by simp[ptrs,h]
theorem TbM.ptr (h:TbM W tb t next i lab) {k:Nat} (hk:k<t.cols.length):∃ g c,i.cv=.slice (some ⟨g,0,none⟩) t.cols.length c/\t.cols.length<=c/\c<=maxLen/\g<W.heap.size/\W.cell? ⟨g,k,none⟩=some (Value.pointer (some ⟨i.cb k,0,none⟩)):=by
 obtain⟨g,c,hv,h1,h2⟩:=h.cols.slice (by omega);have hc:=h.cols;rw[hv] at hc;exact⟨g,c,hv,h1,h2,(hc.lt g rfl).2,hc.cell (ptr_at hk)⟩
theorem twords_any (h:TbM W tb t next i lab) {x:ByteArray} {k:Nat} (hk:k<t.cols.length) (hx:ixC t.cols x=(k:Int)) (m:List (K 12)) (hm:m.Nodup) (hs:∀ s,s∈m↔∃ y∈i.cl k,y.1=2/\wd y.2.2=s):Calls Tryz.prog 110 #[(Value.pointer (some ⟨tb,0,none⟩)),.string x] W fun e w'=>e=.returned (.int .i64 (m.length:Int))/\Below W.heap.size W w':=by
 have hc:=tcol_any h x;rw[hx] at hc;obtain⟨g,c,hcv,h1,h2,_⟩:=h.ptr hk;obtain⟨n,hn⟩:∃ n,t.cols.length=n:=⟨_,rfl⟩
 have HX:Hid (∀ w,Below W.heap.size W w->w.cell? ⟨tb,4,none⟩=some (.slice (some ⟨g,0,none⟩) n c)/\w.cell? ⟨g,k,none⟩=some (Value.pointer (some ⟨i.cb k,0,none⟩))/\tb<w.heap.size/\g<w.heap.size/\Calls Tryz.prog 140 #[(Value.pointer (some ⟨i.cb k,0,none⟩))] w fun e w'=>e=.returned (.int .i64 (m.length:Int))/\w'=w):=Lib.hid (fun w hw=>by
  have h3:=h.later hw;obtain⟨g',c',e,_,_,k1,k2⟩:=h3.ptr hk;rw[hcv] at e;cases e;exact⟨by rw[<- hn,<- hcv];exact h3.cells.2.2.2.2.1,k2,h3.tlt,k1,col_words (h3.col k hk) m hm hs⟩)
 rw[hn] at h1 hk;have hd:decide ((k:Int)≥0)=true:=(by simp);have hki:(k:Int)<(n:Int):=(by omega);have hz:decide (0<=(k:Int))=true:=(by simp);rw[hz] at hc;unfold maxLen at h2;clear h hx hcv hn hs hm hz;generalize i.cb k=cb at HX;generalize m.length=ml at HX ⊢;go_enter Tryz.func110,Tryz.ntmps110
 go_wp2_with (first
  | (go_at_call 87;(with_reducible refine hc.mono ?_);rintro e w2 ⟨rfl,hb2⟩;obtain⟨x4,xk,xt,xg,xw⟩:=HX.out w2 hb2;have HB:=Lib.hid hb2;clear hb2 hc)
  | (go_at_call 140;(with_reducible refine xw.mono ?_);rintro e w3 ⟨rfl,hw3⟩;subst w3))
 go_ret;exact⟨rfl,HB.out⟩
end
