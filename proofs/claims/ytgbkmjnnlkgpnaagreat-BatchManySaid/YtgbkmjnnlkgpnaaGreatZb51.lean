import Derived.Test.YtgbkmjnnlkgpnaaGreatZb50
set_option maxHeartbeats 8000000
set_option maxRecDepth 100000
namespace Go.Proofs.YtgbkmjnnlkgpnaaGreat
open Go Go.RowKit Go.Proofs Co Co.S
section
variable {w:World} {b n c t:Nat} {id r1 r2:Int} {tb col:ByteArray} {p:Option Addr} {Q:World->Prop} {sv:Value}
theorem one_unformed {k:Int} (hf:formedP k n=false):Calls Tryz.prog 44 #[(Value.pointer (some ⟨b,0,none⟩)),.agg #[.int .i64 k,.string tb,.int .i64 id,.string col,.slice p n c]] w fun e w'=>e=.returned (.tuple #[.int .i64 0,.int .i64 1])/\Below w.heap.size w w':=by
 have hb1:=below_alloc w (.cells #[.int .i64 k,.string tb,.int .i64 id,.string col,.slice p n c] 47);have k1:=heap_alloc_new w (.cells #[.int .i64 k,.string tb,.int .i64 id,.string col,.slice p n c] 47);obtain⟨w1,hw1⟩:∃ w1,w.alloc (.cells #[.int .i64 k,.string tb,.int .i64 id,.string col,.slice p n c] 47)=w1:=⟨_,rfl⟩;obtain⟨B,hB⟩:∃ B,w.heap.size=B:=⟨_,rfl⟩;rw[hw1] at hb1 k1;rw[hB] at k1;have x0:=nd_cell k1 0;have x1:=nd_cell k1 1;have x2:=nd_cell k1 2;have x3:=nd_cell k1 3;have x4:=nd_cell k1 4;have xl:=lt_of_heap k1;have HW:=Lib.hid (And.intro hw1 (And.intro hB (And.intro hb1 k1)));clear hw1 hb1 k1 hB
 have hc:k<1∨3<k∨(k=3/\n≠1):=by
  unfold formedP at hf;split at hf
  ·cases hf
  ·split at hf
   ·have:=of_decide_eq_false hf;omega
   ·omega
 clear hf;rcases hc with h|h|⟨rfl,h⟩
 ·go_enter Tryz.func44,Tryz.ntmps44;go_upto_region 1 with fail;rw[HW.out.1,HW.out.2.1];have e1:decide (k<1)=true:=decide_eq_true h;go_wp2_with fail;go_ret2;exact⟨rfl,HW.out.2.2.1⟩
 ·have h2:¬ k<1:=(by omega);have h3:k>3:=(by omega);go_enter Tryz.func44,Tryz.ntmps44;go_upto_region 1 with fail;rw[HW.out.1,HW.out.2.1];go_wp2_with fail;go_ret2;exact⟨rfl,HW.out.2.2.1⟩
 ·have e1:((n:Int) != 1)=true:=(by simp;omega);go_enter Tryz.func44,Tryz.ntmps44;go_upto_region 1 with fail;rw[HW.out.1,HW.out.2.1];go_wp2_with fail;go_ret2;exact⟨rfl,HW.out.2.2.1⟩
theorem one_none1
  (hfind:∀ w1,Below w.heap.size w w1->w1.cell? ⟨b,0,none⟩=some sv/\b<w1.heap.size/\Calls Tryz.prog 34 #[sv,.string tb] w1 fun e w'=>e=.returned (.int .i64 (-1))/\w'=w1) :
  Calls Tryz.prog 44 #[(Value.pointer (some ⟨b,0,none⟩)),.agg #[.int .i64 1,.string tb,.int .i64 id,.string col,.slice p n c]] w fun e w'=>e=.returned (.tuple #[.int .i64 0,.int .i64 3])/\Below w.heap.size w w':=by
 have hb1:=below_alloc w (.cells #[.int .i64 1,.string tb,.int .i64 id,.string col,.slice p n c] 47);have k1:=heap_alloc_new w (.cells #[.int .i64 1,.string tb,.int .i64 id,.string col,.slice p n c] 47);obtain⟨w1,hw1⟩:∃ w1,w.alloc (.cells #[.int .i64 1,.string tb,.int .i64 id,.string col,.slice p n c] 47)=w1:=⟨_,rfl⟩;obtain⟨B,hB⟩:∃ B,w.heap.size=B:=⟨_,rfl⟩;rw[hw1] at hb1 k1;rw[hB] at k1;have x0:=nd_cell k1 0;have x1:=nd_cell k1 1;have x2:=nd_cell k1 2;have x3:=nd_cell k1 3;have x4:=nd_cell k1 4;have xl:=lt_of_heap k1;have HW:=Lib.hid (And.intro hw1 (And.intro hB (And.intro hb1 k1)));have HT:=Lib.hid (And.intro hfind trivial);clear hw1 hb1 k1 hB hfind;go_enter Tryz.func44,Tryz.ntmps44;go_upto_region 1 with fail;rw[HW.out.1,HW.out.2.1];go_upto_region 3 with fail;clear x0 x1 x2 x3 x4 xl;have HK:Hid (∀ w',Below w1.heap.size w1 w'->w'.heap[B]?=some _):=Lib.hid (fun w' hw=>heap_on hw HW.out.2.2.2);have HF:Hid (∀ w',Below w1.heap.size w1 w'->_):=Lib.hid (fun w' hw=>HT.out.1 w' (below_on HW.out.2.2.1 hw));refine Par.wp_region_par 8 [(Value.pointer (some ⟨b,0,none⟩)),(Value.pointer (some ⟨b,0,none⟩)),(Value.pointer (some ⟨b,0,none⟩)),sv,(Value.pointer (some ⟨B,1,none⟩)),.string tb,.int .i64 (-1),.int .i64 (-1)] (fun w=>Below w1.heap.size w1 w) ?A1 ?hm1 ?hB1 ?hA1 ((below_drew w1)) ?hop1 ?hT1
 case hm1=>kernel_rfl
 case hB1=>kernel_rfl
 case hA1 =>
  simp only[Par.putA,Par.dstAt,Act.put,List.getElem?_toArray,List.getElem?_cons_zero,List.getElem?_cons_succ,Option.bind_some,List.setIfInBounds_toArray,List.set_cons_zero,List.set_cons_succ,List.getD_cons_zero,List.getD_cons_succ];rfl
 case hop1 =>
  simp only[List.take_succ_cons,List.take_zero,Par.GiveAll,and_true];and_intros<;>intro w' hR
  ·have HR:=Lib.hid hR;clear hR;simp only[Par.Gives];go_simp;all_goals exact HR.out
  ·have HR:=Lib.hid hR;have zl:=(HF.out w' hR).2.1;clear hR;simp only[Par.Gives];go_simp;all_goals exact HR.out
  ·have HR:=Lib.hid hR;have zl:=(HF.out w' hR).2.1;clear hR;simp only[Par.Gives];go_simp;all_goals exact HR.out
  ·have HR:=Lib.hid hR;have z1:=(HF.out w' hR).1;clear hR;simp only[Par.Gives];go_simp;all_goals exact HR.out
  ·have HR:=Lib.hid hR;have zl:=lt_of_heap (HK.out w' hR);clear hR;simp only[Par.Gives];go_simp;all_goals exact HR.out
  ·have HR:=Lib.hid hR;have z1:=nd_cell (HK.out w' hR) 1;clear hR;simp only[Par.Gives];go_simp;all_goals exact HR.out
  ·have HR:=Lib.hid hR;clear hR;simp only[Par.Gives];go_simp;exact ((HF.out w' HR.out).2.2).mono (fun e w'' ⟨he,hb⟩=>⟨he,hb▸HR.out⟩)
  ·have HR:=Lib.hid hR;clear hR;simp only[Par.Gives];go_simp;all_goals exact HR.out
 case hT1 =>
  intro w' hR;simp only[List.drop_succ_cons,List.drop_nil];have HR:=Lib.hid (below_on HW.out.2.2.1 hR);clear hR;go_wp2_with fail;go_ret2;exact⟨rfl,HR.out⟩
theorem one_none2
  (hfind:∀ w1,Below w.heap.size w w1->w1.cell? ⟨b,0,none⟩=some sv/\b<w1.heap.size/\Calls Tryz.prog 34 #[sv,.string tb] w1 fun e w'=>e=.returned (.int .i64 (-1))/\w'=w1) :
  Calls Tryz.prog 44 #[(Value.pointer (some ⟨b,0,none⟩)),.agg #[.int .i64 2,.string tb,.int .i64 id,.string col,.slice p n c]] w fun e w'=>e=.returned (.tuple #[.int .i64 0,.int .i64 3])/\Below w.heap.size w w':=by
 have hb1:=below_alloc w (.cells #[.int .i64 2,.string tb,.int .i64 id,.string col,.slice p n c] 47);have k1:=heap_alloc_new w (.cells #[.int .i64 2,.string tb,.int .i64 id,.string col,.slice p n c] 47);obtain⟨w1,hw1⟩:∃ w1,w.alloc (.cells #[.int .i64 2,.string tb,.int .i64 id,.string col,.slice p n c] 47)=w1:=⟨_,rfl⟩;obtain⟨B,hB⟩:∃ B,w.heap.size=B:=⟨_,rfl⟩;rw[hw1] at hb1 k1;rw[hB] at k1;have x0:=nd_cell k1 0;have x1:=nd_cell k1 1;have x2:=nd_cell k1 2;have x3:=nd_cell k1 3;have x4:=nd_cell k1 4;have xl:=lt_of_heap k1;have HW:=Lib.hid (And.intro hw1 (And.intro hB (And.intro hb1 k1)));have HT:=Lib.hid (And.intro hfind trivial);clear hw1 hb1 k1 hB hfind;go_enter Tryz.func44,Tryz.ntmps44;go_upto_region 1 with fail;rw[HW.out.1,HW.out.2.1];go_upto_region 3 with fail;clear x0 x1 x2 x3 x4 xl;have HK:Hid (∀ w',Below w1.heap.size w1 w'->w'.heap[B]?=some _):=Lib.hid (fun w' hw=>heap_on hw HW.out.2.2.2);have HF:Hid (∀ w',Below w1.heap.size w1 w'->_):=Lib.hid (fun w' hw=>HT.out.1 w' (below_on HW.out.2.2.1 hw));refine Par.wp_region_par 8 [(Value.pointer (some ⟨b,0,none⟩)),(Value.pointer (some ⟨b,0,none⟩)),(Value.pointer (some ⟨b,0,none⟩)),sv,(Value.pointer (some ⟨B,1,none⟩)),.string tb,.int .i64 (-1),.int .i64 (-1)] (fun w=>Below w1.heap.size w1 w) ?A2 ?hm2 ?hB2 ?hA2 ((below_drew w1)) ?hop2 ?hT2
 case hm2=>kernel_rfl
 case hB2=>kernel_rfl
 case hA2 =>
  simp only[Par.putA,Par.dstAt,Act.put,List.getElem?_toArray,List.getElem?_cons_zero,List.getElem?_cons_succ,Option.bind_some,List.setIfInBounds_toArray,List.set_cons_zero,List.set_cons_succ,List.getD_cons_zero,List.getD_cons_succ];rfl
 case hop2 =>
  simp only[List.take_succ_cons,List.take_zero,Par.GiveAll,and_true];and_intros<;>intro w' hR
  ·have HR:=Lib.hid hR;clear hR;simp only[Par.Gives];go_simp;all_goals exact HR.out
  ·have HR:=Lib.hid hR;have zl:=(HF.out w' hR).2.1;clear hR;simp only[Par.Gives];go_simp;all_goals exact HR.out
  ·have HR:=Lib.hid hR;have zl:=(HF.out w' hR).2.1;clear hR;simp only[Par.Gives];go_simp;all_goals exact HR.out
  ·have HR:=Lib.hid hR;have z1:=(HF.out w' hR).1;clear hR;simp only[Par.Gives];go_simp;all_goals exact HR.out
  ·have HR:=Lib.hid hR;have zl:=lt_of_heap (HK.out w' hR);clear hR;simp only[Par.Gives];go_simp;all_goals exact HR.out
  ·have HR:=Lib.hid hR;have z1:=nd_cell (HK.out w' hR) 1;clear hR;simp only[Par.Gives];go_simp;all_goals exact HR.out
  ·have HR:=Lib.hid hR;clear hR;simp only[Par.Gives];go_simp;exact ((HF.out w' HR.out).2.2).mono (fun e w'' ⟨he,hb⟩=>⟨he,hb▸HR.out⟩)
  ·have HR:=Lib.hid hR;clear hR;simp only[Par.Gives];go_simp;all_goals exact HR.out
 case hT2 =>
  intro w' hR;simp only[List.drop_succ_cons,List.drop_nil];have HR:=Lib.hid (below_on HW.out.2.2.1 hR);clear hR;go_wp2_with fail;go_ret2;exact⟨rfl,HR.out⟩
theorem one_none3
  (hfind:∀ w1,Below w.heap.size w w1->w1.cell? ⟨b,0,none⟩=some sv/\b<w1.heap.size/\Calls Tryz.prog 34 #[sv,.string tb] w1 fun e w'=>e=.returned (.int .i64 (-1))/\w'=w1) :
  Calls Tryz.prog 44 #[(Value.pointer (some ⟨b,0,none⟩)),.agg #[.int .i64 3,.string tb,.int .i64 id,.string col,.slice p 1 c]] w fun e w'=>e=.returned (.tuple #[.int .i64 0,.int .i64 3])/\Below w.heap.size w w':=by
 have hb1:=below_alloc w (.cells #[.int .i64 3,.string tb,.int .i64 id,.string col,.slice p 1 c] 47);have k1:=heap_alloc_new w (.cells #[.int .i64 3,.string tb,.int .i64 id,.string col,.slice p 1 c] 47);obtain⟨w1,hw1⟩:∃ w1,w.alloc (.cells #[.int .i64 3,.string tb,.int .i64 id,.string col,.slice p 1 c] 47)=w1:=⟨_,rfl⟩;obtain⟨B,hB⟩:∃ B,w.heap.size=B:=⟨_,rfl⟩;rw[hw1] at hb1 k1;rw[hB] at k1;have x0:=nd_cell k1 0;have x1:=nd_cell k1 1;have x2:=nd_cell k1 2;have x3:=nd_cell k1 3;have x4:=nd_cell k1 4;have xl:=lt_of_heap k1;have HW:=Lib.hid (And.intro hw1 (And.intro hB (And.intro hb1 k1)));have HT:=Lib.hid (And.intro hfind trivial);clear hw1 hb1 k1 hB hfind;go_enter Tryz.func44,Tryz.ntmps44;go_upto_region 1 with fail;rw[HW.out.1,HW.out.2.1];go_upto_region 3 with fail;clear x0 x1 x2 x3 x4 xl;have HK:Hid (∀ w',Below w1.heap.size w1 w'->w'.heap[B]?=some _):=Lib.hid (fun w' hw=>heap_on hw HW.out.2.2.2);have HF:Hid (∀ w',Below w1.heap.size w1 w'->_):=Lib.hid (fun w' hw=>HT.out.1 w' (below_on HW.out.2.2.1 hw));refine Par.wp_region_par 8 [(Value.pointer (some ⟨b,0,none⟩)),(Value.pointer (some ⟨b,0,none⟩)),(Value.pointer (some ⟨b,0,none⟩)),sv,(Value.pointer (some ⟨B,1,none⟩)),.string tb,.int .i64 (-1),.int .i64 (-1)] (fun w=>Below w1.heap.size w1 w) ?A3 ?hm3 ?hB3 ?hA3 ((below_drew w1)) ?hop3 ?hT3
 case hm3=>kernel_rfl
 case hB3=>kernel_rfl
 case hA3 =>
  simp only[Par.putA,Par.dstAt,Act.put,List.getElem?_toArray,List.getElem?_cons_zero,List.getElem?_cons_succ,Option.bind_some,List.setIfInBounds_toArray,List.set_cons_zero,List.set_cons_succ,List.getD_cons_zero,List.getD_cons_succ];rfl
 case hop3 =>
  simp only[List.take_succ_cons,List.take_zero,Par.GiveAll,and_true];and_intros<;>intro w' hR
  ·have HR:=Lib.hid hR;clear hR;simp only[Par.Gives];go_simp;all_goals exact HR.out
  ·have HR:=Lib.hid hR;have zl:=(HF.out w' hR).2.1;clear hR;simp only[Par.Gives];go_simp;all_goals exact HR.out
  ·have HR:=Lib.hid hR;have zl:=(HF.out w' hR).2.1;clear hR;simp only[Par.Gives];go_simp;all_goals exact HR.out
  ·have HR:=Lib.hid hR;have z1:=(HF.out w' hR).1;clear hR;simp only[Par.Gives];go_simp;all_goals exact HR.out
  ·have HR:=Lib.hid hR;have zl:=lt_of_heap (HK.out w' hR);clear hR;simp only[Par.Gives];go_simp;all_goals exact HR.out
  ·have HR:=Lib.hid hR;have z1:=nd_cell (HK.out w' hR) 1;clear hR;simp only[Par.Gives];go_simp;all_goals exact HR.out
  ·have HR:=Lib.hid hR;clear hR;simp only[Par.Gives];go_simp;exact ((HF.out w' HR.out).2.2).mono (fun e w'' ⟨he,hb⟩=>⟨he,hb▸HR.out⟩)
  ·have HR:=Lib.hid hR;clear hR;simp only[Par.Gives];go_simp;all_goals exact HR.out
 case hT3 =>
  intro w' hR;simp only[List.drop_succ_cons,List.drop_nil];have HR:=Lib.hid (below_on HW.out.2.2.1 hR);clear hR;go_wp2_with fail;go_ret2;exact⟨rfl,HR.out⟩
theorem one_ins
  (hfind:∀ w1,Below w.heap.size w w1->w1.cell? ⟨b,0,none⟩=some sv/\b<w1.heap.size/\Calls Tryz.prog 34 #[sv,.string tb] w1 fun e w'=>e=.returned (.int .i64 (t:Int))/\w'=w1) (hins:∀ w1,Below w.heap.size w w1->Calls Tryz.prog 36 #[(Value.pointer (some ⟨b,0,none⟩)),.int .i64 (t:Int),.slice p n c] w1 fun e w'=>e=.returned (.tuple #[.int .i64 r1,.int .i64 r2])/\Q w') :
  Calls Tryz.prog 44 #[(Value.pointer (some ⟨b,0,none⟩)),.agg #[.int .i64 1,.string tb,.int .i64 id,.string col,.slice p n c]] w fun e w'=>e=.returned (.tuple #[.int .i64 r1,.int .i64 r2])/\Q w':=by
 have hb1:=below_alloc w (.cells #[.int .i64 1,.string tb,.int .i64 id,.string col,.slice p n c] 47);have k1:=heap_alloc_new w (.cells #[.int .i64 1,.string tb,.int .i64 id,.string col,.slice p n c] 47);obtain⟨w1,hw1⟩:∃ w1,w.alloc (.cells #[.int .i64 1,.string tb,.int .i64 id,.string col,.slice p n c] 47)=w1:=⟨_,rfl⟩;obtain⟨B,hB⟩:∃ B,w.heap.size=B:=⟨_,rfl⟩;rw[hw1] at hb1 k1;rw[hB] at k1;have x0:=nd_cell k1 0;have x1:=nd_cell k1 1;have x2:=nd_cell k1 2;have x3:=nd_cell k1 3;have x4:=nd_cell k1 4;have xl:=lt_of_heap k1;have HW:=Lib.hid (And.intro hw1 (And.intro hB (And.intro hb1 k1)));have HT:=Lib.hid (And.intro hfind hins);clear hw1 hb1 k1 hB hfind hins;have ht0:¬ (t:Int)<0:=(by omega);go_enter Tryz.func44,Tryz.ntmps44;go_upto_region 1 with fail;rw[HW.out.1,HW.out.2.1];go_upto_region 3 with fail;clear x0 x1 x2 x3 x4 xl;have HK:Hid (∀ w',Below w1.heap.size w1 w'->w'.heap[B]?=some _):=Lib.hid (fun w' hw=>heap_on hw HW.out.2.2.2);have HF:Hid (∀ w',Below w1.heap.size w1 w'->_):=Lib.hid (fun w' hw=>HT.out.1 w' (below_on HW.out.2.2.1 hw));refine Par.wp_region_par 8 [(Value.pointer (some ⟨b,0,none⟩)),(Value.pointer (some ⟨b,0,none⟩)),(Value.pointer (some ⟨b,0,none⟩)),sv,(Value.pointer (some ⟨B,1,none⟩)),.string tb,.int .i64 (t:Int),.int .i64 (t:Int)] (fun w=>Below w1.heap.size w1 w) ?A4 ?hm4 ?hB4 ?hA4 ((below_drew w1)) ?hop4 ?hT4
 case hm4=>kernel_rfl
 case hB4=>kernel_rfl
 case hA4 =>
  simp only[Par.putA,Par.dstAt,Act.put,List.getElem?_toArray,List.getElem?_cons_zero,List.getElem?_cons_succ,Option.bind_some,List.setIfInBounds_toArray,List.set_cons_zero,List.set_cons_succ,List.getD_cons_zero,List.getD_cons_succ];rfl
 case hop4 =>
  simp only[List.take_succ_cons,List.take_zero,Par.GiveAll,and_true];and_intros<;>intro w' hR
  ·have HR:=Lib.hid hR;clear hR;simp only[Par.Gives];go_simp;all_goals exact HR.out
  ·have HR:=Lib.hid hR;have zl:=(HF.out w' hR).2.1;clear hR;simp only[Par.Gives];go_simp;all_goals exact HR.out
  ·have HR:=Lib.hid hR;have zl:=(HF.out w' hR).2.1;clear hR;simp only[Par.Gives];go_simp;all_goals exact HR.out
  ·have HR:=Lib.hid hR;have z1:=(HF.out w' hR).1;clear hR;simp only[Par.Gives];go_simp;all_goals exact HR.out
  ·have HR:=Lib.hid hR;have zl:=lt_of_heap (HK.out w' hR);clear hR;simp only[Par.Gives];go_simp;all_goals exact HR.out
  ·have HR:=Lib.hid hR;have z1:=nd_cell (HK.out w' hR) 1;clear hR;simp only[Par.Gives];go_simp;all_goals exact HR.out
  ·have HR:=Lib.hid hR;clear hR;simp only[Par.Gives];go_simp;exact ((HF.out w' HR.out).2.2).mono (fun e w'' ⟨he,hb⟩=>⟨he,hb▸HR.out⟩)
  ·have HR:=Lib.hid hR;clear hR;simp only[Par.Gives];go_simp;all_goals exact HR.out
 case hT4 =>
  intro w' hR;simp only[List.drop_succ_cons,List.drop_nil];have HR:=Lib.hid hR;have y0:=nd_cell (HK.out w' HR.out) 0;have y1:=nd_cell (HK.out w' HR.out) 1;have y2:=nd_cell (HK.out w' HR.out) 2;have y4:=nd_cell (HK.out w' HR.out) 4;have yl:=lt_of_heap (HK.out w' HR.out);clear hR;have hins:=HT.out.2 w' (below_on HW.out.2.2.1 HR.out);go_wp2_with (go_at_call 36;(with_reducible refine hins.mono ?_);rintro e w4 ⟨rfl,hq⟩;have HQ:=Lib.hid hq;clear hins hq);go_ret2;exact⟨rfl,HQ.out⟩
theorem one_del {r:Bool}
  (hfind:∀ w1,Below w.heap.size w w1->w1.cell? ⟨b,0,none⟩=some sv/\b<w1.heap.size/\Calls Tryz.prog 34 #[sv,.string tb] w1 fun e w'=>e=.returned (.int .i64 (t:Int))/\w'=w1) (hins:∀ w1,Below w.heap.size w w1->Calls Tryz.prog 38 #[(Value.pointer (some ⟨b,0,none⟩)),.int .i64 (t:Int),.int .i64 id] w1 fun e w'=>e=.returned (.bool r)/\Q w') :
  Calls Tryz.prog 44 #[(Value.pointer (some ⟨b,0,none⟩)),.agg #[.int .i64 2,.string tb,.int .i64 id,.string col,.slice p n c]] w fun e w'=>e=.returned (.tuple #[.int .i64 0,.int .i64 (if r=true then 0 else 6)])/\Q w':=by
 have hb1:=below_alloc w (.cells #[.int .i64 2,.string tb,.int .i64 id,.string col,.slice p n c] 47);have k1:=heap_alloc_new w (.cells #[.int .i64 2,.string tb,.int .i64 id,.string col,.slice p n c] 47);obtain⟨w1,hw1⟩:∃ w1,w.alloc (.cells #[.int .i64 2,.string tb,.int .i64 id,.string col,.slice p n c] 47)=w1:=⟨_,rfl⟩;obtain⟨B,hB⟩:∃ B,w.heap.size=B:=⟨_,rfl⟩;rw[hw1] at hb1 k1;rw[hB] at k1;have x0:=nd_cell k1 0;have x1:=nd_cell k1 1;have x2:=nd_cell k1 2;have x3:=nd_cell k1 3;have x4:=nd_cell k1 4;have xl:=lt_of_heap k1;have HW:=Lib.hid (And.intro hw1 (And.intro hB (And.intro hb1 k1)));have HT:=Lib.hid (And.intro hfind hins);clear hw1 hb1 k1 hB hfind hins;have ht0:¬ (t:Int)<0:=(by omega);go_enter Tryz.func44,Tryz.ntmps44;go_upto_region 1 with fail;rw[HW.out.1,HW.out.2.1];go_upto_region 3 with fail;clear x0 x1 x2 x3 x4 xl;have HK:Hid (∀ w',Below w1.heap.size w1 w'->w'.heap[B]?=some _):=Lib.hid (fun w' hw=>heap_on hw HW.out.2.2.2);have HF:Hid (∀ w',Below w1.heap.size w1 w'->_):=Lib.hid (fun w' hw=>HT.out.1 w' (below_on HW.out.2.2.1 hw));refine Par.wp_region_par 8 [(Value.pointer (some ⟨b,0,none⟩)),(Value.pointer (some ⟨b,0,none⟩)),(Value.pointer (some ⟨b,0,none⟩)),sv,(Value.pointer (some ⟨B,1,none⟩)),.string tb,.int .i64 (t:Int),.int .i64 (t:Int)] (fun w=>Below w1.heap.size w1 w) ?A5 ?hm5 ?hB5 ?hA5 ((below_drew w1)) ?hop5 ?hT5
 case hm5=>kernel_rfl
 case hB5=>kernel_rfl
 case hA5 =>
  simp only[Par.putA,Par.dstAt,Act.put,List.getElem?_toArray,List.getElem?_cons_zero,List.getElem?_cons_succ,Option.bind_some,List.setIfInBounds_toArray,List.set_cons_zero,List.set_cons_succ,List.getD_cons_zero,List.getD_cons_succ];rfl
 case hop5 =>
  simp only[List.take_succ_cons,List.take_zero,Par.GiveAll,and_true];and_intros<;>intro w' hR
  ·have HR:=Lib.hid hR;clear hR;simp only[Par.Gives];go_simp;all_goals exact HR.out
  ·have HR:=Lib.hid hR;have zl:=(HF.out w' hR).2.1;clear hR;simp only[Par.Gives];go_simp;all_goals exact HR.out
  ·have HR:=Lib.hid hR;have zl:=(HF.out w' hR).2.1;clear hR;simp only[Par.Gives];go_simp;all_goals exact HR.out
  ·have HR:=Lib.hid hR;have z1:=(HF.out w' hR).1;clear hR;simp only[Par.Gives];go_simp;all_goals exact HR.out
  ·have HR:=Lib.hid hR;have zl:=lt_of_heap (HK.out w' hR);clear hR;simp only[Par.Gives];go_simp;all_goals exact HR.out
  ·have HR:=Lib.hid hR;have z1:=nd_cell (HK.out w' hR) 1;clear hR;simp only[Par.Gives];go_simp;all_goals exact HR.out
  ·have HR:=Lib.hid hR;clear hR;simp only[Par.Gives];go_simp;exact ((HF.out w' HR.out).2.2).mono (fun e w'' ⟨he,hb⟩=>⟨he,hb▸HR.out⟩)
  ·have HR:=Lib.hid hR;clear hR;simp only[Par.Gives];go_simp;all_goals exact HR.out
 case hT5 =>
  intro w' hR;simp only[List.drop_succ_cons,List.drop_nil];have HR:=Lib.hid hR;have y0:=nd_cell (HK.out w' HR.out) 0;have y1:=nd_cell (HK.out w' HR.out) 1;have y2:=nd_cell (HK.out w' HR.out) 2;have y4:=nd_cell (HK.out w' HR.out) 4;have yl:=lt_of_heap (HK.out w' HR.out);clear hR;have hins:=HT.out.2 w' (below_on HW.out.2.2.1 HR.out);cases r <;> go_wp2_with (go_at_call 38;(with_reducible refine hins.mono ?_);rintro e w4 ⟨rfl,hq⟩;have HQ:=Lib.hid hq;clear hins hq)
  ·go_ret2;exact⟨rfl,HQ.out⟩
  ·go_ret2;exact⟨rfl,HQ.out⟩
theorem one_set {vb vo:Nat} {u:T3} {r:Int}
  (hfind:∀ w1,Below w.heap.size w w1->w1.cell? ⟨b,0,none⟩=some sv/\b<w1.heap.size/\Calls Tryz.prog 34 #[sv,.string tb] w1 fun e w'=>e=.returned (.int .i64 (t:Int))/\w'=w1) (hv:∀ w1,Below w.heap.size w w1->w1.cell? ⟨vb,vo,none⟩=some (.int .i64 u.1)/\w1.cell? ⟨vb,vo+1,none⟩=some (.int .i64 u.2.1)/\w1.cell? ⟨vb,vo+2,none⟩=some (.string u.2.2)/\vb<w1.heap.size) (hins:∀ w1,Below w.heap.size w w1->Calls Tryz.prog 40 #[(Value.pointer (some ⟨b,0,none⟩)),.int .i64 (t:Int),.int .i64 id,.string col,(Value.agg #[Value.int .i64 (u.1),Value.int .i64 (u.2.1),Value.string (u.2.2)])] w1 fun e w'=>e=.returned (.int .i64 r)/\Q w') :
  Calls Tryz.prog 44 #[(Value.pointer (some ⟨b,0,none⟩)),.agg #[.int .i64 3,.string tb,.int .i64 id,.string col,.slice (some ⟨vb,vo,none⟩) 1 c]] w fun e w'=>e=.returned (.tuple #[.int .i64 0,.int .i64 r])/\Q w':=by
 have hb1:=below_alloc w (.cells #[.int .i64 3,.string tb,.int .i64 id,.string col,.slice (some ⟨vb,vo,none⟩) 1 c] 47);have k1:=heap_alloc_new w (.cells #[.int .i64 3,.string tb,.int .i64 id,.string col,.slice (some ⟨vb,vo,none⟩) 1 c] 47);obtain⟨w1,hw1⟩:∃ w1,w.alloc (.cells #[.int .i64 3,.string tb,.int .i64 id,.string col,.slice (some ⟨vb,vo,none⟩) 1 c] 47)=w1:=⟨_,rfl⟩;obtain⟨B,hB⟩:∃ B,w.heap.size=B:=⟨_,rfl⟩;rw[hw1] at hb1 k1;rw[hB] at k1;have x0:=nd_cell k1 0;have x1:=nd_cell k1 1;have x2:=nd_cell k1 2;have x3:=nd_cell k1 3;have x4:=nd_cell k1 4;have xl:=lt_of_heap k1;have HW:=Lib.hid (And.intro hw1 (And.intro hB (And.intro hb1 k1)));have HT:=Lib.hid (And.intro hfind (And.intro hins hv));clear hw1 hb1 k1 hB hfind hins hv;have ht0:¬ (t:Int)<0:=(by omega);go_enter Tryz.func44,Tryz.ntmps44;go_upto_region 1 with fail;rw[HW.out.1,HW.out.2.1];go_upto_region 3 with fail;clear x0 x1 x2 x3 x4 xl;have HK:Hid (∀ w',Below w1.heap.size w1 w'->w'.heap[B]?=some _):=Lib.hid (fun w' hw=>heap_on hw HW.out.2.2.2);have HF:Hid (∀ w',Below w1.heap.size w1 w'->_):=Lib.hid (fun w' hw=>HT.out.1 w' (below_on HW.out.2.2.1 hw));refine Par.wp_region_par 8 [(Value.pointer (some ⟨b,0,none⟩)),(Value.pointer (some ⟨b,0,none⟩)),(Value.pointer (some ⟨b,0,none⟩)),sv,(Value.pointer (some ⟨B,1,none⟩)),.string tb,.int .i64 (t:Int),.int .i64 (t:Int)] (fun w=>Below w1.heap.size w1 w) ?A6 ?hm6 ?hB6 ?hA6 ((below_drew w1)) ?hop6 ?hT6
 case hm6=>kernel_rfl
 case hB6=>kernel_rfl
 case hA6 =>
  simp only[Par.putA,Par.dstAt,Act.put,List.getElem?_toArray,List.getElem?_cons_zero,List.getElem?_cons_succ,Option.bind_some,List.setIfInBounds_toArray,List.set_cons_zero,List.set_cons_succ,List.getD_cons_zero,List.getD_cons_succ];rfl
 case hop6 =>
  simp only[List.take_succ_cons,List.take_zero,Par.GiveAll,and_true];and_intros<;>intro w' hR
  ·have HR:=Lib.hid hR;clear hR;simp only[Par.Gives];go_simp;all_goals exact HR.out
  ·have HR:=Lib.hid hR;have zl:=(HF.out w' hR).2.1;clear hR;simp only[Par.Gives];go_simp;all_goals exact HR.out
  ·have HR:=Lib.hid hR;have zl:=(HF.out w' hR).2.1;clear hR;simp only[Par.Gives];go_simp;all_goals exact HR.out
  ·have HR:=Lib.hid hR;have z1:=(HF.out w' hR).1;clear hR;simp only[Par.Gives];go_simp;all_goals exact HR.out
  ·have HR:=Lib.hid hR;have zl:=lt_of_heap (HK.out w' hR);clear hR;simp only[Par.Gives];go_simp;all_goals exact HR.out
  ·have HR:=Lib.hid hR;have z1:=nd_cell (HK.out w' hR) 1;clear hR;simp only[Par.Gives];go_simp;all_goals exact HR.out
  ·have HR:=Lib.hid hR;clear hR;simp only[Par.Gives];go_simp;exact ((HF.out w' HR.out).2.2).mono (fun e w'' ⟨he,hb⟩=>⟨he,hb▸HR.out⟩)
  ·have HR:=Lib.hid hR;clear hR;simp only[Par.Gives];go_simp;all_goals exact HR.out
 case hT6 =>
  intro w' hR;simp only[List.drop_succ_cons,List.drop_nil];have HR:=Lib.hid hR;have y0:=nd_cell (HK.out w' HR.out) 0;have y1:=nd_cell (HK.out w' HR.out) 1;have y2:=nd_cell (HK.out w' HR.out) 2;have y4:=nd_cell (HK.out w' HR.out) 4;have yl:=lt_of_heap (HK.out w' HR.out);clear hR;have hk0:(0:Int)<1:=(by decide);go_upto_region 13 with fail;clear y0 y1 y2 y4 yl;obtain⟨w2,rfl⟩:∃ x,x=w':=⟨_,rfl⟩;have HK2:Hid (∀ w',Below w2.heap.size w2 w'->w'.heap[B]?=some _):=Lib.hid (fun w' hw=>HK.out w' (below_on HR.out hw));have HV:Hid (∀ w',Below w2.heap.size w2 w'->_):=Lib.hid (fun w' hw=>HT.out.2.2 w' (below_on HW.out.2.2.1 (below_on HR.out hw)));refine Par.wp_region_par 10 [(Value.pointer (some ⟨b,0,none⟩)),.int .i64 (t:Int),(Value.pointer (some ⟨B,2,none⟩)),.int .i64 id,(Value.pointer (some ⟨B,3,none⟩)),.string col,(Value.pointer (some ⟨B,4,none⟩)),.slice (some ⟨vb,vo,none⟩) 1 c,(Value.pointer (some ⟨vb,vo,none⟩)),(Value.agg #[Value.int .i64 (u.1),Value.int .i64 (u.2.1),Value.string (u.2.2)])] (fun w=>Below w2.heap.size w2 w) ?A7 ?hm7 ?hB7 ?hA7 ((below_drew w2)) ?hop7 ?hT7
  case hm7=>kernel_rfl
  case hB7=>kernel_rfl
  case hA7 =>
   simp only[Par.putA,Par.dstAt,Act.put,List.getElem?_toArray,List.getElem?_cons_zero,List.getElem?_cons_succ,Option.bind_some,List.setIfInBounds_toArray,List.set_cons_zero,List.set_cons_succ,List.getD_cons_zero,List.getD_cons_succ];rfl
  case hop7 =>
   simp only[List.take_succ_cons,List.take_zero,Par.GiveAll,and_true];and_intros<;>intro w' hR
   ·have HR:=Lib.hid hR;clear hR;simp only[Par.Gives];go_simp;all_goals exact HR.out
   ·have HR:=Lib.hid hR;clear hR;simp only[Par.Gives];go_simp;all_goals exact HR.out
   ·have HR:=Lib.hid hR;have zl:=lt_of_heap (HK2.out w' hR);clear hR;simp only[Par.Gives];go_simp;all_goals exact HR.out
   ·have HR:=Lib.hid hR;have z1:=nd_cell (HK2.out w' hR) 2;clear hR;simp only[Par.Gives];go_simp;all_goals exact HR.out
   ·have HR:=Lib.hid hR;have zl:=lt_of_heap (HK2.out w' hR);clear hR;simp only[Par.Gives];go_simp;all_goals exact HR.out
   ·have HR:=Lib.hid hR;have z1:=nd_cell (HK2.out w' hR) 3;clear hR;simp only[Par.Gives];go_simp;all_goals exact HR.out
   ·have HR:=Lib.hid hR;have zl:=lt_of_heap (HK2.out w' hR);clear hR;simp only[Par.Gives];go_simp;all_goals exact HR.out
   ·have HR:=Lib.hid hR;have z1:=nd_cell (HK2.out w' hR) 4;clear hR;simp only[Par.Gives];go_simp;all_goals exact HR.out
   ·have HR:=Lib.hid hR;clear hR;simp only[Par.Gives];go_simp;all_goals exact HR.out
   ·have HR:=Lib.hid hR;have z1:=(HV.out w' hR).1;have z2:=(HV.out w' hR).2.1;have z3':=(HV.out w' hR).2.2.1;clear hR;simp only[Par.Gives];go_simp;all_goals exact HR.out
  case hT7 =>
   intro w' hR;simp only[List.drop_succ_cons,List.drop_zero];have hins:=HT.out.2.1 w' (below_on HW.out.2.2.1 (below_on HR.out hR));clear hR;go_wp2_with (go_at_call 40;(with_reducible refine hins.mono ?_);rintro e w4 ⟨rfl,hq⟩;have HQ:=Lib.hid hq;clear hins hq);go_ret2;exact⟨rfl,HQ.out⟩
end
