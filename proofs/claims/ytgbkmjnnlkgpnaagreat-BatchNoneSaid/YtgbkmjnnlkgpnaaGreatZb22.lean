import Derived.Test.YtgbkmjnnlkgpnaaGreatZb21
import Derived.Laws.OwnMore
set_option maxHeartbeats 2000000
set_option maxRecDepth 100000
namespace Go.Proofs.YtgbkmjnnlkgpnaaGreat
open Go Go.RowKit Go.Proofs Co Co.S
def mapV (P:Int->Bool):Par.VW:=⟨fun v w=>∃ p n c,v=.agg #[.slice p n c]/\Vm w (.slice p n c) P,fun _ _ _ ⟨p,n,c,h1,h2⟩ hb=>⟨p,n,c,h1,h2.later hb⟩⟩
theorem IsV.mapV {P:Int->Bool} {W w':World} {e:Ending} (h:IsV P W e w'):∃ u,e=.returned u/\(mapV P).1 u w'/\Below W.heap.size W w':=by
 obtain⟨p,n,c,h1,h2,h3⟩:=h;exact⟨_,h1,⟨p,n,c,rfl,h2⟩,h3⟩
section
variable {W W':World} {tb next:Nat} {t:T} {i:In} {lab:Nat->Nat}
abbrev goneP (i:In):Int->Bool:=fun x=>i.G x || ofP i.late x
theorem tgone_any (h:TbM W tb t next i lab) (hl:i.late.length<=100):Calls Tryz.prog 65 #[(Value.pointer (some ⟨tb,0,none⟩))] W (IsV (goneP i) W):=by
 have hb:=below_alloc W (.cells #[.slice none 0 0] 113);have hk:=heap_alloc_new W (.cells #[.slice none 0 0] 113);have h1:=h.later hb;obtain⟨w1,hw1⟩:∃ w1,W.alloc (.cells #[.slice none 0 0] 113)=w1:=⟨_,rfl⟩;obtain⟨B,hBB⟩:∃ B,W.heap.size=B:=⟨_,rfl⟩;rw[hw1] at h1 hk hb;rw[hBB] at hk;have HG:=Lib.hid hb;obtain⟨pg,ng,cg,hgv⟩:=h.gone.slc;obtain⟨pl,cl,hlv,_,_⟩:=h.late.isslice;obtain⟨nl,hnl⟩:∃ n,i.late.length=n:=⟨_,rfl⟩;rw[hnl] at hlv hl
 have HX:Hid (∀ w,Below w1.heap.size w1 w->w.cell? ⟨tb,7,none⟩=some (.slice pg ng cg)/\w.cell? ⟨tb,8,none⟩=some (.slice pl nl cl)/\Vm w (.slice pg ng cg) i.G/\Rd w pl i.late):=Lib.hid (fun w hw=>by
  have h2:=h1.later hw;obtain⟨_,_,_,_,_,_,_,c7,c8,_⟩:=h2.cells;have hg:=h2.gone;have hr:=h2.late;rw[hgv] at c7 hg;rw[hlv] at c8 hr;exact⟨c7,c8,hg,by rw[<- hnl] at hr;exact Ro.rd hr⟩)
 have HN:=Lib.hid (And.intro hnl hl);have HW:=Lib.hid (And.intro hw1 (And.intro hBB hk));have zn:tb<w1.heap.size:=h1.tlt;clear h h1 hk hb hw1 hBB hgv hlv hnl hl;go_enter Tryz.func65,Tryz.ntmps65;go_upto_region 1 with fail;rw[HW.out.1,HW.out.2.1];refine Par.wp_region_par2 10 (fun w=>Below w1.heap.size w1 w) (Par.VL [(.eq (Value.pointer (some ⟨tb,0,none⟩))),(.eq (Value.pointer (some ⟨tb,0,none⟩))),(.eq (Value.pointer (some ⟨tb,7,none⟩))),(.eq (.agg #[.slice pg ng cg])),(.eq (Value.pointer (some ⟨tb,0,none⟩))),(.eq (Value.pointer (some ⟨tb,0,none⟩))),(.eq (Value.pointer (some ⟨tb,8,none⟩))),(.eq (.slice pl nl cl)),((mapV (ofP i.late))),((mapV (goneP i)))]) ?A1 ?hm1 ?hB1 (fun w w' h hb=>below_on h hb) (Par.VL.mono _) ?hA1 ((below_drew w1)) ?hop1 ?hT1
 case hm1=>kernel_rfl
 case hB1=>kernel_rfl
 case hA1 =>
  intro vs;simp only[Par.putA,Par.dstAt,Act.put,List.getElem?_toArray,List.getElem?_cons_zero,List.getElem?_cons_succ,Option.bind_some,List.setIfInBounds_toArray,List.set_cons_zero,List.set_cons_succ];rfl
 case hop1 =>
  simp only[List.take_succ_cons,List.take_zero,Par.GiveAllV,and_true];and_intros<;>intro vs w hK hd
  ·clear hd;simp only[Par.GivesV];go_simp;all_goals exact⟨rfl,Below.refl _ _⟩
  ·have d0:=hd 0 (by decide) (by kernel_rfl);replace d0:vs 0=(Value.pointer (some ⟨tb,0,none⟩)):=d0;clear hd;simp only[Par.GivesV,d0];go_simp;all_goals exact⟨rfl,Below.refl _ _⟩
  ·have d1:=hd 1 (by decide) (by kernel_rfl);replace d1:vs 1=(Value.pointer (some ⟨tb,0,none⟩)):=d1;have zt:=Nat.lt_of_lt_of_le zn hK.size;clear hd;simp only[Par.GivesV,d1];go_simp;all_goals exact⟨rfl,Below.refl _ _⟩
  ·have d2:=hd 2 (by decide) (by kernel_rfl);replace d2:vs 2=(Value.pointer (some ⟨tb,7,none⟩)):=d2;have k:=(HX.out w hK).1;clear hd;simp only[Par.GivesV,d2];go_simp;all_goals exact⟨rfl,Below.refl _ _⟩
  ·clear hd;simp only[Par.GivesV];go_simp;all_goals exact⟨rfl,Below.refl _ _⟩
  ·have d4:=hd 4 (by decide) (by kernel_rfl);replace d4:vs 4=(Value.pointer (some ⟨tb,0,none⟩)):=d4;clear hd;simp only[Par.GivesV,d4];go_simp;all_goals exact⟨rfl,Below.refl _ _⟩
  ·have d5:=hd 5 (by decide) (by kernel_rfl);replace d5:vs 5=(Value.pointer (some ⟨tb,0,none⟩)):=d5;have zt:=Nat.lt_of_lt_of_le zn hK.size;clear hd;simp only[Par.GivesV,d5];go_simp;all_goals exact⟨rfl,Below.refl _ _⟩
  ·have d6:=hd 6 (by decide) (by kernel_rfl);replace d6:vs 6=(Value.pointer (some ⟨tb,8,none⟩)):=d6;have k:=(HX.out w hK).2.1;clear hd;simp only[Par.GivesV,d6];go_simp;all_goals exact⟨rfl,Below.refl _ _⟩
  ·have d7:=hd 7 (by decide) (by kernel_rfl);replace d7:vs 7=(.slice pl nl cl):=d7
   skip
   clear hd;simp only[Par.GivesV,d7];go_simp;exact (vof HN.out.1 (by have:=HN.out.2;omega) (HX.out w hK).2.2.2).mono (fun e w'' h=>h.mapV)
  ·have d3:=hd 3 (by decide) (by kernel_rfl);replace d3:vs 3=(.agg #[.slice pg ng cg]):=d3;have d8:=hd 8 (by decide) (by kernel_rfl);obtain⟨p8,n8,c8,d8,hv8⟩:=d8;replace d8:vs 8=.agg #[.slice p8 n8 c8]:=d8;clear hd;simp only[Par.GivesV,d3,d8];go_simp;exact (vor (HX.out w hK).2.2.1 hv8).mono (fun e w'' h=>h.mapV)
 case hT1 =>
  intro vs w' hK hV;simp only[List.drop_succ_cons,List.drop_zero];have d0:=hV 0 (by decide);replace d0:vs 0=(Value.pointer (some ⟨tb,0,none⟩)):=d0;have d1:=hV 1 (by decide);replace d1:vs 1=(Value.pointer (some ⟨tb,0,none⟩)):=d1;have d2:=hV 2 (by decide);replace d2:vs 2=(Value.pointer (some ⟨tb,7,none⟩)):=d2;have d3:=hV 3 (by decide);replace d3:vs 3=(.agg #[.slice pg ng cg]):=d3;have d4:=hV 4 (by decide);replace d4:vs 4=(Value.pointer (some ⟨tb,0,none⟩)):=d4;have d5:=hV 5 (by decide);replace d5:vs 5=(Value.pointer (some ⟨tb,0,none⟩)):=d5;have d6:=hV 6 (by decide);replace d6:vs 6=(Value.pointer (some ⟨tb,8,none⟩)):=d6;have d7:=hV 7 (by decide);replace d7:vs 7=(.slice pl nl cl):=d7;have d8:=hV 8 (by decide);have d9:=hV 9 (by decide);clear hV;simp only[d0,d1,d2,d3,d4,d5,d6,d7];clear d0 d1 d2 d3 d4 d5 d6 d7;clear d8;obtain⟨p9,n9,c9,e9,hv9⟩:=d9;generalize vs 9=v9 at e9 ⊢;subst e9;generalize vs 8=v8;have hBx:=heap_on hK HW.out.2.2;have z0:=nd_cell hBx 0;have zf:=(fun i=>frozen_of_row w' B i _ _ hBx);have zl:=lt_of_heap hBx;have HR:=Lib.hid (And.intro hK (And.intro hv9 hBx));clear hK hv9 hBx;go_wp2_with fail;have hS:=heap_setCell_same w' B 0 _ _ (.slice p9 n9 c9) HR.out.2.2;have hBel:Below W.heap.size W (w'.setCell ⟨B,0,none⟩ (.slice p9 n9 c9)):=(below_on HG.out HR.out.1).setCell (p:=⟨B,0,none⟩) (Nat.le_of_eq HW.out.2.1) _
  have hv:Vm (w'.setCell ⟨B,0,none⟩ (.slice p9 n9 c9)) (.slice p9 n9 c9) (goneP i):=by
   obtain⟨l,m1,m2,m3⟩:=HR.out.2.1;refine⟨l,HRow.of m1 (fun k hk=>heap_setCell_other w' ⟨B,0,none⟩ k _ (fun e=>?_)),m2,m3⟩;obtain⟨_,cur,hc⟩:=HRow.block m1 k hk;subst e;rw[HR.out.2.2] at hc;cases hc
  generalize w'.setCell _ _=wz at hS hBel hv ⊢;have y0:=nd_cell hS 0;refine bodyPost_ret (v:=.agg #[.slice p9 n9 c9]) (by simp[results,Tryz.results65,go_sem,y0]) rfl ?_;exact⟨p9,n9,c9,rfl,hv,hBel⟩
theorem tnext_any (h:TbM W tb t next i lab):Calls Tryz.prog 74 #[(Value.pointer (some ⟨tb,0,none⟩))] W fun e w'=>e=.returned (.int .i64 (next:Int))/\w'=W:=by
 obtain⟨_,_,_,_,_,_,_,_,_,c9⟩:=h.cells;have zl:=h.tlt;clear h;go_enter Tryz.func74,Tryz.ntmps74
 go_wp2
 go_ret;exact⟨rfl,rfl⟩
theorem tlive_any (h:TbM W tb t next i lab) (hl:i.late.length<=100):Calls Tryz.prog 72 #[(Value.pointer (some ⟨tb,0,none⟩))] W (IsV (notP (goneP i) (next:Int)) W):=by
 have hb:=below_alloc W (.cells #[.slice none 0 0] 113);have hk:=heap_alloc_new W (.cells #[.slice none 0 0] 113);have h1:=h.later hb;obtain⟨w1,hw1⟩:∃ w1,W.alloc (.cells #[.slice none 0 0] 113)=w1:=⟨_,rfl⟩;obtain⟨B,hBB⟩:∃ B,W.heap.size=B:=⟨_,rfl⟩;rw[hw1] at h1 hk hb;rw[hBB] at hk;have HG:=Lib.hid hb
 have HX:Hid (∀ w,Below w1.heap.size w1 w->w.cell? ⟨tb,9,none⟩=some (.int .i64 (next:Int))/\TbM w tb t next i lab):=Lib.hid (fun w hw=>by
  have h2:=h1.later hw;exact⟨h2.cells.2.2.2.2.2.2.2.2.2,h2⟩)
 have HN:=Lib.hid hl;have HW:=Lib.hid (And.intro hw1 (And.intro hBB hk));have zn:tb<w1.heap.size:=h1.tlt;clear h h1 hk hb hw1 hBB hl;go_enter Tryz.func72,Tryz.ntmps72;go_upto_region 3 with fail;rw[HW.out.1,HW.out.2.1];refine Par.wp_region_par2 7 (fun w=>Below w1.heap.size w1 w) (Par.VL [(.eq (Value.pointer (some ⟨tb,0,none⟩))),((mapV (goneP i))),(.eq (Value.pointer (some ⟨tb,0,none⟩))),(.eq (Value.pointer (some ⟨tb,0,none⟩))),(.eq (Value.pointer (some ⟨tb,9,none⟩))),(.eq (.int .i64 (next:Int))),((mapV (notP (goneP i) (next:Int))))]) ?A2 ?hm2 ?hB2 (fun w w' h hb=>below_on h hb) (Par.VL.mono _) ?hA2 ((below_drew w1)) ?hop2 ?hT2
 case hm2=>kernel_rfl
 case hB2=>kernel_rfl
 case hA2 =>
  intro vs;simp only[Par.putA,Par.dstAt,Act.put,List.getElem?_toArray,List.getElem?_cons_zero,List.getElem?_cons_succ,Option.bind_some,List.setIfInBounds_toArray,List.set_cons_zero,List.set_cons_succ];rfl
 case hop2 =>
  simp only[List.take_succ_cons,List.take_zero,Par.GiveAllV,and_true];and_intros<;>intro vs w hK hd
  ·clear hd;simp only[Par.GivesV];go_simp;all_goals exact⟨rfl,Below.refl _ _⟩
  ·have d0:=hd 0 (by decide) (by kernel_rfl);replace d0:vs 0=(Value.pointer (some ⟨tb,0,none⟩)):=d0
   skip
   clear hd;simp only[Par.GivesV,d0];go_simp;exact (tgone_any (HX.out w hK).2 HN.out).mono (fun e w'' h=>h.mapV)
  ·clear hd;simp only[Par.GivesV];go_simp;all_goals exact⟨rfl,Below.refl _ _⟩
  ·have d2:=hd 2 (by decide) (by kernel_rfl);replace d2:vs 2=(Value.pointer (some ⟨tb,0,none⟩)):=d2;clear hd;simp only[Par.GivesV,d2];go_simp;all_goals exact⟨rfl,Below.refl _ _⟩
  ·have d3:=hd 3 (by decide) (by kernel_rfl);replace d3:vs 3=(Value.pointer (some ⟨tb,0,none⟩)):=d3;have zt:=Nat.lt_of_lt_of_le zn hK.size;clear hd;simp only[Par.GivesV,d3];go_simp;all_goals exact⟨rfl,Below.refl _ _⟩
  ·have d4:=hd 4 (by decide) (by kernel_rfl);replace d4:vs 4=(Value.pointer (some ⟨tb,9,none⟩)):=d4;have k:=(HX.out w hK).1;clear hd;simp only[Par.GivesV,d4];go_simp;all_goals exact⟨rfl,Below.refl _ _⟩
  ·have d1:=hd 1 (by decide) (by kernel_rfl);have d5:=hd 5 (by decide) (by kernel_rfl);replace d5:vs 5=(.int .i64 (next:Int)):=d5;obtain⟨p1,n1,c1,d1,hv1⟩:=d1;replace d1:vs 1=.agg #[.slice p1 n1 c1]:=d1;clear hd;simp only[Par.GivesV,d5,d1];go_simp;exact (vnot hv1 (next:Int)).mono (fun e w'' h=>h.mapV)
 case hT2 =>
  intro vs w' hK hV;simp only[List.drop_succ_cons,List.drop_zero];have d0:=hV 0 (by decide);replace d0:vs 0=(Value.pointer (some ⟨tb,0,none⟩)):=d0;have d1:=hV 1 (by decide);have d2:=hV 2 (by decide);replace d2:vs 2=(Value.pointer (some ⟨tb,0,none⟩)):=d2;have d3:=hV 3 (by decide);replace d3:vs 3=(Value.pointer (some ⟨tb,0,none⟩)):=d3;have d4:=hV 4 (by decide);replace d4:vs 4=(Value.pointer (some ⟨tb,9,none⟩)):=d4;have d5:=hV 5 (by decide);replace d5:vs 5=(.int .i64 (next:Int)):=d5;have d6:=hV 6 (by decide);clear hV;simp only[d0,d2,d3,d4,d5];clear d0 d2 d3 d4 d5;clear d1;obtain⟨p9,n9,c9,e9,hv9⟩:=d6;generalize vs 6=v9 at e9 ⊢;subst e9;generalize vs 1=v8;have hBx:=heap_on hK HW.out.2.2;have z0:=nd_cell hBx 0;have zf:=(fun i=>frozen_of_row w' B i _ _ hBx);have zl:=lt_of_heap hBx;have HR:=Lib.hid (And.intro hK (And.intro hv9 hBx));clear hK hv9 hBx;go_wp2_with fail;have hS:=heap_setCell_same w' B 0 _ _ (.slice p9 n9 c9) HR.out.2.2;have hBel:Below W.heap.size W (w'.setCell ⟨B,0,none⟩ (.slice p9 n9 c9)):=(below_on HG.out HR.out.1).setCell (p:=⟨B,0,none⟩) (Nat.le_of_eq HW.out.2.1) _
  have hv:Vm (w'.setCell ⟨B,0,none⟩ (.slice p9 n9 c9)) (.slice p9 n9 c9) (notP (goneP i) (next:Int)):=by
   obtain⟨l,m1,m2,m3⟩:=HR.out.2.1;refine⟨l,HRow.of m1 (fun k hk=>heap_setCell_other w' ⟨B,0,none⟩ k _ (fun e=>?_)),m2,m3⟩;obtain⟨_,cur,hc⟩:=HRow.block m1 k hk;subst e;rw[HR.out.2.2] at hc;cases hc
  generalize w'.setCell _ _=wz at hS hBel hv ⊢;have y0:=nd_cell hS 0;refine bodyPost_ret (v:=.agg #[.slice p9 n9 c9]) (by simp[results,Tryz.results72,go_sem,y0]) rfl ?_;exact⟨p9,n9,c9,rfl,hv,hBel⟩
theorem ptr_at {cb:Nat->Nat} {n k:Nat} (h:k<n):(ptrs cb n)[k]?=some (Value.pointer (some ⟨cb k,0,none⟩)):=by simp[ptrs,h]
theorem TbM.ptr (h:TbM W tb t next i lab) {k:Nat} (hk:k<t.cols.length):∃ g c,i.cv=.slice (some ⟨g,0,none⟩) t.cols.length c/\t.cols.length<=c/\c<=maxLen/\g<W.heap.size/\W.cell? ⟨g,k,none⟩=some (Value.pointer (some ⟨i.cb k,0,none⟩)):=by
 obtain⟨g,c,hv,h1,h2⟩:=h.cols.slice (by omega);have hc:=h.cols;rw[hv] at hc;exact⟨g,c,hv,h1,h2,(hc.lt g rfl).2,hc.cell (ptr_at hk)⟩
theorem twords_any (h:TbM W tb t next i lab) {x:ByteArray} {k:Nat} (hk:k<t.cols.length) (hx:ixC t.cols x=(k:Int)) (m:List (K 12)) (hm:m.Nodup) (hs:∀ s,s∈m↔∃ y∈i.cl k,y.1=2/\wd y.2.2=s):Calls Tryz.prog 80 #[(Value.pointer (some ⟨tb,0,none⟩)),.string x] W fun e w'=>e=.returned (.int .i64 (m.length:Int))/\Below W.heap.size W w':=by
 have hc:=tcol_any h x;rw[hx] at hc;obtain⟨g,c,hcv,h1,h2,_⟩:=h.ptr hk;obtain⟨n,hn⟩:∃ n,t.cols.length=n:=⟨_,rfl⟩
 have HX:Hid (∀ w,Below W.heap.size W w->w.cell? ⟨tb,4,none⟩=some (.slice (some ⟨g,0,none⟩) n c)/\w.cell? ⟨g,k,none⟩=some (Value.pointer (some ⟨i.cb k,0,none⟩))/\tb<w.heap.size/\g<w.heap.size/\Calls Tryz.prog 111 #[(Value.pointer (some ⟨i.cb k,0,none⟩))] w fun e w'=>e=.returned (.int .i64 (m.length:Int))/\w'=w):=Lib.hid (fun w hw=>by
  have h3:=h.later hw;obtain⟨g',c',e,_,_,k1,k2⟩:=h3.ptr hk;rw[hcv] at e;cases e;exact⟨by rw[<- hn,<- hcv];exact h3.cells.2.2.2.2.1,k2,h3.tlt,k1,col_words (h3.col k hk) m hm hs⟩)
 rw[hn] at h1 hk;have hd:decide ((k:Int)≥0)=true:=(by simp);have hki:(k:Int)<(n:Int):=(by omega);have hz:decide (0<=(k:Int))=true:=(by simp);rw[hz] at hc;unfold maxLen at h2;clear h hx hcv hn hs hm hz;generalize i.cb k=cb at HX;generalize m.length=ml at HX ⊢;go_enter Tryz.func80,Tryz.ntmps80
 go_wp2_with (first
  | (go_at_call 67;(with_reducible refine hc.mono ?_);rintro e w2 ⟨rfl,hb2⟩;obtain⟨x4,xk,xt,xg,xw⟩:=HX.out w2 hb2;have HB:=Lib.hid hb2;clear hb2 hc)
  | (go_at_call 111;(with_reducible refine xw.mono ?_);rintro e w3 ⟨rfl,hw3⟩;subst w3))
 go_ret;exact⟨rfl,HB.out⟩
end
theorem z3_at (n q:Nat) (h:q<n):(cells3 (List.replicate n z3))[q*3]?=some (.int .i64 0)/\(cells3 (List.replicate n z3))[q*3+1]?=some (.int .i64 0)/\(cells3 (List.replicate n z3))[q*3+2]?=some (.string ⟨#[]⟩):=by
 have:=cells3_at (List.replicate n z3) q (by simpa using h)
 simpa using this
theorem made3 (n:Nat):(madeCells #[Value.int .i64 0,Value.int .i64 0,Value.string ⟨#[]⟩] (n*3)).toList=cells3 (List.replicate n z3):=by
 apply List.ext_getElem?;intro i;by_cases hi:i<n*3
 ·have hq:i / 3<n:=(by omega);obtain⟨h0,h1,h2⟩:=z3_at n (i / 3) hq;have hm:i=i / 3*3∨i=i / 3*3+1∨i=i / 3*3+2:=(by omega);rcases hm with hm|hm|hm
  ·rw[show (cells3 (List.replicate n z3))[i]?=some (.int .i64 0) by rw[hm];exact h0];have hr:i % 3=0:=(by omega);simp[madeCells,hi,hr]
  ·rw[show (cells3 (List.replicate n z3))[i]?=some (.int .i64 0) by rw[hm];exact h1];have hr:i % 3=1:=(by omega);simp[madeCells,hi,hr]
  ·rw[show (cells3 (List.replicate n z3))[i]?=some (.string ⟨#[]⟩) by rw[hm];exact h2];have hr:i % 3=2:=(by omega);simp[madeCells,hi,hr]
 ·rw[List.getElem?_eq_none (by simp[madeCells];omega),List.getElem?_eq_none (by rw[cells3_len];simp;omega)]
theorem make_vals (n:Nat) (hn:n<=65536) (w:World):∃ w',(Instr.makeSlice 45 (.int .i64 (n:Int)) (.int .i64 (n:Int))).run Tryz.prog w=.ok (.slice (some ⟨w.heap.size,0,none⟩) n n) w'/\HRow w' w.heap.size 42 3 (.slice (some ⟨w.heap.size,0,none⟩) n n) n (cells3 (List.replicate n z3))/\w.grownBy w' none:=by
 obtain⟨i0,hi0,hz0,hz1,hz2⟩:=info_parts info28;obtain⟨w',h1,h2,h3⟩:=run_make_full (P:=Tryz.prog) w w.heap.size 45 42 i0 _ 3 Tryz.underlying45 hi0 hz0 hz1 .i64 .i64 n (by rw[hz2];omega) (by unfold maxLen;omega) (Nat.le_refl _);refine⟨w',h1,?_,h3⟩;rw[<- made3];exact HRow.of_own h2
section
variable {W W':World} {tb next:Nat} {t:T} {i:In} {lab:Nat->Nat}
theorem trow_any (h:TbM W tb t next i lab) {x:Int} (hx:F64 x) {p:Nat} (hf:i.f x=some p) (hp:∀ k,k<t.cols.length->p<(i.cl k).length) (hc:t.cols.length<=1000) (h0:0<t.cols.length) :
  Calls Tryz.prog 75 #[(Value.pointer (some ⟨tb,0,none⟩)),.int .i64 x] W fun e w'=>∃ g c,e=.returned (.tuple #[.slice (some ⟨g,0,none⟩) t.cols.length c,.bool true])/\W.heap.size<=g/\HRow w' W.heap.size 42 3 (.slice (some ⟨g,0,none⟩) t.cols.length c) t.cols.length (cells3 (rowOf i.cl t.cols.length p))/\Below W.heap.size W w':=by
 have ha:=tat_any h hx;rw[hf] at ha;simp only[Option.getD_some,Option.isSome_some] at ha;obtain⟨w1,hmk,hr1,hg1⟩:=make_vals t.cols.length (by omega) W;have hb1:Below W.heap.size W w1:=⟨hg1.os,hg1.tape,hg1.output,hg1.size,fun k hk=>hg1.block k hk (by simp)⟩;obtain⟨gc,cc,hcv,hn1,hn2,hgl,_⟩:=h.ptr h0;obtain⟨n,hn⟩:∃ n,t.cols.length=n:=⟨_,rfl⟩;have c4:=h.cells.2.2.2.2.1;have zl:=h.tlt;have z1:tb<w1.heap.size:=Nat.lt_of_lt_of_le zl hb1.size;have c4':=(h.later hb1).cells.2.2.2.2.1;rw[hcv] at c4 c4';obtain⟨cl,hcl⟩:∃ cl,i.cl=cl:=⟨_,rfl⟩;rw[hcl] at hp ⊢;obtain⟨mb,hmb⟩:∃ mb,W.heap.size=mb:=⟨_,rfl⟩
 have HX:Hid (∀ w k,k<n->Below w1.heap.size w1 w∨Below mb w1 w->w.cell? ⟨gc,k,none⟩=some (Value.pointer (some ⟨i.cb k,0,none⟩))/\gc<w.heap.size/\∃ (hpk:p<(cl k).length),Calls Tryz.prog 96 #[(Value.pointer (some ⟨i.cb k,0,none⟩)),.int .i64 (p:Int)] w fun e w'=>e=.returned (.tuple #[(Value.agg #[Value.int .i64 ((cl k)[p].1),Value.int .i64 ((cl k)[p].2.1),Value.string ((cl k)[p].2.2)]),.bool true])/\Below w.heap.size w w'):=Lib.hid (fun w k hk hw=>by
  have hw2:Below W.heap.size W w:=by
   rcases hw with hw|hw
   ·exact below_on hb1 hw
   ·exact hb1.trans (hw.mono (Nat.le_of_eq hmb))
  have h2:=h.later hw2;obtain⟨g',c',e,_,_,k1,k2⟩:=h2.ptr (hn▸hk);rw[hcv] at e;cases e;have hpk:=hp k (hn▸hk);refine⟨k2,k1,hpk,?_⟩;have hcol:=h2.col k (hn▸hk);rw[hcl] at hcol;exact col_at hcol p hpk)
 have HL:=Lib.hid (And.intro hp hb1);rw[hn] at hmk hr1 hp hn1 c4 c4' hc ⊢;rw[hmb] at hmk hr1;have HM:=Lib.hid (And.intro hmb hn);have hrl:(rowOf cl n p).length=n:=rowOf_len _ _ _;have HR1:=Lib.hid (And.intro hr1 hrl);unfold maxLen at hn2;clear h hf hx hr1 hg1 hcv hcl hmb hn hp hrl hb1;go_enter Tryz.func75,Tryz.ntmps75;go_wp2_with (go_at_call 63;(with_reducible refine ha.mono ?_);rintro e w2 ⟨rfl,hw2⟩;subst w2);go_loopg [30] (n+1) (fun gh jv w=>∃ (j:Nat) (X:List T3),jv=.int .i64 (j:Int)/\j<=n/\n+1<=j+gh/\X.length=n/\X.take j=(rowOf cl n p).take j/\HRow w mb 42 3 (.slice (some ⟨mb,0,none⟩) n n) n (cells3 X)/\Below mb w1 w)
 case atStart=>exact⟨0,List.replicate n z3,rfl,Nat.zero_le _,by omega,by simp,rfl,HR1.out.1,Below.refl _ _⟩
 case round =>
  obtain⟨j,X,rfl,hj,hg,hX,htk,hR,hB⟩:=hrel;by_cases hlt:j<n
  ·obtain⟨d0,d1,hpk,hcall⟩:=HX.out wr j hlt (.inr hB);have hjX:j<X.length:=by omega
   have hset:(X.set j (cl j)[p]).take (j+1)=(rowOf cl n p).take (j+1):=by
    have e1:(rowOf cl n p)[j]'(by rw[rowOf_len];exact hlt)=(cl j)[p]:=by
     have:=rowOf_get cl (p:=p) hlt
     rw[List.getElem?_eq_getElem (by rw[rowOf_len];exact hlt),List.getElem?_eq_getElem hpk] at this;simpa using this
    rw[List.take_succ_eq_append_getElem (by simpa using hjX),List.take_succ_eq_append_getElem (by rw[rowOf_len];exact hlt),List.take_set,List.set_eq_of_length_le (by simp;omega),htk,List.getElem_set_self,e1]
   obtain⟨y,hy⟩:∃ y,(cl j)[p]=y:=⟨_,rfl⟩;rw[hy] at hcall hset;obtain⟨yk,yn,ys⟩:=y;simp only at hcall;have HRR:=Lib.hid (And.intro hR (And.intro hB (And.intro hX hset)));have hji:(j:Int)<(n:Int):=(by omega);have hgl2:=(hR.lt mb rfl).2;clear hR hB hX htk hset hy hjX;go_wp2_with (go_at_call 96;(with_reducible refine hcall.mono ?_);rintro e w3 ⟨rfl,hb3⟩;have hR3:=HRR.out.1.later hb3;obtain⟨q0,q1,q2⟩:=cells3_at X j (by rw[HRR.out.2.2.1];exact hlt);have v0:=hR3.cell q0;have v1:=hR3.cell q1;have v2:=hR3.cell q2;have f0:=hR3.frozenAt (j*3);have f1:=hR3.frozenAt (j*3+1);have f2:=hR3.frozenAt (j*3+2);have zl3:=(hR3.lt mb rfl).2;have H3:=Lib.hid (And.intro hR3 hb3);clear hR3 hb3 q0 q1 q2);have hrs:=row_set H3.out.1 HRR.out.2.2.1 j hlt yk yn ys
   have hbel:Below mb w1 (((w3.setCell ⟨mb,j*3,none⟩ (.int .i64 yk)).setCell ⟨mb,j*3+1,none⟩ (.int .i64 yn)).setCell ⟨mb,j*3+2,none⟩ (.string ys)) :=
    (((HRR.out.2.1.trans (H3.out.2.mono (by omega))).setCell (p:=⟨mb,j*3,none⟩) (Nat.le_refl _) _).setCell (p:=⟨mb,j*3+1,none⟩) (Nat.le_refl _) _).setCell (p:=⟨mb,j*3+2,none⟩) (Nat.le_refl _) _
   generalize ((w3.setCell _ _).setCell _ _).setCell _ _=w4 at hrs hbel ⊢;have H4:=Lib.hid (And.intro hrs.1 hbel);clear hrs hbel;go_wp2_with fail;go_roundg (n-j)
   case measure=>omega
   case rel=>exact⟨j+1,X.set j (yk,yn,ys),by go_num,by omega,by omega,by rw[List.length_set];exact HRR.out.2.2.1,HRR.out.2.2.2,H4.out.1,H4.out.2⟩
  ·obtain rfl:j=n:=(by omega);have hXe:X=rowOf cl j p:=(by rw[<- List.take_of_length_le (l:=X) (Nat.le_of_eq hX),htk,List.take_of_length_le (Nat.le_of_eq HR1.out.2)]);subst hXe;have HF:=Lib.hid (And.intro hR hB);clear hR hB hX htk;go_wp2_with fail;go_ret2;rw[HM.out.1];exact⟨mb,j,rfl,Nat.le_refl _,HF.out.1,(HM.out.1▸HL.out.2).trans HF.out.2⟩
theorem tget_no (h:TbM W tb t next i lab) {x:Int} (hx:F64 x) {y:ByteArray} (hf:i.f x=none∨ixC t.cols y=-1):Calls Tryz.prog 118 #[(Value.pointer (some ⟨tb,0,none⟩)),.int .i64 x,.string y] W fun e w'=>e=.returned (.tuple #[(Value.agg #[Value.int .i64 (0),Value.int .i64 (0),Value.string (⟨#[]⟩)]),.bool false])/\Below W.heap.size W w':=by
 have hb:=below_alloc W (.cells #[.int .i64 0,.int .i64 0,.string ⟨#[]⟩] 42);have hk:=heap_alloc_new W (.cells #[.int .i64 0,.int .i64 0,.string ⟨#[]⟩] 42);have h1:=h.later hb;have ha:=tat_any h1 hx;have hc:=tcol_any h1 y;have HB:=Lib.hid (And.intro hb hk);clear hb hk h h1;cases hfx:i.f x with
 | none =>
  rw[hfx] at ha;clear hc hfx hf;go_enter Tryz.func118,Tryz.ntmps118;go_wp2_with (go_at_call 63;(with_reducible refine ha.mono ?_);rintro e w2 ⟨rfl,hw2⟩;subst w2);refine bodyPost_ret (v:=.tuple #[(Value.agg #[Value.int .i64 (0),Value.int .i64 (0),Value.string (⟨#[]⟩)]),.bool false]) (by simp[results,Tryz.results118,go_sem]) rfl ?_;exact⟨rfl,by first|exact HB.out.1|exact ((HB.out.1.setCell (Nat.le_refl _) _).setCell (Nat.le_refl _) _).setCell (Nat.le_refl _) _⟩
 | some p =>
  have hy:ixC t.cols y=-1:=hf.resolve_left (by rw[hfx];simp);rw[hfx] at ha;rw[hy] at hc;simp only[Option.getD_some,Option.isSome_some] at ha;have hd:decide (0<=(-1:Int))=false:=(by decide);rw[hd] at hc;clear hfx hf hy hd;generalize ((p:Nat):Int)=pp at ha;go_enter Tryz.func118,Tryz.ntmps118
  go_wp2_with (first
   | (go_at_call 63;(with_reducible refine ha.mono ?_);rintro e w2 ⟨rfl,hw2⟩;subst w2)
   | (go_at_call 67;(with_reducible refine hc.mono ?_);rintro e w3 ⟨rfl,hb3⟩;have hx3:=heap_on hb3 HB.out.2;have z0:=nd_cell hx3 0;have z1:=nd_cell hx3 1;have z2:=nd_cell hx3 2;have zf:=fun i=>frozen_of_row w3 W.heap.size i _ _ hx3;have zl:=lt_of_heap hx3;have HX:=Lib.hid (And.intro (below_on HB.out.1 hb3) hx3);clear hx3 hb3))
  have hS:=set3 HX.out.2 (.int .i64 0) (.int .i64 0) (.string ⟨#[]⟩);have hBel:=((HX.out.1.setCell (p:=⟨W.heap.size,0,none⟩) (Nat.le_refl _) (.int .i64 0)).setCell (p:=⟨W.heap.size,1,none⟩) (Nat.le_refl _) (.int .i64 0)).setCell (p:=⟨W.heap.size,2,none⟩) (Nat.le_refl _) (.string ⟨#[]⟩);generalize ((w3.setCell _ _).setCell _ _).setCell _ _=wz at hS hBel ⊢;have y0:=nd_cell hS 0;have y1:=nd_cell hS 1;have y2:=nd_cell hS 2;refine bodyPost_ret (v:=.tuple #[(Value.agg #[Value.int .i64 (0),Value.int .i64 (0),Value.string (⟨#[]⟩)]),.bool false]) (by simp[results,Tryz.results118,go_sem,y0,y1,y2]) rfl ?_;exact⟨rfl,hBel⟩
theorem tget_any (h:TbM W tb t next i lab) {x:Int} (hx:F64 x) {y:ByteArray} {p k:Nat} (hf:i.f x=some p) (hk:k<t.cols.length) (hy:ixC t.cols y=(k:Int)) (hp:p<(i.cl k).length) {u:T3} (hu:(i.cl k)[p]?=some u) :
  Calls Tryz.prog 118 #[(Value.pointer (some ⟨tb,0,none⟩)),.int .i64 x,.string y] W fun e w'=>e=.returned (.tuple #[(Value.agg #[Value.int .i64 (u.1),Value.int .i64 (u.2.1),Value.string (u.2.2)]),.bool true])/\Below W.heap.size W w':=by
 have hb:=below_alloc W (.cells #[.int .i64 0,.int .i64 0,.string ⟨#[]⟩] 42);have hk0:=heap_alloc_new W (.cells #[.int .i64 0,.int .i64 0,.string ⟨#[]⟩] 42);have h1:=h.later hb;have ha:=tat_any h1 hx;have hc:=tcol_any h1 y;rw[hf] at ha;rw[hy] at hc;simp only[Option.getD_some,Option.isSome_some] at ha;have hd:decide (0<=(k:Int))=true:=(by simp);rw[hd] at hc;obtain⟨g,c,hcv,n1,n2,_⟩:=h.ptr hk;obtain⟨n,hn⟩:∃ n,t.cols.length=n:=⟨_,rfl⟩
 have HX:Hid (∀ w,Below W.heap.size W w->w.cell? ⟨tb,4,none⟩=some (.slice (some ⟨g,0,none⟩) n c)/\w.cell? ⟨g,k,none⟩=some (Value.pointer (some ⟨i.cb k,0,none⟩))/\tb<w.heap.size/\g<w.heap.size/\Calls Tryz.prog 96 #[(Value.pointer (some ⟨i.cb k,0,none⟩)),.int .i64 (p:Int)] w fun e w'=>e=.returned (.tuple #[(Value.agg #[Value.int .i64 (u.1),Value.int .i64 (u.2.1),Value.string (u.2.2)]),.bool true])/\Below w.heap.size w w'):=Lib.hid (fun w hw=>by
  have h3:=h.later hw;obtain⟨g',c',e,_,_,k1,k2⟩:=h3.ptr hk;rw[hcv] at e;cases e;have hcall:=col_at (h3.col k hk) p hp;rw[List.getElem?_eq_getElem hp] at hu;rw[Option.some.inj hu] at hcall;exact⟨by rw[<- hn,<- hcv];exact h3.cells.2.2.2.2.1,k2,h3.tlt,k1,hcall⟩)
 rw[hn] at n1 hk;have hki:(k:Int)<(n:Int):=(by omega);have HB:=Lib.hid (And.intro hb hk0);unfold maxLen at n2;obtain⟨uk,un,us⟩:=u;clear h h1 hb hk0 hf hy hd hcv hn hu hp;generalize i.cb k=cb at HX;simp only at HX ⊢;go_enter Tryz.func118,Tryz.ntmps118
 go_wp2_with (first
  | (go_at_call 63;(with_reducible refine ha.mono ?_);rintro e w2 ⟨rfl,hw2⟩;subst w2)
  | (go_at_call 67;(with_reducible refine hc.mono ?_);rintro e w3 ⟨rfl,hb3⟩;obtain⟨x4,xk,xt,xg,xw⟩:=HX.out w3 (below_on HB.out.1 hb3);have H3:=Lib.hid hb3;clear hb3 hc)
  | (go_at_call 96;(with_reducible refine xw.mono ?_);rintro e w4 ⟨rfl,hb4⟩;have hx4:=heap_on hb4 (heap_on H3.out HB.out.2);have z0:=nd_cell hx4 0;have z1:=nd_cell hx4 1;have z2:=nd_cell hx4 2;have zf:=fun i=>frozen_of_row w4 W.heap.size i _ _ hx4;have zl:=lt_of_heap hx4;have H4:=Lib.hid (And.intro (below_on (below_on HB.out.1 H3.out) hb4) hx4);clear hx4 hb4))
 have hS:=set3 H4.out.2 (.int .i64 uk) (.int .i64 un) (.string us);have hBel:=((H4.out.1.setCell (p:=⟨W.heap.size,0,none⟩) (Nat.le_refl _) (.int .i64 uk)).setCell (p:=⟨W.heap.size,1,none⟩) (Nat.le_refl _) (.int .i64 un)).setCell (p:=⟨W.heap.size,2,none⟩) (Nat.le_refl _) (.string us);generalize ((w4.setCell _ _).setCell _ _).setCell _ _=wz at hS hBel ⊢;have y0:=nd_cell hS 0;have y1:=nd_cell hS 1;have y2:=nd_cell hS 2;refine bodyPost_ret (v:=.tuple #[(Value.agg #[Value.int .i64 (uk),Value.int .i64 (un),Value.string (us)]),.bool true]) (by simp[results,Tryz.results118,go_sem,y0,y1,y2]) rfl ?_;exact⟨rfl,hBel⟩
end
