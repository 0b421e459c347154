import Derived.Test.YtgbkmjnnlkgpnaaGreatZb40
set_option maxHeartbeats 8000000
set_option maxRecDepth 100000
namespace Go.Proofs.YtgbkmjnnlkgpnaaGreat
open Go Go.RowKit Go.Proofs Co Co.S
theorem set_box {w:World} {b k:Nat} {cs:Array Value} {v:Value} (hb:w.heap[b]?=some (.cells cs 54)) :
  Tn (fun q=>q=b) w (w.setCell ⟨b,k,none⟩ v)/\(∀ {base size m:Nat} {e:TypeId} {u:Value} {zs:List Value},HRow w base e size u m zs->e≠54->HRow (w.setCell ⟨b,k,none⟩ v) base e size u m zs):=by
 have oth:∀ q,q≠b->(w.setCell ⟨b,k,none⟩ v).heap[q]?=w.heap[q]?:=fun q hq=>heap_setCell_other w ⟨b,k,none⟩ q v hq
 refine⟨Tn.of_chg ⟨rfl,rfl,rfl,Nat.le_of_eq (by simp),fun q _ hn=>oth q hn⟩ (fun q _ hq=>by have hq:q=b:=hq;subst hq;exact .inl ⟨_,54,hb,rfl⟩),fun hr he=>hr.of (fun k hk=>oth k (fun e2=>by
  obtain⟨_,c2,q2⟩:=hr.block k hk;rw[e2,hb] at q2;cases q2;exact he rfl))⟩
section
variable {W w:World} {b:Nat} {ts:List T} {tt:List RT} {i:NI} {O:Nat->Nat} {t:T} {cv dv:Value}
theorem nadd_yes (h:DbN W b ts tt i O) (hi:InvQ ts) (hT:RdT W cv dv t) (hsm:SmQ t) (hyes:mayP ts t=0) (h0:0<t.cols.length) (hc:t.cols.length<=1000) (h8:ts.length<=1000) :
  Calls Tryz.prog 33 #[(Value.pointer (some ⟨b,0,none⟩)),.agg #[.string t.nm,cv,.string t.key,dv]] W fun e w'=>e=.returned (.int .i64 0)/\∃ i' O',DbN w' b (ts++[formT t]) (tt++[rt0]) i' O'/\Ext W O O'/\Tn (fun q=>O q≠0/\O q<=4) W w':=by
 obtain⟨pc,kc,rfl,_,_⟩:=hT.1.slice;obtain⟨pd,kd,rfl,_,_⟩:=hT.2.slice;obtain⟨nc,hnc⟩:∃ n,t.cols.length=n:=⟨_,rfl⟩;obtain⟨nd,hnd⟩:∃ n,t.deps.length=n:=⟨_,rfl⟩;obtain⟨nm,hnm⟩:∃ n,t.nm=n:=⟨_,rfl⟩;obtain⟨key,hkey⟩:∃ n,t.key=n:=⟨_,rfl⟩;have hbl:=below_alloc W (.cells #[.string nm,.slice pc nc kc,.string key,.slice pd nd kd] 70);have hV:=heap_alloc_new W (.cells #[.string nm,.slice pc nc kc,.string key,.slice pd nd kd] 70);have hT1:=hT.kp (Tn.of_below (S:=fun _=>False) hbl).kpX;have h1:=h.later hbl;obtain⟨w1,hw1⟩:∃ w1,W.alloc (.cells #[.string nm,.slice pc nc kc,.string key,.slice pd nd kd] 70)=w1:=⟨_,rfl⟩;obtain⟨V,hVe⟩:∃ V,W.heap.size=V:=⟨_,rfl⟩;rw[hw1] at hbl hV hT1 h1;rw[hVe] at hV;obtain⟨ps,cs,hsv,_,_⟩:=h1.form.isslice;obtain⟨po,co,hov,_,_⟩:=h1.outer.isslice;obtain⟨pn,cn,hnv,_,_⟩:=h1.nxs.isslice;have hsv:i.sv=.slice ps ts.length cs:=hsv;have hov:i.ov=.slice po ts.length co:=hov;have hnv:i.nv=.slice pn ts.length cn:=hnv;obtain⟨n,hn⟩:∃ n,ts.length=n:=⟨_,rfl⟩;rw[hn] at hsv hov hnv
 have hadd:∀ w,Below w1.heap.size w1 w->Calls Tryz.prog 58 #[.slice ps n cs,.agg #[.string nm,.slice pc nc kc,.string key,.slice pd nd kd]] w fun e w'=>e=.returned (.int .i64 0)/\Below w.heap.size w w':=fun w hw=>by
  have:=rmay_any (hT1.kp (Tn.of_below (S:=fun _=>False) hw).kpX) (h1.later hw).rdTs hi hsm
  rw[hnm,hkey,hnc,hnd,hyes,hsv] at this;exact this
 have hfrm:∀ w,Below w1.heap.size w1 w->Calls Tryz.prog 59 #[.agg #[.string nm,.slice pc nc kc,.string key,.slice pd nd kd]] w fun e w'=>∃ p1 c1,e=.returned (.agg #[.string nm,.slice p1 nc c1,.string key,.slice pd nd kd])/\RdT w' (.slice p1 nc c1) (.slice pd nd kd) (formT t)/\Below w.heap.size w w':=fun w hw=>by
  have:=rform_any (hT1.kp (Tn.of_below (S:=fun _=>False) hw).kpX) hc h0
  rw[hnm,hkey,hnc,hnd] at this;exact this
 have hbox:=h1.box;rw[hsv] at hbox
 have hsl:∀ q,(Value.slice ps n cs).ownBlock=some q->q<V:=fun q hq=>by
  rw[<- hVe];exact (HRow.lt h.form q (hsv▸hq)).2
 have hbV:b<V:=(by rw[<- hVe];exact lt_of_heap h.box);have HA:=Lib.hid hadd;have HF:=Lib.hid hfrm;have HV:=Lib.hid (And.intro hV (And.intro hbl (And.intro hbox (And.intro hsl hbV))));have HW:=Lib.hid (And.intro hw1 hVe);have HI:=Lib.hid (And.intro hsv (And.intro hov (And.intro hnv hn)));have H1:=Lib.hid h1;have HH:=Lib.hid h;have HN:=Lib.hid (And.intro hnm hkey);have HC8:=Lib.hid h8;rw[hnm,hkey,hnc,hnd];clear h h1 hT hT1 hsm hV hbl hadd hfrm hyes hw1 hVe hnm hkey hnc hnd hi hsv hov hnv hn hbox hc h0 h8 hsl hbV;go_enter Tryz.func33,Tryz.ntmps33;go_upto_region 1 with fail;rw[HW.out.1,HW.out.2];refine Par.wp_region_par 5 [(Value.pointer (some ⟨b,0,none⟩)),(Value.pointer (some ⟨b,0,none⟩)),(Value.pointer (some ⟨b,0,none⟩)),.slice ps n cs,.agg #[.string nm,.slice pc nc kc,.string key,.slice pd nd kd]] (fun w=>Below w1.heap.size w1 w) ?A1 ?hm1 ?hB1 ?hA1 ((below_drew w1)) ?hop1 ?hT1
 case hm1=>kernel_rfl
 case hB1=>kernel_rfl
 case hA1 =>
  simp only[Par.putA,Par.dstAt,Act.put,List.getElem?_toArray,List.getElem?_cons_zero,List.getElem?_cons_succ,Option.bind_some,List.setIfInBounds_toArray,List.set_cons_zero,List.set_cons_succ,List.getD_cons_zero,List.getD_cons_succ];rfl
 case hop1 =>
  simp only[List.take_succ_cons,List.take_zero,Par.GiveAll,and_true];and_intros<;>intro w' hR
  ·have HR:=Lib.hid hR;clear hR;simp only[Par.Gives];go_simp;all_goals exact HR.out
  ·have HR:=Lib.hid hR;clear hR;simp only[Par.Gives];go_simp;all_goals exact HR.out
  ·have HR:=Lib.hid hR;have zl:=lt_of_heap (heap_on hR HV.out.2.2.1);clear hR;simp only[Par.Gives];go_simp;all_goals exact HR.out
  ·have HR:=Lib.hid hR;have x0:=nd_cell (heap_on hR HV.out.2.2.1) 0;clear hR;simp only[Par.Gives];go_simp;all_goals exact HR.out
  ·have HR:=Lib.hid hR;have x0:=nd_cell (heap_on hR HV.out.1) 0;have x1:=nd_cell (heap_on hR HV.out.1) 1;have x2:=nd_cell (heap_on hR HV.out.1) 2;have x3:=nd_cell (heap_on hR HV.out.1) 3;clear hR;simp only[Par.Gives];go_simp;all_goals exact HR.out
 case hT1 =>
  intro w' hR;simp only[List.drop_succ_cons,List.drop_zero];have HR:=Lib.hid hR;have hadd:=HA.out w' hR;clear hR;go_upto_region 4 with (go_at_call 58;(with_reducible refine hadd.mono ?_);rintro e w4 ⟨rfl,hD⟩;have H4:=Lib.hid (below_on HR.out hD);clear hadd hD);have h4:=H1.out.later H4.out
  have HX:Hid (∀ w,w4.grownBy w (Value.slice ps n cs).ownBlock->w.cell? ⟨b,0,none⟩=some (.slice ps n cs)/\b<w.heap.size/\w.heap[b]?=some (.cells #[.slice ps n cs,i.ov,i.nv] 54)/\w.cell? ⟨V,0,none⟩=some (.string nm)/\w.cell? ⟨V,1,none⟩=some (.slice pc nc kc)/\w.cell? ⟨V,2,none⟩=some (.string key)/\w.cell? ⟨V,3,none⟩=some (.slice pd nd kd)):=Lib.hid (fun w hg=>by
   have kb:=heap_on H4.out HV.out.2.2.1;have kv:=heap_on H4.out HV.out.1
   have hb:=(hg.block b (lt_of_heap kb) (fun e=>by
    obtain⟨_,c2,q2⟩:=h4.form.block b (by rw[HI.out.1];exact e.symm);rw[kb] at q2;cases q2)).trans kb
   have hv:=(hg.block V (lt_of_heap kv) (fun e=>by have:=HV.out.2.2.2.1 V e.symm;omega)).trans kv;exact⟨nd_cell hb 0,lt_of_heap hb,hb,nd_cell hv 0,nd_cell hv 1,nd_cell hv 2,nd_cell hv 3⟩)
  have H4f:Hid (HRow w4 0 70 4 (.slice ps n cs) n (cellsF i.fs ts)):=Lib.hid (by
   have:=h4.form
   rw[HI.out.1,HI.out.2.2.2] at this;exact this)
  have HD4:=Lib.hid h4;have hn1:n+1<=1000000:=(by have:=HC8.out;have:=HI.out.2.2.2;omega);clear h4;refine Par.wp_region_par4 11 (FJ w4 (fun idx=>[(Value.pointer (some ⟨b,0,none⟩)),(Value.pointer (some ⟨b,0,none⟩)),(Value.pointer (some ⟨b,0,none⟩)),(Value.pointer (some ⟨b,0,none⟩)),.slice ps n cs,.agg #[.string nm,.slice pc nc kc,.string key,.slice pd nd kd],undef,undef,undef,(Value.pointer (some ⟨b,0,none⟩)),(Value.pointer (some ⟨b,0,none⟩))].getD idx undef) (.slice ps n cs) n (cellsF i.fs ts) nm key nc (.slice pd nd kd) (formT t)) ?AA ?hmA ?hBA ?hAA ?hJA ?hopA ?hTA
  case hmA=>kernel_rfl
  case hBA=>kernel_rfl
  case hAA =>
   intro vs;simp only[Par.putA,Par.dstAt,Act.put,List.getElem?_toArray,List.getElem?_cons_zero,List.getElem?_cons_succ,Option.bind_some,List.setIfInBounds_toArray,List.set_cons_zero,List.set_cons_succ];rfl
  case hJA =>
   intro vs;have hd:=below_drew w4;exact⟨grownB hd,fun _=>hd,fun _ _ h=>(by cases h),fun h=>(by cases h),fun h=>(by cases h),fun h=>(by cases h)⟩
  case hopA =>
   simp only[List.take_succ_cons,List.take_zero,Par.GiveAllK,and_true];and_intros<;>intro l vs w hJ hl hd hcl
   ·have HJ:=Lib.hid hJ;obtain⟨x0,xl,xb,x1,x2,x3,x4⟩:=HX.out w hJ.gb;clear xb;clear hJ hd hcl;simp only[Par.GivesW];go_simp;all_goals exact HJ.out.up 0 (by decide)
   ·have HJ:=Lib.hid hJ;obtain⟨x0,xl,xb,x1,x2,x3,x4⟩:=HX.out w hJ.gb;clear xb;clear hJ hd hcl;simp only[Par.GivesW];go_simp;all_goals exact HJ.out.up 1 (by decide)
   ·have HJ:=Lib.hid hJ;obtain⟨x0,xl,xb,x1,x2,x3,x4⟩:=HX.out w hJ.gb;clear xb;have d1:vs 1=(Value.pointer (some ⟨b,0,none⟩)):=hJ.ev 1 (by decide) (hd 1 (by kernel_rfl));clear hJ hd hcl;simp only[Par.GivesW,d1];go_simp;all_goals exact HJ.out.up 2 (by decide)
   ·have HJ:=Lib.hid hJ;obtain⟨x0,xl,xb,x1,x2,x3,x4⟩:=HX.out w hJ.gb;clear xb;have d2:vs 2=(Value.pointer (some ⟨b,0,none⟩)):=hJ.ev 2 (by decide) (hd 2 (by kernel_rfl));clear hJ hd hcl;simp only[Par.GivesW,d2];go_simp;all_goals exact HJ.out.up 3 (by decide)
   ·have HJ:=Lib.hid hJ;obtain⟨x0,xl,xb,x1,x2,x3,x4⟩:=HX.out w hJ.gb;clear xb;have d3:vs 3=(Value.pointer (some ⟨b,0,none⟩)):=hJ.ev 3 (by decide) (hd 3 (by kernel_rfl));clear hJ hd hcl;simp only[Par.GivesW,d3];go_simp;all_goals exact HJ.out.up 4 (by decide)
   ·have HJ:=Lib.hid hJ;obtain⟨x0,xl,xb,x1,x2,x3,x4⟩:=HX.out w hJ.gb;clear xb;clear hJ hd hcl;simp only[Par.GivesW];go_simp;all_goals exact HJ.out.up 5 (by decide)
   ·have h7:l 7=false:=(by cases h:l 7 with|false=>rfl|true=>exact absurd (hcl 7 6 (by kernel_rfl) h) (by simp[hl]));have h8:l 8=false:=(by cases h:l 8 with|false=>rfl|true=>exact absurd (hcl 8 7 (by kernel_rfl) h) (by simp[h7]));have HJ:=Lib.hid hJ;have d5:vs 5=.agg #[.string nm,.slice pc nc kc,.string key,.slice pd nd kd]:=hJ.ev 5 (by decide) (hd 5 (by kernel_rfl));have hc:=HF.out w (below_on H4.out (hJ.f0 h8));clear hJ hd hcl;simp only[Par.GivesW,d5];go_simp;refine hc.mono ?_;rintro e y ⟨p1,c1,rfl,hr,hb⟩;exact⟨_,rfl,HJ.out.s6 h7 h8 hr hb⟩
   ·have h8:l 8=false:=(by cases h:l 8 with|false=>rfl|true=>exact absurd (hcl 8 7 (by kernel_rfl) h) (by simp[hl]));have h6:=hd 6 (by kernel_rfl);obtain⟨p1,c1,e6,hr⟩:=hJ.f6 h6 h8;have HJ:=Lib.hid (hJ.s7 h8 e6 hr);clear hJ hd hcl hr;simp only[Par.GivesW,e6];go_simp;all_goals exact HJ.out
   ·have h7:=hd 7 (by kernel_rfl);obtain⟨p1,c1,g0,e6,hr,e7,hh⟩:=hJ.f7 h7 hl;have d4:vs 4=.slice ps n cs:=hJ.ev 4 (by decide) (hd 4 (by kernel_rfl))
    obtain⟨g,cg,w6,hrun,hr6,hg6,ho6⟩:=app_at (ty:=51) Tryz.underlying51 infoT46 rfl (by decide) (by decide) w 0 (H4f.out.later (hJ.f0 hl)) hn1 (Nat.zero_le _) g0 _ hh rfl (by
     intro x hx;simp only[List.mem_cons,List.not_mem_nil,or_false] at hx;rcases hx with rfl|rfl|rfl|rfl <;> rfl)
    exact Par.gives_append rfl (.tmp 19) (.tmp 22) 51 51 rfl d4 e7 hrun (hJ.s8 hl hr H4f.out rfl hr6 hg6 ho6)
   ·have HJ:=Lib.hid hJ;obtain⟨x0,xl,xb,x1,x2,x3,x4⟩:=HX.out w hJ.gb;clear xb;have d0:vs 0=(Value.pointer (some ⟨b,0,none⟩)):=hJ.ev 0 (by decide) (hd 0 (by kernel_rfl));clear hJ hd hcl;simp only[Par.GivesW,d0];go_simp;all_goals exact HJ.out.up 9 (by decide)
   ·have HJ:=Lib.hid hJ;obtain⟨x0,xl,xb,x1,x2,x3,x4⟩:=HX.out w hJ.gb;clear xb;have d9:vs 9=(Value.pointer (some ⟨b,0,none⟩)):=hJ.ev 9 (by decide) (hd 9 (by kernel_rfl));clear hJ hd hcl;simp only[Par.GivesW,d9];go_simp;all_goals exact HJ.out.up 10 (by decide)
  case hTA =>
   intro l vs w6 hl hJ;simp only[List.drop_succ_cons,List.drop_zero];have d10:vs 10=(Value.pointer (some ⟨b,0,none⟩)):=hJ.ev 10 (by decide) (hl 10 (by decide));obtain⟨g8,c8,p1,c1,e8,r8,s8,t8⟩:=hJ.f8 (hl 8 (by decide));obtain⟨x0,xl,xb,_⟩:=HX.out w6 hJ.gb;have xf:w6.frozen? ⟨b,0,none⟩=false:=frozen_of_row w6 b 0 _ _ xb;have hbox7:=heap_setCell_same w6 b 0 _ 54 (.slice (some ⟨g8,0,none⟩) (n+1) c8) xb;obtain⟨htn7,hnb7⟩:=set_box (k:=0) (v:=.slice (some ⟨g8,0,none⟩) (n+1) c8) xb
   have htn6:=tn_of46 hJ.gb (fun q hq=>by
    obtain⟨_,cur,e⟩:=H4f.out.block q hq;exact⟨cur,e⟩)
   have ho6:HRow w6 0 95 1 i.ov n (tt.map (·.rv)):=by
    have:=HD4.out.outer
    rw[HI.out.2.2.2] at this
    exact this.by_other hJ.gb (fun k cur e1 e2=>by
     obtain⟨_,c2,q2⟩:=H4f.out.block k e1;rw[e2] at q2;cases q2)
   have hn6:HRow w6 0 3 1 i.nv n (tt.map fun x=>Value.int .i64 (x.nx:Int)):=by
    have:=HD4.out.nxs
    rw[HI.out.2.2.2] at this
    exact this.by_other hJ.gb (fun k cur e1 e2=>by
     obtain⟨_,c2,q2⟩:=H4f.out.block k e1;rw[e2] at q2;cases q2)
   have r8b:=hnb7 r8 (by decide);have o7:=hnb7 ho6 (by decide);have n7:=hnb7 hn6 (by decide);have t8b:=t8.kp htn7.kpX;have htn47:=htn6.trans htn7 (T1:=fun q=>q=b∨(Value.slice ps n cs).ownBlock=some q) (fun _ _ h=>.inr h) (fun _ _ h=>.inl h);rw[HI.out.2.1] at o7 hbox7;rw[HI.out.2.2.1] at n7 hbox7;obtain⟨w7,hw7⟩:∃ w7,w6.setCell ⟨b,0,none⟩ (.slice (some ⟨g8,0,none⟩) (n+1) c8)=w7:=⟨_,rfl⟩;rw[hw7] at r8b o7 n7 t8b htn47 hbox7;have hbox7:w7.heap[b]?=some (.cells #[.slice (some ⟨g8,0,none⟩) (n+1) c8,.slice po n co,.slice pn n cn] 54):=hbox7;have H7:=Lib.hid (And.intro r8b (And.intro o7 (And.intro n7 (And.intro t8b (And.intro htn47 (And.intro hbox7 s8))))));have HW7:=Lib.hid hw7;rw[e8,d10];clear hJ hl e8 r8 s8 t8 xb hbox7 htn7 hnb7 htn6 ho6 hn6 r8b o7 n7 t8b htn47 hw7;go_upto_region 5 with fail;rw[HW7.out];clear x0 xf xl;refine Par.wp_region_par4 17 (AJ w7 (fun idx=>[(Value.pointer (some ⟨b,0,none⟩)),(Value.pointer (some ⟨b,0,none⟩)),(Value.pointer (some ⟨b,0,none⟩)),(Value.pointer (some ⟨b,0,none⟩)),(Value.pointer (some ⟨b,1,none⟩)),.slice po n co,undef,undef,(Value.pointer (some ⟨b,0,none⟩)),(Value.pointer (some ⟨b,0,none⟩)),(Value.pointer (some ⟨b,2,none⟩)),.slice pn n cn,undef,undef,(Value.pointer (some ⟨b,0,none⟩)),(Value.pointer (some ⟨b,1,none⟩)),undef].getD idx undef) b (.slice (some ⟨g8,0,none⟩) (n+1) c8) (.slice po n co) (.slice pn n cn) n (tt.map (·.rv)) (tt.map fun x=>Value.int .i64 (x.nx:Int))) ?AB ?hmB ?hBB ?hAB ?hJB ?hopB ?hTB
   case hmB=>kernel_rfl
   case hBB=>kernel_rfl
   case hAB =>
    intro vs;simp only[Par.putA,Par.dstAt,Act.put,List.getElem?_toArray,List.getElem?_cons_zero,List.getElem?_cons_succ,Option.bind_some,List.setIfInBounds_toArray,List.set_cons_zero,List.set_cons_succ];rfl
   case hJB =>
    intro vs;have hd:=below_drew w7;obtain⟨a1,a2,a3,a4,a5,a6,a7⟩:=H7.out;exact⟨Tn.of_below hd,fun _ _ _ _ _ _ _ h=>(by cases h),heap_on hd a6,fun _=>a2.later hd,fun _=>a3.later hd,fun h=>(by cases h),fun h=>(by cases h),fun h=>(by cases h),fun h=>(by cases h)⟩
   case hopB =>
    simp only[List.take_succ_cons,List.take_zero,Par.GiveAllK,and_true];and_intros<;>intro l vs w hJ hl hd hcl
    ·have HJ:=Lib.hid hJ;have xl:=lt_of_heap hJ.box;clear hJ hd hcl;simp only[Par.GivesW];go_simp;all_goals exact HJ.out.up 0 (by decide)
    ·have HJ:=Lib.hid hJ;have xl:=lt_of_heap hJ.box;clear hJ hd hcl;simp only[Par.GivesW];go_simp;all_goals exact HJ.out.up 1 (by decide)
    ·have HJ:=Lib.hid hJ;have xl:=lt_of_heap hJ.box;clear hJ hd hcl;simp only[Par.GivesW];go_simp;all_goals exact HJ.out.up 2 (by decide)
    ·have HJ:=Lib.hid hJ;have xl:=lt_of_heap hJ.box;have d2:vs 2=(Value.pointer (some ⟨b,0,none⟩)):=hJ.ev 2 (by decide) (by decide) (by decide) (by decide) (by decide) (by decide) (hd 2 (by kernel_rfl));clear hJ hd hcl;simp only[Par.GivesW,d2];go_simp;all_goals exact HJ.out.up 3 (by decide)
    ·have HJ:=Lib.hid hJ;have xl:=lt_of_heap hJ.box;have d3:vs 3=(Value.pointer (some ⟨b,0,none⟩)):=hJ.ev 3 (by decide) (by decide) (by decide) (by decide) (by decide) (by decide) (hd 3 (by kernel_rfl));clear hJ hd hcl;simp only[Par.GivesW,d3];go_simp;all_goals exact HJ.out.up 4 (by decide)
    ·have HJ:=Lib.hid hJ;have h7:l 7=false:=(by cases h:l 7 with|false=>rfl|true=>exact absurd (hcl 7 5 (by kernel_rfl) h) (by simp[hl]));have h16:l 16=false:=(by cases h:l 16 with|false=>rfl|true=>exact absurd (hcl 16 7 (by kernel_rfl) h) (by simp[h7]));have hbx:=hJ.box;rw[h16] at hbx;have xl:=lt_of_heap hbx;have x1:w.cell? ⟨b,1,none⟩=some (.slice po n co):=nd_cell hbx 1;clear hbx h7 h16;have d4:vs 4=(Value.pointer (some ⟨b,1,none⟩)):=hJ.ev 4 (by decide) (by decide) (by decide) (by decide) (by decide) (by decide) (hd 4 (by kernel_rfl));clear hJ hd hcl;simp only[Par.GivesW,d4];go_simp;all_goals exact HJ.out.up 5 (by decide)
    ·have h7:l 7=false:=(by cases h:l 7 with|false=>rfl|true=>exact absurd (hcl 7 6 (by kernel_rfl) h) (by simp[hl]));have HJ:=Lib.hid (hJ.s6 h7);clear hJ hd hcl;simp only[Par.GivesW];go_simp;all_goals exact HJ.out
    ·have h13:l 13=false:=(by cases h:l 13 with|false=>rfl|true=>exact absurd (hcl 13 7 (by kernel_rfl) h) (by simp[hl]));have h16:l 16=false:=(by cases h:l 16 with|false=>rfl|true=>exact absurd (hcl 16 7 (by kernel_rfl) h) (by simp[hl]));obtain⟨g0,e6,hh,_⟩:=hJ.f6 (hd 6 (by kernel_rfl)) hl;have d5:vs 5=.slice po n co:=hJ.ev 5 (by decide) (by decide) (by decide) (by decide) (by decide) (by decide) (hd 5 (by kernel_rfl))
     obtain⟨g,cg,w6,hrun,hr6,hg6,ho6⟩:=app_at (ty:=52) Tryz.underlying52 infoR55 rfl (by decide) (by decide) w 0 (hJ.r7 hl) hn1 (Nat.zero_le _) g0 _ hh rfl (by
      intro x hx;simp only[List.mem_cons,List.not_mem_nil,or_false] at hx;rcases hx with rfl;rfl)
     exact Par.gives_append rfl (.tmp 31) (.tmp 32) 52 52 rfl d5 e6 hrun (hJ.s7 hl h13 h16 rfl hr6 hg6 ho6)
    ·have HJ:=Lib.hid hJ;have xl:=lt_of_heap hJ.box;clear hJ hd hcl;simp only[Par.GivesW];go_simp;all_goals exact HJ.out.up 8 (by decide)
    ·have HJ:=Lib.hid hJ;have xl:=lt_of_heap hJ.box;have d8:vs 8=(Value.pointer (some ⟨b,0,none⟩)):=hJ.ev 8 (by decide) (by decide) (by decide) (by decide) (by decide) (by decide) (hd 8 (by kernel_rfl));clear hJ hd hcl;simp only[Par.GivesW,d8];go_simp;all_goals exact HJ.out.up 9 (by decide)
    ·have HJ:=Lib.hid hJ;have xl:=lt_of_heap hJ.box;have d9:vs 9=(Value.pointer (some ⟨b,0,none⟩)):=hJ.ev 9 (by decide) (by decide) (by decide) (by decide) (by decide) (by decide) (hd 9 (by kernel_rfl));clear hJ hd hcl;simp only[Par.GivesW,d9];go_simp;all_goals exact HJ.out.up 10 (by decide)
    ·have HJ:=Lib.hid hJ;have xl:=lt_of_heap hJ.box;have x2:w.cell? ⟨b,2,none⟩=some (.slice pn n cn):=nd_cell hJ.box 2;have d10:vs 10=(Value.pointer (some ⟨b,2,none⟩)):=hJ.ev 10 (by decide) (by decide) (by decide) (by decide) (by decide) (by decide) (hd 10 (by kernel_rfl));clear hJ hd hcl;simp only[Par.GivesW,d10];go_simp;all_goals exact HJ.out.up 11 (by decide)
    ·have h13:l 13=false:=(by cases h:l 13 with|false=>rfl|true=>exact absurd (hcl 13 12 (by kernel_rfl) h) (by simp[hl]));have HJ:=Lib.hid (hJ.s12 h13);clear hJ hd hcl;simp only[Par.GivesW];go_simp;all_goals exact HJ.out
    ·have h16:l 16=false:=(by cases h:l 16 with|false=>rfl|true=>exact absurd (hcl 16 13 (by kernel_rfl) h) (by simp[hl]));obtain⟨g0,e12,hh,_⟩:=hJ.f12 (hd 12 (by kernel_rfl)) hl;have d11:vs 11=.slice pn n cn:=hJ.ev 11 (by decide) (by decide) (by decide) (by decide) (by decide) (by decide) (hd 11 (by kernel_rfl))
     obtain⟨g,cg,w6,hrun,hr6,hg6,ho6⟩:=app_at (ty:=30) Tryz.underlying30 infoI3 rfl (by decide) (by decide) w 0 (hJ.r13 hl) hn1 (Nat.zero_le _) g0 _ hh rfl (by
      intro x hx;simp only[List.mem_cons,List.not_mem_nil,or_false] at hx;rcases hx with rfl;rfl)
     exact Par.gives_append rfl (.tmp 37) (.tmp 38) 30 30 rfl d11 e12 hrun (hJ.s13 (hd 7 (by kernel_rfl)) hl h16 rfl hr6 hg6 ho6)
    ·have HJ:=Lib.hid hJ;have xl:=lt_of_heap hJ.box;have d0:vs 0=(Value.pointer (some ⟨b,0,none⟩)):=hJ.ev 0 (by decide) (by decide) (by decide) (by decide) (by decide) (by decide) (hd 0 (by kernel_rfl));clear hJ hd hcl;simp only[Par.GivesW,d0];go_simp;all_goals exact HJ.out.up 14 (by decide)
    ·have HJ:=Lib.hid hJ;have xl:=lt_of_heap hJ.box;have d14:vs 14=(Value.pointer (some ⟨b,0,none⟩)):=hJ.ev 14 (by decide) (by decide) (by decide) (by decide) (by decide) (by decide) (hd 14 (by kernel_rfl));clear hJ hd hcl;simp only[Par.GivesW,d14];go_simp;all_goals exact HJ.out.up 15 (by decide)
    ·have d15:vs 15=(Value.pointer (some ⟨b,1,none⟩)):=hJ.ev 15 (by decide) (by decide) (by decide) (by decide) (by decide) (by decide) (hd 15 (by kernel_rfl));have h7:=hd 7 (by kernel_rfl);have h13:=hd 13 (by kernel_rfl);obtain⟨g7,c7,e7,_,_⟩:=hJ.f7 h7;have xb:=hJ.box;have xl:=lt_of_heap xb;have xf:w.frozen? ⟨b,1,none⟩=false:=frozen_of_row w b 1 _ _ xb;have x1:=nd_cell xb 1;have HJ:=Lib.hid (hJ.s16 h7 h13 hl undef);rw[e7] at HJ;clear hJ hd hcl xb;simp only[Par.GivesW,d15,e7];go_simp;all_goals exact HJ.out
   case hTB =>
    intro l vs w8 hl hJ;simp only[List.drop_succ_cons,List.drop_zero];have d1:vs 1=(Value.pointer (some ⟨b,0,none⟩)):=hJ.ev 1 (by decide) (by decide) (by decide) (by decide) (by decide) (by decide) (hl 1 (by decide));obtain⟨g7,c7,e7,r7,s7⟩:=hJ.f7 (hl 7 (by decide));obtain⟨g13,c13,e13,r13,s13⟩:=hJ.f13 (hl 13 (by decide));have xb:=hJ.box;rw[hl 16 (by decide),if_pos rfl,e7] at xb;have xl:=lt_of_heap xb;have xf:w8.frozen? ⟨b,2,none⟩=false:=frozen_of_row w8 b 2 _ _ xb;have x2:=nd_cell xb 2;have htn:=hJ.tn;have H8:=Lib.hid (And.intro r7 (And.intro s7 (And.intro r13 (And.intro s13 (And.intro xb htn)))));rw[d1,e13];clear hJ hl e7 r7 s7 r13 s13 xb htn d1 e13;go_wp2_with fail;go_ret;obtain⟨r7,s7,r13,s13,xb,htn⟩:=H8.out;obtain⟨a1,a2,a3,a4,a5,a6,a7⟩:=H7.out;have hbox9:=heap_setCell_same w8 b 2 _ 54 (.slice (some ⟨g13,0,none⟩) (n+1) c13) xb;obtain⟨htn9,hnb9⟩:=set_box (k:=2) (v:=.slice (some ⟨g13,0,none⟩) (n+1) c13) xb
    have f8:HRow w8 0 70 4 (.slice (some ⟨g8,0,none⟩) (n+1) c8) (n+1) (cellsF i.fs ts++[.string nm,.slice p1 nc c1,.string key,.slice pd nd kd]):=a1.of (fun k hk=>by
     obtain⟨_,c2,q2⟩:=a1.block k hk;refine htn.chg.block k (lt_of_heap q2) (fun hS=>?_);rcases hS with e|e|e
     ·rw[e,a6] at q2;cases q2
     ·obtain⟨_,c3,q3⟩:=a2.block k e;rw[q3] at q2;cases q2
     ·obtain⟨_,c3,q3⟩:=a3.block k e;rw[q3] at q2;cases q2)
    have f9:=hnb9 f8 (by decide);have o9:=hnb9 r7 (by decide);have n9:=hnb9 r13 (by decide);have t9:=a4.kp (htn.trans htn9 (T1:=fun _=>True) (fun _ _ _=>trivial) (fun _ _ _=>trivial)).kpX;have hD:=HD4.out;have e2:=hD.o2;have e3:=hD.o3;have e4:=hD.o4;rw[HI.out.1] at e2;rw[HI.out.2.1] at e3;rw[HI.out.2.2.1] at e4;have e1:=hD.o1;have k1:∀ q,q=b->O q≠0/\O q<=4:=fun q hq=>by rw[hq,e1];decide
    have tnAll:Tn (fun q=>O q≠0/\O q<=4) w4 (w8.setCell ⟨b,2,none⟩ (.slice (some ⟨g13,0,none⟩) (n+1) c13)) :=
     (a5.trans htn (T1:=fun q=>O q≠0/\O q<=4) (fun q _ hq=>hq.elim (k1 q) (fun hq=>by rw[e2 q hq];decide)) (fun q _ hq=>hq.elim (k1 q) (fun hq=>hq.elim (fun hq=>by rw[e3 q hq];decide) (fun hq=>by rw[e4 q hq];decide)))).trans htn9 (fun _ _ h=>h) (fun q _ hq=>k1 q hq)
    have hfin:=hD.addtab (t:=formT t) (c:=.slice p1 nc c1) (d:=.slice pd nd kd) hbox9 tnAll (by rw[HI.out.2.2.2];exact HN.out.1▸HN.out.2▸f9) t9 (by rw[HI.out.2.2.2];exact o9) (by rw[HI.out.2.2.2];exact n9)
     (fun q hq=>by rw[HI.out.1];cases hq;exact a7) (fun q hq=>by rw[HI.out.2.1];cases hq;exact s7.imp id (fun h=>Nat.le_trans a5.size h)) (fun q hq=>by rw[HI.out.2.2.1];cases hq;exact s13.imp id (fun h=>Nat.le_trans a5.size h))
    have hbW:=below_on HV.out.2.1 H4.out;exact⟨rfl,_,_,hfin.1,fun q hq=>hfin.2 q (Nat.lt_of_lt_of_le hq hbW.size),(Tn.of_below (S:=fun q=>O q≠0/\O q<=4) hbW).trans tnAll (fun _ _ h=>h) (fun _ _ h=>h)⟩
end
