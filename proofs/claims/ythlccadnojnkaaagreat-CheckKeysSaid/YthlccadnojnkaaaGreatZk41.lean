import Derived.Test.YthlccadnojnkaaaGreatZk40
import Derived.Test.YthlccadnojnkaaaGreatZk25
set_option maxHeartbeats 8000000
set_option maxRecDepth 100000
namespace Go.Proofs.YthlccadnojnkaaaGreat
open Go Go.RowKit Go.Proofs Co Co.S
abbrev sHere:ByteArray:=⟨#[104,101,114,101]⟩
abbrev vb1:List T3:=[(1,1,e0),(2,0,sHere)]
abbrev vb2:List T3:=[(1,1,e0),(2,0,bx),(0,0,e0),(1,1,e0)]
abbrev Lb0:List PT:=List.replicate 4 (0,[])
abbrev Lb1:List PT:=[(1,[(0,vb1)]),(0,[]),(0,[]),(0,[])]
abbrev Lb2:List PT:=[(1,[(0,vb1)]),(1,[(0,vb2)]),(0,[]),(0,[])]
theorem uM (W:World):Calls Tryz.prog 101 #[] W fun e w'=>e=.returned (.bool true)/\Below W.heap.size W w':=by
 have h:=aBu W;go_enter Tryz.func101,Tryz.ntmps101;go_wp2_with (go_at_call 135;(with_reducible refine h.mono ?_);rintro e w' ⟨rfl,hb⟩);go_ret;exact⟨rfl,hb⟩
theorem xZ:insE (pre 4)[0] vb1=0/\insP (pre 4)[0] (0,[]) vb1=(1,[(0,vb1)])/\insN (pre 4)[0] (0,[]) vb1=0:=by
 have h:insE (pre 4)[0] vb1=0:=(by decide);refine⟨h,?_,?_⟩
 ·unfold insP;rw[if_pos h];rfl
 unfold insN;rw[if_pos h];rfl
theorem yA:insE (pre 4)[1] vb2=0/\insP (pre 4)[1] (0,[]) vb2=(1,[(0,vb2)])/\insN (pre 4)[1] (0,[]) vb2=0:=by
 have h:insE (pre 4)[1] vb2=0:=(by decide);refine⟨h,?_,?_⟩
 ·unfold insP;rw[if_pos h];rfl
 unfold insN;rw[if_pos h];rfl
theorem aId:valueP (pre 4) (rowsL Lb2) sShop 0 [sLand,sName]=((2,0,sHere),true):=by decide
theorem aIe:valueP (pre 4) (rowsL Lb2) sShop 0 [sZone]=((0,0,e0),true):=by decide
theorem aIf:valueP (pre 4) (rowsL Lb2) sShop 9 [sZone]=((0,0,e0),false):=by decide
theorem aIz:byKeyP (pre 4) (rowsL Lb2) sLand (1,1,e0)=some 0:=by decide
theorem uN (W:World):Calls Tryz.prog 65 #[] W fun e w'=>e=.returned (.bool true)/\Below W.heap.size W w':=by
 have hstar:=cP W;go_enter Tryz.func65,Tryz.ntmps65;go_upto_region 2 with (go_at_call 13;(with_reducible refine hstar.mono ?_);rintro e w1 ⟨d,b,ps,rfl,hP⟩;clear hstar)
 obtain⟨p0,p1,p2,p3,rfl⟩:∃ p0 p1 p2 p3,ps=[p0,p1,p2,p3]:=by
  have:=hP.len.1
  match ps,this with
  | [a,b,c,d],_=>exact⟨a,b,c,d,rfl⟩
 have ht0:Calls Tryz.prog 29 #[.pointer (some ⟨d,0,none⟩),.string sLand] w1 fun e w'=>e=.returned (Value.pointer (some ⟨p0,0,none⟩))/\w'=w1:=hP.table (j:=0) (by decide) (aO _ (List.getElem_mem _)) (by decide:0<4)
 have ht1:Calls Tryz.prog 29 #[.pointer (some ⟨d,0,none⟩),.string sShop] w1 fun e w'=>e=.returned (Value.pointer (some ⟨p1,0,none⟩))/\w'=w1:=hP.table (j:=1) (by decide) (aO _ (List.getElem_mem _)) (by decide:1<4)
 have htx:Calls Tryz.prog 29 #[.pointer (some ⟨d,0,none⟩),.string bx] w1 fun e w'=>e=.returned (.pointer none)/\Below w1.heap.size w1 w':=by
  obtain⟨st,O,hD,_⟩:=hP.dd;exact hD.notable (bQ 4) (by decide) (by decide)
 have hsc:∀ w,Below w1.heap.size w1 w->Calls Tryz.prog 43 #[.pointer (some ⟨d,0,none⟩)] w fun e w'=>e=.returned (Value.pointer (some ⟨d,0,none⟩))/\w'=w:=fun w hw=>by
  obtain⟨st,O,hD,_⟩:=hP.dd;exact bF (hD.later hw).dlt
 have HP1:=qAq (qBq hP hsc);clear hP hsc
 go_upto_region 4 with (first
  | (go_at_call 29;(with_reducible refine ht0.mono ?_);rintro e w2 ⟨rfl,hw⟩;subst w2;clear ht0)
  | (go_at_call 29;(with_reducible refine ht1.mono ?_);rintro e w2 ⟨rfl,hw⟩;subst w2;clear ht1)
  | (go_at_call 29;(with_reducible refine htx.mono ?_);rintro e w2 ⟨rfl,hb2⟩;have hs2:=HP1.out.2 w2 hb2;have H2:=qAq hb2;clear htx hb2)
  | (go_at_call 43;(with_reducible refine hs2.mono ?_);rintro e w3 ⟨rfl,hw⟩;subst w3;clear hs2))
 go_upto_region 5 with fail;have hba:=aD w2 (.cells #[.int .i64 1,.int .i64 1,.string e0] 32);have hna:=heap_alloc_new w2 (.cells #[.int .i64 1,.int .i64 1,.string e0] 32);have hP4:=(HP1.out.1.later H2.out).with hba;have hz4:=World.size_alloc w2 (.cells #[.int .i64 1,.int .i64 1,.string e0] 32);obtain⟨w4,hw4⟩:∃ w4,w2.alloc (.cells #[.int .i64 1,.int .i64 1,.string e0] 32)=w4:=⟨_,rfl⟩;obtain⟨c,hc⟩:∃ c,w2.heap.size=c:=⟨_,rfl⟩;rw[hw4] at hba hna hP4 hz4;rw[hc] at hna hP4 hz4
 have hW4:Below W.heap.size W w4:=by
  have h1:=HP1.out.1.bel (Below.refl _ _) (fun q hq=>hq);exact aB (aB h1 H2.out) hba
 obtain⟨K1,hK1⟩:∃ K:Nat->Prop,(fun q=>q<W.heap.size∨(c<=q/\q<w4.heap.size))=K:=⟨_,rfl⟩;have hKW:∀ q,q<W.heap.size->K1 q:=(fun q hq=>by rw[<- hK1];exact .inl hq);have hKc:K1 c:=(by rw[<- hK1];exact .inr ⟨Nat.le_refl _,by omega⟩);rw[hK1] at hP4;have HX4:Hid (∀ w,Below w4.heap.size w4 w->w.heap[c]?=some (.cells #[.int .i64 1,.int .i64 1,.string e0] 32)):=qAq (fun w hw=>aE hw hna)
 have HP4:Hid (∀ w,Below w4.heap.size w4 w->(Calls Tryz.prog 29 #[.pointer (some ⟨d,0,none⟩),.string sLand] w fun e w'=>e=.returned (Value.pointer (some ⟨p0,0,none⟩))/\w'=w)/\(Calls Tryz.prog 29 #[.pointer (some ⟨d,0,none⟩),.string sShop] w fun e w'=>e=.returned (Value.pointer (some ⟨p1,0,none⟩))/\w'=w)):=qAq (fun w hw =>
  ⟨(hP4.later hw).table (j:=0) (by decide) (aO _ (List.getElem_mem _)) (by decide:0<4),(hP4.later hw).table (j:=1) (by decide) (aO _ (List.getElem_mem _)) (by decide:1<4)⟩)
 have HINS4:Hid (∀ w,Below w4.heap.size w4 w->∀ g,w.heap[g]?=some (.cells (cells3 vb1).toArray 32)->w4.heap.size<=g->Calls Tryz.prog 37 #[.pointer (some ⟨p0,0,none⟩),.slice (some ⟨g,0,none⟩) 2 2] w fun e w'=>e=.returned (.tuple #[.int .i64 0,.int .i64 0])/\PD K1 w4 w' d b (pre 4) [p0,p1,p2,p3] Lb1 Lb0):=qAq (fun w hw g hg hgS=>by
  have:=pU (j:=0) (m:=10) (vals:=vb1) hP4 hw (by decide) (by decide:0<4) (by decide) hg hgS ⟨by decide,by decide⟩ (by decide) (by decide) (gF (by decide)) (by decide)
  rw[show (Lb0[0]'(by decide):PT)=(0,[]) from rfl,xZ.1,xZ.2.1,xZ.2.2] at this;exact this)
 rw[hw4,hc];have HW4:=qAq (qBq hW4 (qBq hKW (qBq hKc hna)));clear hba hna hP4 hz4 hw4 hc hW4 hK1 hKW hKc;refine Par.wp_region_par4 6 (JI K1 w4 w4 d b (pre 4) [p0,p1,p2,p3] Lb1 Lb0 (fun idx=>[(Value.pointer (some ⟨d,0,none⟩)),(Value.pointer (some ⟨p0,0,none⟩)),(Value.agg #[Value.int .i64 (1),Value.int .i64 (1),Value.string (e0)]),(Value.agg #[Value.int .i64 (2),Value.int .i64 (0),Value.string (sHere)]),undef,.tuple #[.int .i64 0,.int .i64 0]].getD idx undef) 4 5 vb1) ?AM ?hmM ?hBM ?hAM ?hJM ?hopM ?hTM
 case hmM=>kernel_rfl
 case hBM=>kernel_rfl
 case hAM =>
  intro vs;simp only[Par.putA,Par.dstAt,Act.put,qDq,qEq,qFq,qLq,qGq,qHq,qIq];rfl
 case hJM =>
  intro vs;exact⟨fun _ _ h=>(by cases h),fun _=>aF w4,fun _ h=>(by cases h),fun h=>(by cases h)⟩
 case hopM =>
  simp only[qMq,List.take_zero,Par.GiveAllK,and_true];and_intros<;>intro l vs w hJ hl hd hcl
  ·have hI:l 5=false:=by
    cases hx:l 5 with
    | false=>rfl
    | true =>
     have h1:=hcl 5 1 (by kernel_rfl) hx;have h0:=hcl 1 0 (by kernel_rfl) h1;rw[hl] at h0;cases h0
   have HJ:=qAq hJ;clear hJ hd hcl;simp only[Par.GivesW];go_simp;all_goals exact HJ.out.up 0 (by decide) (by decide)
  ·have hI:l 5=false:=by
    cases hx:l 5 with
    | false=>rfl
    | true =>
     have h1:=hcl 5 1 (by kernel_rfl) hx;rw[hl] at h1;cases h1
   have HJ:=qAq hJ;have d0:vs 0=(Value.pointer (some ⟨d,0,none⟩)):=hJ.ev 0 (by decide) (hd 0 (by kernel_rfl));have hc:=(HP4.out w (hJ.pre hI)).1;clear hJ hd hcl;simp only[Par.GivesW,d0];go_simp;refine hc.mono ?_;rintro e y2 ⟨rfl,rfl⟩;exact⟨_,rfl,HJ.out.up 1 (by decide) (by decide)⟩
  ·have hI:l 5=false:=by
    cases hx:l 5 with
    | false=>rfl
    | true =>
     have h4:=hcl 5 4 (by kernel_rfl) hx;have h2:=hcl 4 2 (by kernel_rfl) h4;rw[hl] at h2;cases h2
   have HJ:=qAq hJ;have k0:=aA (HX4.out w (hJ.pre hI)) 0;have k1:=aA (HX4.out w (hJ.pre hI)) 1;have k2:=aA (HX4.out w (hJ.pre hI)) 2;clear hJ hd hcl;simp only[Par.GivesW];go_simp;all_goals exact HJ.out.up 2 (by decide) (by decide)
  ·have hI:l 5=false:=by
    cases hx:l 5 with
    | false=>rfl
    | true =>
     have h4:=hcl 5 4 (by kernel_rfl) hx;have h3:=hcl 4 3 (by kernel_rfl) h4;rw[hl] at h3;cases h3
   have HJ:=qAq hJ;clear hJ hd hcl;simp only[Par.GivesW];go_simp;all_goals exact HJ.out.up 3 (by decide) (by decide)
  ·have hI:l 5=false:=by
    cases hx:l 5 with
    | false=>rfl
    | true =>
     have h4:=hcl 5 4 (by kernel_rfl) hx;rw[hl] at h4;cases h4
   have HJ:=qAq hJ;have d2:vs 2=(Value.agg #[Value.int .i64 (1),Value.int .i64 (1),Value.string (e0)]):=hJ.ev 2 (by decide) (hd 2 (by kernel_rfl));have d3:vs 3=(Value.agg #[Value.int .i64 (2),Value.int .i64 (0),Value.string (sHere)]):=hJ.ev 3 (by decide) (hd 3 (by kernel_rfl));clear hJ hd hcl;simp only[Par.GivesW,d2,d3];go_simp;exact HJ.out.new hI (by decide) rfl rfl
  have HJ:=qAq hJ;have d1:vs 1=(Value.pointer (some ⟨p0,0,none⟩)):=hJ.ev 1 (by decide) (hd 1 (by kernel_rfl));obtain⟨g,d4,hg1,hg2⟩:=hJ.row hl (hd 4 (by kernel_rfl));have hins:=HINS4.out w (hJ.pre hl) g hg1 hg2;clear hJ hd hcl;simp only[Par.GivesW,d1,d4];go_simp;refine hins.mono ?_;rintro e y2 ⟨rfl,hP⟩;exact⟨_,rfl,HJ.out.put (by decide) hP⟩
 intro l vs w5 hl hJ;simp only[qNq,List.drop_nil];have hP5:=hJ.post (hl 5 (by decide));have HX5:Hid (∀ w,Below w5.heap.size w5 w->w.heap[c]?=some (.cells #[.int .i64 1,.int .i64 1,.string e0] 32)):=qAq (fun w hw=>aE hw ((hP5.still HW4.out.2.2.1).trans HW4.out.2.2.2))
 have HP5:Hid (∀ w,Below w5.heap.size w5 w->(Calls Tryz.prog 29 #[.pointer (some ⟨d,0,none⟩),.string sLand] w fun e w'=>e=.returned (Value.pointer (some ⟨p0,0,none⟩))/\w'=w)/\(Calls Tryz.prog 29 #[.pointer (some ⟨d,0,none⟩),.string sShop] w fun e w'=>e=.returned (Value.pointer (some ⟨p1,0,none⟩))/\w'=w)):=qAq (fun w hw =>
  ⟨(hP5.later hw).table (j:=0) (by decide) (aO _ (List.getElem_mem _)) (by decide:0<4),(hP5.later hw).table (j:=1) (by decide) (aO _ (List.getElem_mem _)) (by decide:1<4)⟩)
 have HINS5:Hid (∀ w,Below w5.heap.size w5 w->∀ g,w.heap[g]?=some (.cells (cells3 vb2).toArray 32)->w5.heap.size<=g->Calls Tryz.prog 37 #[.pointer (some ⟨p1,0,none⟩),.slice (some ⟨g,0,none⟩) 4 4] w fun e w'=>e=.returned (.tuple #[.int .i64 0,.int .i64 0])/\PD K1 w4 w' d b (pre 4) [p0,p1,p2,p3] Lb2 Lb0):=qAq (fun w hw g hg hgS=>by
  have:=pU (j:=1) (m:=10) (vals:=vb2) hP5 hw (by decide) (by decide:1<4) (by decide) hg hgS ⟨by decide,by decide⟩ (by decide) (by decide) (gF (by decide)) (by decide)
  rw[show (Lb1[1]'(by decide):PT)=(0,[]) from rfl,yA.1,yA.2.1,yA.2.2] at this;exact this)
 generalize vs 0=s0;generalize vs 1=s1;generalize vs 2=s2;generalize vs 3=s3;generalize vs 4=s4;generalize vs 5=s5;clear hJ hl hP5 vs;go_upto_region 6 with fail;refine Par.wp_region_par4 13 (JI K1 w4 w5 d b (pre 4) [p0,p1,p2,p3] Lb2 Lb0 (fun idx=>[(Value.pointer (some ⟨d,0,none⟩)),(Value.pointer (some ⟨p1,0,none⟩)),(Value.agg #[Value.int .i64 (1),Value.int .i64 (1),Value.string (e0)]),(Value.agg #[Value.int .i64 (2),Value.int .i64 (0),Value.string (bx)]),(Value.agg #[Value.int .i64 (0),Value.int .i64 (0),Value.string (e0)]),(Value.agg #[Value.int .i64 (1),Value.int .i64 (1),Value.string (e0)]),undef,.tuple #[.int .i64 0,.int .i64 0],.tuple #[.int .i64 0,.int .i64 0],.int .i64 0,.int .i64 0,.int .i64 0,.int .i64 0].getD idx undef) 6 7 vb2) ?AN ?hmN ?hBN ?hAN ?hJN ?hopN ?hTN
 case hmN=>kernel_rfl
 case hBN=>kernel_rfl
 case hAN =>
  intro vs;simp only[Par.putA,Par.dstAt,Act.put,qDq,qEq,qFq,qLq,qGq,qHq,qIq];rfl
 case hJN =>
  intro vs;exact⟨fun _ _ h=>(by cases h),fun _=>aF w5,fun _ h=>(by cases h),fun h=>(by cases h)⟩
 case hopN =>
  simp only[qMq,List.take_zero,Par.GiveAllK,and_true];and_intros<;>intro l vs w hJ hl hd hcl
  ·have hI:l 7=false:=by
    cases hx:l 7 with
    | false=>rfl
    | true =>
     have h1:=hcl 7 1 (by kernel_rfl) hx;have h0:=hcl 1 0 (by kernel_rfl) h1;rw[hl] at h0;cases h0
   have HJ:=qAq hJ;clear hJ hd hcl;simp only[Par.GivesW];go_simp;all_goals exact HJ.out.up 0 (by decide) (by decide)
  ·have hI:l 7=false:=by
    cases hx:l 7 with
    | false=>rfl
    | true =>
     have h1:=hcl 7 1 (by kernel_rfl) hx;rw[hl] at h1;cases h1
   have HJ:=qAq hJ;have d0:vs 0=(Value.pointer (some ⟨d,0,none⟩)):=hJ.ev 0 (by decide) (hd 0 (by kernel_rfl));have hc:=(HP5.out w (hJ.pre hI)).2;clear hJ hd hcl;simp only[Par.GivesW,d0];go_simp;refine hc.mono ?_;rintro e y2 ⟨rfl,rfl⟩;exact⟨_,rfl,HJ.out.up 1 (by decide) (by decide)⟩
  ·have hI:l 7=false:=by
    cases hx:l 7 with
    | false=>rfl
    | true =>
     have h6:=hcl 7 6 (by kernel_rfl) hx;have h2:=hcl 6 2 (by kernel_rfl) h6;rw[hl] at h2;cases h2
   have HJ:=qAq hJ;have k0:=aA (HX5.out w (hJ.pre hI)) 0;have k1:=aA (HX5.out w (hJ.pre hI)) 1;have k2:=aA (HX5.out w (hJ.pre hI)) 2;clear hJ hd hcl;simp only[Par.GivesW];go_simp;all_goals exact HJ.out.up 2 (by decide) (by decide)
  ·have hI:l 7=false:=by
    cases hx:l 7 with
    | false=>rfl
    | true =>
     have h6:=hcl 7 6 (by kernel_rfl) hx;have h3:=hcl 6 3 (by kernel_rfl) h6;rw[hl] at h3;cases h3
   have HJ:=qAq hJ;clear hJ hd hcl;simp only[Par.GivesW];go_simp;all_goals exact HJ.out.up 3 (by decide) (by decide)
  ·have hI:l 7=false:=by
    cases hx:l 7 with
    | false=>rfl
    | true =>
     have h6:=hcl 7 6 (by kernel_rfl) hx;have h4:=hcl 6 4 (by kernel_rfl) h6;rw[hl] at h4;cases h4
   have HJ:=qAq hJ;clear hJ hd hcl;simp only[Par.GivesW];go_simp;all_goals exact HJ.out.up 4 (by decide) (by decide)
  ·have hI:l 7=false:=by
    cases hx:l 7 with
    | false=>rfl
    | true =>
     have h6:=hcl 7 6 (by kernel_rfl) hx;have h5:=hcl 6 5 (by kernel_rfl) h6;rw[hl] at h5;cases h5
   have HJ:=qAq hJ;have k0:=aA (HX5.out w (hJ.pre hI)) 0;have k1:=aA (HX5.out w (hJ.pre hI)) 1;have k2:=aA (HX5.out w (hJ.pre hI)) 2;clear hJ hd hcl;simp only[Par.GivesW];go_simp;all_goals exact HJ.out.up 5 (by decide) (by decide)
  ·have hI:l 7=false:=by
    cases hx:l 7 with
    | false=>rfl
    | true =>
     have h6:=hcl 7 6 (by kernel_rfl) hx;rw[hl] at h6;cases h6
   have HJ:=qAq hJ;have d2:vs 2=(Value.agg #[Value.int .i64 (1),Value.int .i64 (1),Value.string (e0)]):=hJ.ev 2 (by decide) (hd 2 (by kernel_rfl));have d3:vs 3=(Value.agg #[Value.int .i64 (2),Value.int .i64 (0),Value.string (bx)]):=hJ.ev 3 (by decide) (hd 3 (by kernel_rfl));have d4:vs 4=(Value.agg #[Value.int .i64 (0),Value.int .i64 (0),Value.string (e0)]):=hJ.ev 4 (by decide) (hd 4 (by kernel_rfl));have d5:vs 5=(Value.agg #[Value.int .i64 (1),Value.int .i64 (1),Value.string (e0)]):=hJ.ev 5 (by decide) (hd 5 (by kernel_rfl));clear hJ hd hcl;simp only[Par.GivesW,d2,d3,d4,d5];go_simp;exact HJ.out.new hI (by decide) rfl rfl
  ·have HJ:=qAq hJ;have d1:vs 1=(Value.pointer (some ⟨p1,0,none⟩)):=hJ.ev 1 (by decide) (hd 1 (by kernel_rfl));obtain⟨g,d6,hg1,hg2⟩:=hJ.row hl (hd 6 (by kernel_rfl));have hins:=HINS5.out w (hJ.pre hl) g hg1 hg2;clear hJ hd hcl;simp only[Par.GivesW,d1,d6];go_simp;refine hins.mono ?_;rintro e y2 ⟨rfl,hP⟩;exact⟨_,rfl,HJ.out.put (by decide) hP⟩
  ·have HJ:=qAq hJ;have d7:vs 7=.tuple #[.int .i64 0,.int .i64 0]:=hJ.ev 7 (by decide) (hd 7 (by kernel_rfl));clear hJ hd hcl;simp only[Par.GivesW,d7];go_simp;all_goals exact HJ.out.up 8 (by decide) (by decide)
  ·have HJ:=qAq hJ;have d8:vs 8=.tuple #[.int .i64 0,.int .i64 0]:=hJ.ev 8 (by decide) (hd 8 (by kernel_rfl));clear hJ hd hcl;simp only[Par.GivesW,d8];go_simp;all_goals exact HJ.out.up 9 (by decide) (by decide)
  ·have HJ:=qAq hJ;have d8:vs 8=.tuple #[.int .i64 0,.int .i64 0]:=hJ.ev 8 (by decide) (hd 8 (by kernel_rfl));clear hJ hd hcl;simp only[Par.GivesW,d8];go_simp;all_goals exact HJ.out.up 10 (by decide) (by decide)
  ·have HJ:=qAq hJ;have d9:vs 9=.int .i64 0:=hJ.ev 9 (by decide) (hd 9 (by kernel_rfl));clear hJ hd hcl;simp only[Par.GivesW,d9];go_simp;all_goals exact HJ.out.up 11 (by decide) (by decide)
  have HJ:=qAq hJ;have d10:vs 10=.int .i64 0:=hJ.ev 10 (by decide) (hd 10 (by kernel_rfl));clear hJ hd hcl;simp only[Par.GivesW,d10];go_simp;all_goals exact HJ.out.up 12 (by decide) (by decide)
 intro l vs w6 hl hJ;simp only[qNq,List.drop_nil];have hP6:=hJ.post (hl 7 (by decide));have d11:vs 11=.int .i64 0:=hJ.ev 11 (by decide) (hl 11 (by decide));have d12:vs 12=.int .i64 0:=hJ.ev 12 (by decide) (hl 12 (by decide));simp only[d11,d12];have x6:w6.heap[c]?=some (.cells #[.int .i64 1,.int .i64 1,.string e0] 32):=(hP6.still HW4.out.2.2.1).trans HW4.out.2.2.2;have hW6:=hP6.bel HW4.out.1 HW4.out.2.1;have H6:=qAq (qBq hP6 (qBq x6 hW6));have hpath1:=Wd.lits (l:=[sLand,sName]) (heap_alloc_new w6 (.cells #[.string sLand,.string sName] 9)) rfl (by decide);have hval1:=(hP6.later (aD w6 (.cells #[.string sLand,.string sName] 9))).value (cO 4 (by decide)) (bQ 4) aO sShop (id:=0) (by decide) hpath1;rw[aId] at hval1;have hval1:Calls Tryz.prog 99 #[.pointer (some ⟨d,0,none⟩),.string sShop,.int .i64 0,.slice (some ⟨w6.heap.size,0,none⟩) 2 2] (w6.alloc (.cells #[.string sLand,.string sName] 9)) fun e w'=>e=.returned (.tuple #[(Value.agg #[Value.int .i64 (2),Value.int .i64 (0),Value.string (sHere)]),.bool true])/\Below (w6.alloc (.cells #[.string sLand,.string sName] 9)).heap.size (w6.alloc (.cells #[.string sLand,.string sName] 9)) w':=hval1
 generalize vs 0=s10;generalize vs 1=s11;generalize vs 2=s12;generalize vs 3=s13;generalize vs 4=s14;generalize vs 5=s15;generalize vs 6=s16;generalize vs 7=s17;generalize vs 8=s18;generalize vs 9=s19;generalize vs 10=s20;clear hJ hl hP6 d11 d12 x6 hW6 hpath1 vs;go_upto_region 8 with (go_at_call 99;(with_reducible refine hval1.mono ?_);rintro e w7 ⟨rfl,hb7⟩;have H7:=qAq (qBq (aB (aB (aD w6 (.cells #[.string sLand,.string sName] 9)) hb7) (aD w7 (.cells #[.int .i64 2,.int .i64 0,.string sHere] 32))) (heap_alloc_new w7 (.cells #[.int .i64 2,.int .i64 0,.string sHere] 32)));clear hval1 hb7);obtain⟨w8,hw8⟩:∃ w8,w7.alloc (.cells #[.int .i64 2,.int .i64 0,.string sHere] 32)=w8:=⟨_,rfl⟩;obtain⟨c6,hc6⟩:∃ c,w7.heap.size=c:=⟨_,rfl⟩;rw[hw8,hc6] at H7;rw[hw8,hc6];clear hw8 hc6;have hval2:=((H6.out.1.later H7.out.1).later (aD w8 (.cells #[.string sZone] 9))).value (cO 4 (by decide)) (bQ 4) aO sShop (id:=0) (by decide) (Wd.lits (l:=[sZone]) (heap_alloc_new w8 (.cells #[.string sZone] 9)) rfl (by decide));rw[aIe] at hval2;have hval2:Calls Tryz.prog 99 #[.pointer (some ⟨d,0,none⟩),.string sShop,.int .i64 0,.slice (some ⟨w8.heap.size,0,none⟩) 1 1] (w8.alloc (.cells #[.string sZone] 9)) fun e w'=>e=.returned (.tuple #[(Value.agg #[Value.int .i64 (0),Value.int .i64 (0),Value.string (e0)]),.bool true])/\Below (w8.alloc (.cells #[.string sZone] 9)).heap.size (w8.alloc (.cells #[.string sZone] 9)) w':=hval2
 go_upto_region 9 with (go_at_call 99;(with_reducible refine hval2.mono ?_);rintro e w9 ⟨rfl,hb9⟩;have H9:=qAq (qBq (aB (aB (aD w8 (.cells #[.string sZone] 9)) hb9) (aD w9 (.cells #[.int .i64 0,.int .i64 0,.string e0] 32))) (heap_alloc_new w9 (.cells #[.int .i64 0,.int .i64 0,.string e0] 32)));clear hval2 hb9);obtain⟨w10,hw10⟩:∃ w,w9.alloc (.cells #[.int .i64 0,.int .i64 0,.string e0] 32)=w:=⟨_,rfl⟩;obtain⟨c8,hc8⟩:∃ c,w9.heap.size=c:=⟨_,rfl⟩;rw[hw10,hc8] at H9;rw[hw10,hc8];clear hw10 hc8;have H10:=qAq (qBq (aB H7.out.1 H9.out.1) (qBq (aE H9.out.1 H7.out.2) H9.out.2));have hval3:=((H6.out.1.later H10.out.1).later (aD w10 (.cells #[.string sZone] 9))).value (cO 4 (by decide)) (bQ 4) aO sShop (id:=9) (by decide) (Wd.lits (l:=[sZone]) (heap_alloc_new w10 (.cells #[.string sZone] 9)) rfl (by decide));rw[aIf] at hval3;have hval3:Calls Tryz.prog 99 #[.pointer (some ⟨d,0,none⟩),.string sShop,.int .i64 9,.slice (some ⟨w10.heap.size,0,none⟩) 1 1] (w10.alloc (.cells #[.string sZone] 9)) fun e w'=>e=.returned (.tuple #[(Value.agg #[Value.int .i64 (0),Value.int .i64 (0),Value.string (e0)]),.bool false])/\Below (w10.alloc (.cells #[.string sZone] 9)).heap.size (w10.alloc (.cells #[.string sZone] 9)) w':=hval3
 go_upto_region 10 with (go_at_call 99;(with_reducible refine hval3.mono ?_);rintro e w11 ⟨rfl,hb11⟩;have H11:=qAq (aB (aB (aD w10 (.cells #[.string sZone] 9)) hb11) (aD w11 (.cells #[.int .i64 0,.int .i64 0,.string e0] 32)));clear hval3 hb11);generalize w11.alloc _=w12 at H11 ⊢;have H12:=qAq (qBq (aB H10.out.1 H11.out) (qBq (aE H11.out H10.out.2.1) (aE H11.out H10.out.2.2)));have hbk:=(H6.out.1.later H12.out.1).bykey (cO 4 (by decide)) (bQ 4) aO sLand (1,1,e0);rw[aIz] at hbk;have hbk:Calls Tryz.prog 100 #[.pointer (some ⟨d,0,none⟩),.string sLand,.agg #[.int .i64 (1),.int .i64 (1),.string (e0)]] w12 fun e w'=>e=.returned (.tuple #[.int .i64 0,.bool true])/\Below w12.heap.size w12 w':=hbk
 have hx12:=aE H12.out.1 H6.out.2.1;have k0:=aA hx12 0;have k1:=aA hx12 1;have k2:=aA hx12 2;clear hx12;go_upto_region 11 with (go_at_call 100;(with_reducible refine hbk.mono ?_);rintro e w13 ⟨rfl,hb13⟩;have H13:=qAq (qBq (aB H12.out.1 hb13) (qBq (aE hb13 H12.out.2.1) (aE hb13 H12.out.2.2)));clear hbk hb13);clear k0 k1 k2;have hbeg:=uM w13
 have hcopy:∀ w,Below w13.heap.size w13 w->Calls Tryz.prog 57 #[.pointer (some ⟨d,0,none⟩)] w fun e w'=>∃ d2,e=.returned (Value.pointer (some ⟨d2,0,none⟩))/\Below w.heap.size w w':=fun w hw=>by
  obtain⟨st,O,hD,_,hL⟩:=(H6.out.1.later (aB H13.out.1 hw)).dd;refine (pS hD (bQ 4) aO aAo (fun t ht=>(iM t ht).1) (fun s hs=>?_) (by decide)).mono ?_
  ·have h1:s.2∈Lb2:=(by rw[<- hL];exact List.mem_map_of_mem hs);have h2:∀ x∈Lb2,x.1<=590:=(by decide);exact h2 _ h1
  rintro e w' ⟨d2,_,_,rfl,_,_,_,hb⟩;exact⟨d2,rfl,hb⟩
 go_wp2_with (first
  | (go_at_call 101;(with_reducible refine hbeg.mono ?_);rintro e w14 ⟨rfl,hb14⟩;have y0:=aA (aE hb14 H13.out.2.1) 2;have yl:=aC (aE hb14 H13.out.2.1);have z0:=aA (aE hb14 H13.out.2.2) 0;have zl:=aC (aE hb14 H13.out.2.2);have hcp:=hcopy w14 hb14;have H14:=qAq (aB H13.out.1 hb14);clear hbeg hb14 hcopy)
  | (go_at_call 57;(with_reducible refine hcp.mono ?_);rintro e w15 ⟨d2,rfl,hb15⟩;have H15:=qAq (aB H14.out hb15);clear hcp hb15))
 go_ret;exact⟨rfl,aB H6.out.2.2 H15.out⟩
