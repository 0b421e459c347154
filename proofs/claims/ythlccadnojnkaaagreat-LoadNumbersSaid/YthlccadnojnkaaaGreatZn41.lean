import Derived.Test.YthlccadnojnkaaaGreatZn40
set_option maxHeartbeats 8000000
set_option maxRecDepth 100000
namespace Go.Proofs.YthlccadnojnkaaaGreat
open Go.Proofs.Tryz
open Go Go.RowKit Go.Proofs Co Co.S Par
abbrev oz:ByteArray:=⟨#[104,101,114,101]⟩
abbrev vb1:List T3:=[(1,1,e0),(2,0,oz)]
abbrev AD:List T3:=[(1,1,e0),(2,0,bx),(0,0,e0),(1,1,e0)]
abbrev BD:List PT:=List.replicate 4 (0,[])
abbrev Cv:List PT:=[(1,[(0,vb1)]),(0,[]),(0,[]),(0,[])]
abbrev AP:List PT:=[(1,[(0,vb1)]),(1,[(0,AD)]),(0,[]),(0,[])]
theorem uM(W:World):Calls prog 101 #[] W fun e a=>e=.returned (.bool true)/\Below W.heap.size W a:=by
 have h:=La W;go_enter func101,ntmps101;go_wp2_with (go_at_call 135;refine h.mono ?_;rintro e a⟨rfl,b⟩);go_ret;exact⟨rfl,b⟩
theorem xZ:dj (pre 4)[0] vb1=0/\gj (pre 4)[0] (0,[]) vb1=(1,[(0,vb1)])/\jx (pre 4)[0] (0,[]) vb1=0:=by
 have h:dj (pre 4)[0] vb1=0:=(by decide);refine⟨h,?_,?_⟩
 ·unfold gj;rw[zv h];rfl
 unfold jx;rw[zv h];rfl
theorem yA:dj (pre 4)[1] AD=0/\gj (pre 4)[1] (0,[]) AD=(1,[(0,AD)])/\jx (pre 4)[1] (0,[]) AD=0:=by
 have h:dj (pre 4)[1] AD=0:=(by decide);refine⟨h,?_,?_⟩
 ·unfold gj;rw[zv h];rfl
 unfold jx;rw[zv h];rfl
theorem E5:ep (pre 4) (ms AP) ap 0 [an,lw]=((2,0,oz),true):=by decide
theorem GL:ep (pre 4) (ms AP) ap 0 [bs]=((0,0,e0),true):=by decide
theorem KA:ep (pre 4) (ms AP) ap 9 [bs]=((0,0,e0),false):=by decide
theorem KZ:bg (pre 4) (ms AP) an (1,1,e0)=some 0:=by decide
theorem uN(W:World):Calls prog 65 #[] W fun e o=>e=.returned (.bool true)/\Below W.heap.size W o:=by
 have S:=cP W;go_enter func65,ntmps65;go_upto_region 2 with (go_at_call 13;refine S.mono ?_;rintro e w1⟨d,b,ps,rfl,U⟩;clear S)
 obtain⟨Q,R,p2,p3,rfl⟩:∃Q R p2 p3,ps=[Q,R,p2,p3]:=by
  have:=U.len.1
  match ps,this with
  | [a,b,c,d],_=>exact⟨a,b,c,d,rfl⟩
 have e2:Calls prog 29 #[.pointer (some ⟨d,0,none⟩),.string an] w1 fun e o=>e=.returned (.pointer (some ⟨Q,0,none⟩))/\o=w1:=U.table (j:=0) (by decide) (aO _ (z8 _)) (by decide:0<4)
 have e3:Calls prog 29 #[.pointer (some ⟨d,0,none⟩),.string ap] w1 fun e o=>e=.returned (.pointer (some ⟨R,0,none⟩))/\o=w1:=U.table (j:=1) (by decide) (aO _ (z8 _)) (by decide:1<4)
 have e4:Calls prog 29 #[.pointer (some ⟨d,0,none⟩),.string bx] w1 fun e o=>e=.returned (.pointer none)/\Below w1.heap.size w1 o:=by
  obtain⟨st,O,hD,_⟩:=U.dd;exact hD.notable (bQ 4) (by decide) (by decide)
 have e5:∀w,Below w1.heap.size w1 w->Calls prog 43 #[.pointer (some ⟨d,0,none⟩)] w fun e o=>e=.returned (.pointer (some ⟨d,0,none⟩))/\o=w:=fun w B=>by
  obtain⟨st,O,hD,_⟩:=U.dd;exact bF (hD.later B).dlt
 have b1:=aa (ab U e5);clear U e5
 go_upto_region 4 with (first|(go_at_call 29;(with_reducible refine e2.mono ?_);rintro e w2⟨rfl,B⟩;subst w2;clear e2)|(go_at_call 29;(with_reducible refine e3.mono ?_);rintro e w2⟨rfl,B⟩;subst w2;clear e3)|(go_at_call 29;(with_reducible refine e4.mono ?_);rintro e w2⟨rfl,b2⟩;have e6:=b1.2 w2 b2;have H2:=aa b2;clear e4 b2)|(go_at_call 43;refine e6.mono ?_;rintro e w3⟨rfl,B⟩;subst w3;clear e6))
 go_upto_region 5 with fail;have a4:=aD w2 (.cells #[.int .i64 1,.int .i64 1,.string e0] 32);have V:=z7 w2 (.cells #[.int .i64 1,.int .i64 1,.string e0] 32);have E:=(b1.1.later H2.out).with a4;have b3:=zj w2 (.cells #[.int .i64 1,.int .i64 1,.string e0] 32);obtain⟨F,b4⟩:=ag (w2.alloc (.cells #[.int .i64 1,.int .i64 1,.string e0] 32));obtain⟨c,hc⟩:=ag w2.heap.size;rw[b4]at a4 V E b3;rw[hc]at V E b3
 have e7:Below W.heap.size W F:=by
  have L:=b1.1.bel (zb _ _) (fun q hq=>hq);exact aB (aB L H2.out) a4
 obtain⟨K1,a5⟩:∃K:Nat->Prop,(fun q=>q<W.heap.size∨(c<=q/\q<F.heap.size))=K:=⟨_,rfl⟩;have e8:∀q,q<W.heap.size->K1 q:=(fun q hq=>by rw[<-a5];exact .inl hq);have e9:K1 c:=(by rw[<-a5];exact .inr ⟨zm _,by omega⟩);rw[a5]at E;have b5:Hid (∀w,Below F.heap.size F w->w.heap[c]?=some (.cells #[.int .i64 1,.int .i64 1,.string e0] 32)):=aa (fun w B=>aE B V)
 have f7:Hid (∀w,Below F.heap.size F w->(Calls prog 29 #[.pointer (some ⟨d,0,none⟩),.string an] w fun e o=>e=.returned (.pointer (some ⟨Q,0,none⟩))/\o=w)/\(Calls prog 29 #[.pointer (some ⟨d,0,none⟩),.string ap] w fun e o=>e=.returned (.pointer (some ⟨R,0,none⟩))/\o=w)):=aa (fun w B =>
  ⟨(E.later B).table (j:=0) (by decide) (aO _ (z8 _)) (by decide:0<4),(E.later B).table (j:=1) (by decide) (aO _ (z8 _)) (by decide:1<4)⟩)
 have b6:Hid (∀w,Below F.heap.size F w->∀g,w.heap[g]?=some (.cells (cells3 vb1).toArray 32)->F.heap.size<=g->Calls prog 37 #[.pointer (some ⟨Q,0,none⟩),.slice (some ⟨g,0,none⟩) 2 2] w fun e o=>e=.returned (.tuple #[.int .i64 0,.int .i64 0])/\PD K1 F o d b (pre 4) [Q,R,p2,p3] Cv BD):=aa (fun w B g hg b7=>by
  have:=pU (j:=0) (m:=10) (vals:=vb1) E B (by decide) (by decide:0<4) (by decide) hg b7 ⟨by decide,by decide⟩ (by decide) (by decide) (gF (by decide)) (by decide)
  rw[show(BD[0]'(by decide):PT)=(0,[])from rfl,xZ.1,xZ.2.1,xZ.2.2]at this;exact this)
 rw[b4,hc];have M:=aa (ab e7 (ab e8 (ab e9 V)));clear a4 V E b3 b4 hc e7 a5 e8 e9;refine ay 6 (JI K1 F F d b (pre 4) [Q,R,p2,p3] Cv BD (fun b8=>[.pointer (some ⟨d,0,none⟩),.pointer (some ⟨Q,0,none⟩),.agg #[.int .i64 1,.int .i64 1,.string e0],.agg #[.int .i64 2,.int .i64 0,.string oz],undef,.tuple #[.int .i64 0,.int .i64 0]].getD b8 undef) 4 5 vb1) ?AM ?hmM ?hBM ?hAM ?hJM ?hopM ?hTM
 case hmM=>kernel_rfl
 case hBM=>kernel_rfl
 case hAM =>
  intro vs;simp only[am,ai,Act.put,cy,db,bt,cp,dc,da,bu];rfl
 case hJM =>
  intro vs;exact⟨fun _ _ h=>(by cases h),fun _=>aF F,fun _ h=>(by cases h),fun h=>(by cases h)⟩
 case hopM =>
  simp only[ce,ze,br,yu];and_intros<;>intro l vs w i p k f
  ·have r:l 5=false:=by
    cases u:l 5 with
    | false=>rfl
    | true =>
     have L:=f 5 1 (by kernel_rfl) u;have h0:=f 1 0 (by kernel_rfl) L;rw[p]at h0;cases h0
   have n:=aa i;clear i k f;simp only[af];go_simp;all_goals exact n.out.up 0 (by decide) (by decide)
  ·have r:l 5=false:=by
    cases u:l 5 with
    | false=>rfl
    | true =>
     have L:=f 5 1 (by kernel_rfl) u;rw[p]at L;cases L
   have n:=aa i;have d0:vs 0=.pointer (some ⟨d,0,none⟩):=i.ev 0 (by decide) (k 0 (by kernel_rfl));have hc:=(f7.out w (i.pre r)).1;clear i k f;simp only[af,d0];go_simp;refine hc.mono ?_;rintro e y2⟨rfl,rfl⟩;exact⟨_,rfl,n.out.up 1 (by decide) (by decide)⟩
  ·have r:l 5=false:=by
    cases u:l 5 with
    | false=>rfl
    | true =>
     have h4:=f 5 4 (by kernel_rfl) u;have h2:=f 4 2 (by kernel_rfl) h4;rw[p]at h2;cases h2
   have n:=aa i;have k0:=aA (b5.out w (i.pre r)) 0;have k1:=aA (b5.out w (i.pre r)) 1;have k2:=aA (b5.out w (i.pre r)) 2;clear i k f;simp only[af];go_simp;all_goals exact n.out.up 2 (by decide) (by decide)
  ·have r:l 5=false:=by
    cases u:l 5 with
    | false=>rfl
    | true =>
     have h4:=f 5 4 (by kernel_rfl) u;have h3:=f 4 3 (by kernel_rfl) h4;rw[p]at h3;cases h3
   have n:=aa i;clear i k f;simp only[af];go_simp;all_goals exact n.out.up 3 (by decide) (by decide)
  ·have r:l 5=false:=by
    cases u:l 5 with
    | false=>rfl
    | true =>
     have h4:=f 5 4 (by kernel_rfl) u;rw[p]at h4;cases h4
   have n:=aa i;have d2:vs 2=.agg #[.int .i64 1,.int .i64 1,.string e0]:=i.ev 2 (by decide) (k 2 (by kernel_rfl));have d3:vs 3=.agg #[.int .i64 2,.int .i64 0,.string oz]:=i.ev 3 (by decide) (k 3 (by kernel_rfl));clear i k f;simp only[af,d2,d3];go_simp;exact n.out.new r (by decide) rfl rfl
  have n:=aa i;have d1:vs 1=.pointer (some ⟨Q,0,none⟩):=i.ev 1 (by decide) (k 1 (by kernel_rfl));obtain⟨g,d4,b9,c0⟩:=i.row p (k 4 (by kernel_rfl));have X:=b6.out w (i.pre p) g b9 c0;clear i k f;simp only[af,d1,d4];go_simp;refine X.mono ?_;rintro e y2⟨rfl,U⟩;exact⟨_,rfl,n.out.put (by decide) U⟩
 intro l vs w5 p i;simp only[cw,yq];have Y:=i.post (p 5 (by decide));have N:Hid (∀w,Below w5.heap.size w5 w->w.heap[c]?=some (.cells #[.int .i64 1,.int .i64 1,.string e0] 32)):=aa (fun w B=>aE B ((Y.still M.2.2.1).trans M.2.2.2))
 have f8:Hid (∀w,Below w5.heap.size w5 w->(Calls prog 29 #[.pointer (some ⟨d,0,none⟩),.string an] w fun e o=>e=.returned (.pointer (some ⟨Q,0,none⟩))/\o=w)/\(Calls prog 29 #[.pointer (some ⟨d,0,none⟩),.string ap] w fun e o=>e=.returned (.pointer (some ⟨R,0,none⟩))/\o=w)):=aa (fun w B =>
  ⟨(Y.later B).table (j:=0) (by decide) (aO _ (z8 _)) (by decide:0<4),(Y.later B).table (j:=1) (by decide) (aO _ (z8 _)) (by decide:1<4)⟩)
 have c1:Hid (∀w,Below w5.heap.size w5 w->∀g,w.heap[g]?=some (.cells (cells3 AD).toArray 32)->w5.heap.size<=g->Calls prog 37 #[.pointer (some ⟨R,0,none⟩),.slice (some ⟨g,0,none⟩) 4 4] w fun e o=>e=.returned (.tuple #[.int .i64 0,.int .i64 0])/\PD K1 F o d b (pre 4) [Q,R,p2,p3] AP BD):=aa (fun w B g hg b7=>by
  have:=pU (j:=1) (m:=10) (vals:=AD) Y B (by decide) (by decide:1<4) (by decide) hg b7 ⟨by decide,by decide⟩ (by decide) (by decide) (gF (by decide)) (by decide)
  rw[show(Cv[1]'(by decide):PT)=(0,[])from rfl,yA.1,yA.2.1,yA.2.2]at this;exact this)
 generalize vs 0=s0;generalize vs 1=s1;generalize vs 2=s2;generalize vs 3=s3;generalize vs 4=s4;generalize vs 5=s5;clear i p Y vs;go_upto_region 6 with fail;refine ay 13 (JI K1 F w5 d b (pre 4) [Q,R,p2,p3] AP BD (fun b8=>[.pointer (some ⟨d,0,none⟩),.pointer (some ⟨R,0,none⟩),.agg #[.int .i64 1,.int .i64 1,.string e0],.agg #[.int .i64 2,.int .i64 0,.string bx],.agg #[.int .i64 0,.int .i64 0,.string e0],.agg #[.int .i64 1,.int .i64 1,.string e0],undef,.tuple #[.int .i64 0,.int .i64 0],.tuple #[.int .i64 0,.int .i64 0],.int .i64 0,.int .i64 0,.int .i64 0,.int .i64 0].getD b8 undef) 6 7 AD) ?AN ?hmN ?hBN ?hAN ?hJN ?hopN ?hTN
 case hmN=>kernel_rfl
 case hBN=>kernel_rfl
 case hAN =>
  intro vs;simp only[am,ai,Act.put,cy,db,bt,cp,dc,da,bu];rfl
 case hJN =>
  intro vs;exact⟨fun _ _ h=>(by cases h),fun _=>aF w5,fun _ h=>(by cases h),fun h=>(by cases h)⟩
 case hopN =>
  simp only[ce,ze,br,yu];and_intros<;>intro l vs w i p k f
  ·have r:l 7=false:=by
    cases u:l 7 with
    | false=>rfl
    | true =>
     have L:=f 7 1 (by kernel_rfl) u;have h0:=f 1 0 (by kernel_rfl) L;rw[p]at h0;cases h0
   have n:=aa i;clear i k f;simp only[af];go_simp;all_goals exact n.out.up 0 (by decide) (by decide)
  ·have r:l 7=false:=by
    cases u:l 7 with
    | false=>rfl
    | true =>
     have L:=f 7 1 (by kernel_rfl) u;rw[p]at L;cases L
   have n:=aa i;have d0:vs 0=.pointer (some ⟨d,0,none⟩):=i.ev 0 (by decide) (k 0 (by kernel_rfl));have hc:=(f8.out w (i.pre r)).2;clear i k f;simp only[af,d0];go_simp;refine hc.mono ?_;rintro e y2⟨rfl,rfl⟩;exact⟨_,rfl,n.out.up 1 (by decide) (by decide)⟩
  ·have r:l 7=false:=by
    cases u:l 7 with
    | false=>rfl
    | true =>
     have h6:=f 7 6 (by kernel_rfl) u;have h2:=f 6 2 (by kernel_rfl) h6;rw[p]at h2;cases h2
   have n:=aa i;have k0:=aA (N.out w (i.pre r)) 0;have k1:=aA (N.out w (i.pre r)) 1;have k2:=aA (N.out w (i.pre r)) 2;clear i k f;simp only[af];go_simp;all_goals exact n.out.up 2 (by decide) (by decide)
  ·have r:l 7=false:=by
    cases u:l 7 with
    | false=>rfl
    | true =>
     have h6:=f 7 6 (by kernel_rfl) u;have h3:=f 6 3 (by kernel_rfl) h6;rw[p]at h3;cases h3
   have n:=aa i;clear i k f;simp only[af];go_simp;all_goals exact n.out.up 3 (by decide) (by decide)
  ·have r:l 7=false:=by
    cases u:l 7 with
    | false=>rfl
    | true =>
     have h6:=f 7 6 (by kernel_rfl) u;have h4:=f 6 4 (by kernel_rfl) h6;rw[p]at h4;cases h4
   have n:=aa i;clear i k f;simp only[af];go_simp;all_goals exact n.out.up 4 (by decide) (by decide)
  ·have r:l 7=false:=by
    cases u:l 7 with
    | false=>rfl
    | true =>
     have h6:=f 7 6 (by kernel_rfl) u;have h5:=f 6 5 (by kernel_rfl) h6;rw[p]at h5;cases h5
   have n:=aa i;have k0:=aA (N.out w (i.pre r)) 0;have k1:=aA (N.out w (i.pre r)) 1;have k2:=aA (N.out w (i.pre r)) 2;clear i k f;simp only[af];go_simp;all_goals exact n.out.up 5 (by decide) (by decide)
  ·have r:l 7=false:=by
    cases u:l 7 with
    | false=>rfl
    | true =>
     have h6:=f 7 6 (by kernel_rfl) u;rw[p]at h6;cases h6
   have n:=aa i;have d2:vs 2=.agg #[.int .i64 1,.int .i64 1,.string e0]:=i.ev 2 (by decide) (k 2 (by kernel_rfl));have d3:vs 3=.agg #[.int .i64 2,.int .i64 0,.string bx]:=i.ev 3 (by decide) (k 3 (by kernel_rfl));have d4:vs 4=.agg #[.int .i64 0,.int .i64 0,.string e0]:=i.ev 4 (by decide) (k 4 (by kernel_rfl));have d5:vs 5=.agg #[.int .i64 1,.int .i64 1,.string e0]:=i.ev 5 (by decide) (k 5 (by kernel_rfl));clear i k f;simp only[af,d2,d3,d4,d5];go_simp;exact n.out.new r (by decide) rfl rfl
  ·have n:=aa i;have d1:vs 1=.pointer (some ⟨R,0,none⟩):=i.ev 1 (by decide) (k 1 (by kernel_rfl));obtain⟨g,d6,b9,c0⟩:=i.row p (k 6 (by kernel_rfl));have X:=c1.out w (i.pre p) g b9 c0;clear i k f;simp only[af,d1,d6];go_simp;refine X.mono ?_;rintro e y2⟨rfl,U⟩;exact⟨_,rfl,n.out.put (by decide) U⟩
  ·have n:=aa i;have d7:vs 7=.tuple #[.int .i64 0,.int .i64 0]:=i.ev 7 (by decide) (k 7 (by kernel_rfl));clear i k f;simp only[af,d7];go_simp;all_goals exact n.out.up 8 (by decide) (by decide)
  ·have n:=aa i;have d8:vs 8=.tuple #[.int .i64 0,.int .i64 0]:=i.ev 8 (by decide) (k 8 (by kernel_rfl));clear i k f;simp only[af,d8];go_simp;all_goals exact n.out.up 9 (by decide) (by decide)
  ·have n:=aa i;have d8:vs 8=.tuple #[.int .i64 0,.int .i64 0]:=i.ev 8 (by decide) (k 8 (by kernel_rfl));clear i k f;simp only[af,d8];go_simp;all_goals exact n.out.up 10 (by decide) (by decide)
  ·have n:=aa i;have d9:vs 9=.int .i64 0:=i.ev 9 (by decide) (k 9 (by kernel_rfl));clear i k f;simp only[af,d9];go_simp;all_goals exact n.out.up 11 (by decide) (by decide)
  have n:=aa i;have f9:vs 10=.int .i64 0:=i.ev 10 (by decide) (k 10 (by kernel_rfl));clear i k f;simp only[af,f9];go_simp;all_goals exact n.out.up 12 (by decide) (by decide)
 intro l vs w6 p i;simp only[cw,yq];have Z:=i.post (p 7 (by decide));have f0:vs 11=.int .i64 0:=i.ev 11 (by decide) (p 11 (by decide));have f1:vs 12=.int .i64 0:=i.ev 12 (by decide) (p 12 (by decide));simp only[f0,f1];have x6:w6.heap[c]?=some (.cells #[.int .i64 1,.int .i64 1,.string e0] 32):=(Z.still M.2.2.1).trans M.2.2.2;have f2:=Z.bel M.1 M.2.1;have H6:=aa (ab Z (ab x6 f2));have H:=Wd.lits (l:=[an,lw]) (z7 w6 (.cells #[.string an,.string lw] 9)) rfl (by decide);have v:=(Z.later (aD w6 (.cells #[.string an,.string lw] 9))).value (cO 4 (by decide)) (bQ 4) aO ap (id:=0) (by decide) H;rw[E5]at v;have v:Calls prog 99 #[.pointer (some ⟨d,0,none⟩),.string ap,.int .i64 0,.slice (some ⟨w6.heap.size,0,none⟩) 2 2] (w6.alloc (.cells #[.string an,.string lw] 9)) fun e o=>e=.returned (.tuple #[.agg #[.int .i64 2,.int .i64 0,.string oz],.bool true])/\Below (w6.alloc (.cells #[.string an,.string lw] 9)).heap.size (w6.alloc (.cells #[.string an,.string lw] 9)) o:=v
 generalize vs 0=s10;generalize vs 1=s11;generalize vs 2=s12;generalize vs 3=s13;generalize vs 4=Bl;generalize vs 5=s15;generalize vs 6=s16;generalize vs 7=CT;generalize vs 8=s18;generalize vs 9=s19;generalize vs 10=s20;clear i p Z f0 f1 x6 f2 H vs;go_upto_region 8 with (go_at_call 99;refine v.mono ?_;rintro e w7⟨rfl,f3⟩;have H7:=aa (ab (aB (aB (aD w6 (.cells #[.string an,.string lw] 9)) f3) (aD w7 (.cells #[.int .i64 2,.int .i64 0,.string oz] 32))) (z7 w7 (.cells #[.int .i64 2,.int .i64 0,.string oz] 32)));clear v f3);obtain⟨w8,c4⟩:=ag (w7.alloc (.cells #[.int .i64 2,.int .i64 0,.string oz] 32));obtain⟨c6,c5⟩:=ag w7.heap.size;rw[c4,c5]at H7;rw[c4,c5];clear c4 c5;have y:=((H6.1.later H7.1).later (aD w8 (.cells #[.string bs] 9))).value (cO 4 (by decide)) (bQ 4) aO ap (id:=0) (by decide) (Wd.lits (l:=[bs]) (z7 w8 (.cells #[.string bs] 9)) rfl (by decide));rw[GL]at y;have y:Calls prog 99 #[.pointer (some ⟨d,0,none⟩),.string ap,.int .i64 0,.slice (some ⟨w8.heap.size,0,none⟩) 1 1] (w8.alloc (.cells #[.string bs] 9)) fun e o=>e=.returned (.tuple #[.agg #[.int .i64 0,.int .i64 0,.string e0],.bool true])/\Below (w8.alloc (.cells #[.string bs] 9)).heap.size (w8.alloc (.cells #[.string bs] 9)) o:=y
 go_upto_region 9 with (go_at_call 99;refine y.mono ?_;rintro e w9⟨rfl,f4⟩;have H9:=aa (ab (aB (aB (aD w8 (.cells #[.string bs] 9)) f4) (aD w9 (.cells #[.int .i64 0,.int .i64 0,.string e0] 32))) (z7 w9 (.cells #[.int .i64 0,.int .i64 0,.string e0] 32)));clear y f4);obtain⟨G,a0⟩:=ag (w9.alloc (.cells #[.int .i64 0,.int .i64 0,.string e0] 32));obtain⟨c8,c7⟩:=ag w9.heap.size;rw[a0,c7]at H9;rw[a0,c7];clear a0 c7;have a6:=aa (ab (aB H7.1 H9.1) (ab (aE H9.1 H7.2) H9.2));have z:=((H6.1.later a6.1).later (aD G (.cells #[.string bs] 9))).value (cO 4 (by decide)) (bQ 4) aO ap (id:=9) (by decide) (Wd.lits (l:=[bs]) (z7 G (.cells #[.string bs] 9)) rfl (by decide));rw[KA]at z;have z:Calls prog 99 #[.pointer (some ⟨d,0,none⟩),.string ap,.int .i64 9,.slice (some ⟨G.heap.size,0,none⟩) 1 1] (G.alloc (.cells #[.string bs] 9)) fun e o=>e=.returned (.tuple #[.agg #[.int .i64 0,.int .i64 0,.string e0],.bool false])/\Below (G.alloc (.cells #[.string bs] 9)).heap.size (G.alloc (.cells #[.string bs] 9)) o:=z
 go_upto_region 10 with (go_at_call 99;refine z.mono ?_;rintro e f5⟨rfl,a8⟩;have a7:=aa (aB (aB (aD G (.cells #[.string bs] 9)) a8) (aD f5 (.cells #[.int .i64 0,.int .i64 0,.string e0] 32)));clear z a8);generalize f5.alloc _=w12 at a7 ⊢;have a1:=aa (ab (aB a6.1 a7.out) (ab (aE a7.out a6.2.1) (aE a7.out a6.2.2)));have a2:=(H6.1.later a1.1).bykey (cO 4 (by decide)) (bQ 4) aO an (1,1,e0);rw[KZ]at a2;have a2:Calls prog 100 #[.pointer (some ⟨d,0,none⟩),.string an,.agg #[.int .i64 1,.int .i64 1,.string e0]] w12 fun e o=>e=.returned (.tuple #[.int .i64 0,.bool true])/\Below w12.heap.size w12 o:=a2
 have I:=aE a1.1 H6.2.1;have k0:=aA I 0;have k1:=aA I 1;have k2:=aA I 2;clear I;go_upto_region 11 with (go_at_call 100;refine a2.mono ?_;rintro e e1⟨rfl,J⟩;have P:=aa (ab (aB a1.1 J) (ab (aE J a1.2.1) (aE J a1.2.2)));clear a2 J);clear k0 k1 k2;have a9:=uM e1
 have a3:∀w,Below e1.heap.size e1 w->Calls prog 57 #[.pointer (some ⟨d,0,none⟩)] w fun e o=>∃d2,e=.returned (.pointer (some ⟨d2,0,none⟩))/\Below w.heap.size w o:=fun w B=>by
  obtain⟨st,O,hD,_,hL⟩:=(H6.1.later (aB P.1 B)).dd;refine(pS hD (bQ 4) aO Dp (fun t ht=>(iM t ht).1) (fun s hs=>?_) (by decide)).mono ?_
  ·have L:s.2∈AP:=(by rw[<-hL];exact uq hs);have h2:∀x∈AP,x.1<=590:=(by decide);exact h2 _ L
  rintro e o⟨d2,_,_,rfl,_,_,_,hb⟩;exact⟨d2,rfl,hb⟩
 go_wp2_with (first|(go_at_call 101;refine a9.mono ?_;rintro e g0⟨rfl,A⟩;have y0:=aA (aE A P.2.1) 2;have yl:=aC (aE A P.2.1);have z0:=aA (aE A P.2.2) 0;have zl:=aC (aE A P.2.2);have f6:=a3 g0 A;have g1:=aa (aB P.1 A);clear a9 A a3)|(go_at_call 57;refine f6.mono ?_;rintro e g3⟨d2,rfl,b0⟩;have g2:=aa (aB g1.out b0);clear f6 b0))
 go_ret;exact⟨rfl,aB H6.2.2 g2.out⟩
