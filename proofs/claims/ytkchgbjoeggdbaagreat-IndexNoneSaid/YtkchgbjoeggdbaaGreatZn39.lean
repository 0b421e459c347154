import Derived.Test.YtkchgbjoeggdbaaGreatZn38
set_option maxHeartbeats 8000000
set_option maxRecDepth 100000
namespace Go.Proofs.YtkchgbjoeggdbaaGreat
open Go.Proofs.Tryz
open Go Go.RowKit Go.Proofs Co Co.S
abbrev oq:ByteArray:=⟨#[104,101,114,101]⟩
abbrev vb1:List T3:=[(1,1,e0),(2,0,oq)]
abbrev Ag:List T3:=[(1,1,e0),(2,0,bx),(0,0,e0),(1,1,e0)]
abbrev AX:List PT:=List.replicate 4 (0,[])
abbrev BA:List PT:=[(1,[(0,vb1)]),(0,[]),(0,[]),(0,[])]
abbrev Aw:List PT:=[(1,[(0,vb1)]),(1,[(0,Ag)]),(0,[]),(0,[])]
theorem tP(W:World):Calls prog 209 #[] W fun e a=>e=.returned (.bool true)/\Below W.heap.size W a:=by
 have h:=Ih W;go_enter func209,ntmps209;go_wp2_with (go_at_call 225;refine h.mono ?_;rintro e a⟨rfl,b⟩);go_ret;exact⟨rfl,b⟩
theorem wJ:ei (pre 4)[0] vb1=0/\iz (pre 4)[0] (0,[]) vb1=(1,[(0,vb1)])/\li (pre 4)[0] (0,[]) vb1=0:=by
 have h:ei (pre 4)[0] vb1=0:=(by decide);refine⟨h,?_,?_⟩
 ·unfold iz;rw[zw h];rfl
 unfold li;rw[zw h];rfl
theorem wK:ei (pre 4)[1] Ag=0/\iz (pre 4)[1] (0,[]) Ag=(1,[(0,Ag)])/\li (pre 4)[1] (0,[]) Ag=0:=by
 have h:ei (pre 4)[1] Ag=0:=(by decide);refine⟨h,?_,?_⟩
 ·unfold iz;rw[zw h];rfl
 unfold li;rw[zw h];rfl
theorem Gj:ay (pre 4) (da Aw) bh 0 [an,de]=((2,0,oq),true):=by decide
theorem FH:ay (pre 4) (da Aw) bh 0 [d']=((0,0,e0),true):=by decide
theorem F':ay (pre 4) (da Aw) bh 9 [d']=((0,0,e0),false):=by decide
theorem Fa:bi (pre 4) (da Aw) an (1,1,e0)=some 0:=by decide
theorem tQ(W:World):Calls prog 195 #[] W fun e o=>e=.returned (.bool true)/\Below W.heap.size W o:=by
 have S:=iY W;go_enter func195,ntmps195;go_upto_region 2 with (go_at_call 20;(with_reducible refine S.mono ?_);rintro e w1⟨d,b,ps,rfl,U⟩;clear S)
 obtain⟨Q,R,p2,p3,rfl⟩:∃Q R p2 p3,ps=[Q,R,p2,p3]:=by
  have:=U.len.1
  match ps,this with
  | [a,b,c,d],_=>exact⟨a,b,c,d,rfl⟩
 have c7:Calls prog 14 #[.pointer (some ⟨d,0,none⟩),.string an] w1 fun e o=>e=.returned (.pointer (some ⟨Q,0,none⟩))/\o=w1:=U.table (j:=0) (by decide) (aM _ (z8 _)) (by decide:0<4)
 have c9:Calls prog 14 #[.pointer (some ⟨d,0,none⟩),.string bh] w1 fun e o=>e=.returned (.pointer (some ⟨R,0,none⟩))/\o=w1:=U.table (j:=1) (by decide) (aM _ (z8 _)) (by decide:1<4)
 have e1:Calls prog 14 #[.pointer (some ⟨d,0,none⟩),.string bx] w1 fun e o=>e=.returned (.pointer none)/\Below w1.heap.size w1 o:=by
  obtain⟨st,O,hD,_⟩:=U.dd;exact hD.notable (bN 4) (by decide) (by decide)
 have e2:∀w,Below w1.heap.size w1 w->Calls prog 37 #[.pointer (some ⟨d,0,none⟩)] w fun e o=>e=.returned (.pointer (some ⟨d,0,none⟩))/\o=w:=fun w B=>by
  obtain⟨st,O,hD,_⟩:=U.dd;exact aY (hD.later B).dlt
 have b1:=aa (ab U e2);clear U e2
 go_upto_region 4 with (first|(go_at_call 14;(with_reducible refine c7.mono ?_);rintro e w2⟨rfl,B⟩;subst w2;clear c7)|(go_at_call 14;(with_reducible refine c9.mono ?_);rintro e w2⟨rfl,B⟩;subst w2;clear c9)|(go_at_call 14;(with_reducible refine e1.mono ?_);rintro e w2⟨rfl,b2⟩;have e3:=b1.2 w2 b2;have H2:=aa b2;clear e1 b2)|(go_at_call 37;(with_reducible refine e3.mono ?_);rintro e w3⟨rfl,B⟩;subst w3;clear e3))
 go_upto_region 5 with fail;have a4:=aD w2 (.cells #[.int .i64 1,.int .i64 1,.string e0] 32);have V:=z7 w2 (.cells #[.int .i64 1,.int .i64 1,.string e0] 32);have E:=(b1.1.later H2.out).with a4;have b3:=zm w2 (.cells #[.int .i64 1,.int .i64 1,.string e0] 32);obtain⟨F,b4⟩:=ae (w2.alloc (.cells #[.int .i64 1,.int .i64 1,.string e0] 32));obtain⟨c,hc⟩:=ae w2.heap.size;rw[b4]at a4 V E b3;rw[hc]at V E b3
 have e4:Below W.heap.size W F:=by
  have L:=b1.1.bel (zg _ _) (fun q hq=>hq);exact aC (aC L H2.out) a4
 obtain⟨K1,a5⟩:∃K:Nat->Prop,(fun q=>q<W.heap.size∨(c<=q/\q<F.heap.size))=K:=⟨_,rfl⟩;have e5:∀q,q<W.heap.size->K1 q:=(fun q hq=>by rw[<-a5];exact .inl hq);have e6:K1 c:=(by rw[<-a5];exact .inr ⟨zo _,by omega⟩);rw[a5]at E;have b5:Hid (∀w,Below F.heap.size F w->w.heap[c]?=some (.cells #[.int .i64 1,.int .i64 1,.string e0] 32)):=aa (fun w B=>aE B V)
 have f4:Hid (∀w,Below F.heap.size F w->(Calls prog 14 #[.pointer (some ⟨d,0,none⟩),.string an] w fun e o=>e=.returned (.pointer (some ⟨Q,0,none⟩))/\o=w)/\(Calls prog 14 #[.pointer (some ⟨d,0,none⟩),.string bh] w fun e o=>e=.returned (.pointer (some ⟨R,0,none⟩))/\o=w)):=aa (fun w B =>
  ⟨(E.later B).table (j:=0) (by decide) (aM _ (z8 _)) (by decide:0<4),(E.later B).table (j:=1) (by decide) (aM _ (z8 _)) (by decide:1<4)⟩)
 have b6:Hid (∀w,Below F.heap.size F w->∀g,w.heap[g]?=some (.cells (cells3 vb1).toArray 32)->F.heap.size<=g->Calls prog 57 #[.pointer (some ⟨Q,0,none⟩),.slice (some ⟨g,0,none⟩) 2 2] w fun e o=>e=.returned (.tuple #[.int .i64 0,.int .i64 0])/\PD K1 F o d b (pre 4) [Q,R,p2,p3] BA AX):=aa (fun w B g hg b7=>by
  have:=oY (j:=0) (m:=10) (vals:=vb1) E B (by decide) (by decide:0<4) (by decide) hg b7 ⟨by decide,by decide⟩ (by decide) (by decide) (fS (by decide)) (by decide)
  rw[show(AX[0]'(by decide):PT)=(0,[])from rfl,wJ.1,wJ.2.1,wJ.2.2]at this;exact this)
 rw[b4,hc];have M:=aa (ab e4 (ab e5 (ab e6 V)));clear a4 V E b3 b4 hc e4 a5 e5 e6;refine Par.bo 6 (JI K1 F F d b (pre 4) [Q,R,p2,p3] BA AX (fun b8=>[.pointer (some ⟨d,0,none⟩),.pointer (some ⟨Q,0,none⟩),.agg #[.int .i64 1,.int .i64 1,.string e0],.agg #[.int .i64 2,.int .i64 0,.string oq],undef,.tuple #[.int .i64 0,.int .i64 0]].getD b8 undef) 4 5 vb1) ?AM ?hmM ?hBM ?hAM ?hJM ?hopM ?hTM
 case hmM=>kernel_rfl
 case hBM=>kernel_rfl
 case hAM =>
  intro vs;simp only[Par.am,Par.ai,Act.put,eh,ez,dz,eo,ew,ey,ed];rfl
 case hJM =>
  intro vs;exact⟨fun _ _ h=>(by cases h),fun _=>aG F,fun _ h=>(by cases h),fun h=>(by cases h)⟩
 case hopM =>
  simp only[en,zh,Par.ce,yo];and_intros<;>intro l vs w i p k f
  ·have r:l 5=false:=by
    cases u:l 5 with
    | false=>rfl
    | true =>
     have L:=f 5 1 (by kernel_rfl) u;have h0:=f 1 0 (by kernel_rfl) L;rw[p]at h0;cases h0
   have n:=aa i;clear i k f;simp only[Par.af];go_simp;all_goals exact n.out.up 0 (by decide) (by decide)
  ·have r:l 5=false:=by
    cases u:l 5 with
    | false=>rfl
    | true =>
     have L:=f 5 1 (by kernel_rfl) u;rw[p]at L;cases L
   have n:=aa i;have d0:vs 0=.pointer (some ⟨d,0,none⟩):=i.ev 0 (by decide) (k 0 (by kernel_rfl));have hc:=(f4.out w (i.pre r)).1;clear i k f;simp only[Par.af,d0];go_simp;refine hc.mono ?_;rintro e y2⟨rfl,rfl⟩;exact⟨_,rfl,n.out.up 1 (by decide) (by decide)⟩
  ·have r:l 5=false:=by
    cases u:l 5 with
    | false=>rfl
    | true =>
     have h4:=f 5 4 (by kernel_rfl) u;have h2:=f 4 2 (by kernel_rfl) h4;rw[p]at h2;cases h2
   have n:=aa i;have k0:=aA (b5.out w (i.pre r)) 0;have k1:=aA (b5.out w (i.pre r)) 1;have k2:=aA (b5.out w (i.pre r)) 2;clear i k f;simp only[Par.af];go_simp;all_goals exact n.out.up 2 (by decide) (by decide)
  ·have r:l 5=false:=by
    cases u:l 5 with
    | false=>rfl
    | true =>
     have h4:=f 5 4 (by kernel_rfl) u;have h3:=f 4 3 (by kernel_rfl) h4;rw[p]at h3;cases h3
   have n:=aa i;clear i k f;simp only[Par.af];go_simp;all_goals exact n.out.up 3 (by decide) (by decide)
  ·have r:l 5=false:=by
    cases u:l 5 with
    | false=>rfl
    | true =>
     have h4:=f 5 4 (by kernel_rfl) u;rw[p]at h4;cases h4
   have n:=aa i;have d2:vs 2=.agg #[.int .i64 1,.int .i64 1,.string e0]:=i.ev 2 (by decide) (k 2 (by kernel_rfl));have d3:vs 3=.agg #[.int .i64 2,.int .i64 0,.string oq]:=i.ev 3 (by decide) (k 3 (by kernel_rfl));clear i k f;simp only[Par.af,d2,d3];go_simp;exact n.out.new r (by decide) rfl rfl
  have n:=aa i;have d1:vs 1=.pointer (some ⟨Q,0,none⟩):=i.ev 1 (by decide) (k 1 (by kernel_rfl));obtain⟨g,d4,b9,c0⟩:=i.row p (k 4 (by kernel_rfl));have X:=b6.out w (i.pre p) g b9 c0;clear i k f;simp only[Par.af,d1,d4];go_simp;refine X.mono ?_;rintro e y2⟨rfl,U⟩;exact⟨_,rfl,n.out.put (by decide) U⟩
 intro l vs w5 p i;simp only[ex,ym];have Y:=i.post (p 5 (by decide));have N:Hid (∀w,Below w5.heap.size w5 w->w.heap[c]?=some (.cells #[.int .i64 1,.int .i64 1,.string e0] 32)):=aa (fun w B=>aE B ((Y.still M.2.2.1).trans M.2.2.2))
 have f5:Hid (∀w,Below w5.heap.size w5 w->(Calls prog 14 #[.pointer (some ⟨d,0,none⟩),.string an] w fun e o=>e=.returned (.pointer (some ⟨Q,0,none⟩))/\o=w)/\(Calls prog 14 #[.pointer (some ⟨d,0,none⟩),.string bh] w fun e o=>e=.returned (.pointer (some ⟨R,0,none⟩))/\o=w)):=aa (fun w B =>
  ⟨(Y.later B).table (j:=0) (by decide) (aM _ (z8 _)) (by decide:0<4),(Y.later B).table (j:=1) (by decide) (aM _ (z8 _)) (by decide:1<4)⟩)
 have c1:Hid (∀w,Below w5.heap.size w5 w->∀g,w.heap[g]?=some (.cells (cells3 Ag).toArray 32)->w5.heap.size<=g->Calls prog 57 #[.pointer (some ⟨R,0,none⟩),.slice (some ⟨g,0,none⟩) 4 4] w fun e o=>e=.returned (.tuple #[.int .i64 0,.int .i64 0])/\PD K1 F o d b (pre 4) [Q,R,p2,p3] Aw AX):=aa (fun w B g hg b7=>by
  have:=oY (j:=1) (m:=10) (vals:=Ag) Y B (by decide) (by decide:1<4) (by decide) hg b7 ⟨by decide,by decide⟩ (by decide) (by decide) (fS (by decide)) (by decide)
  rw[show(BA[1]'(by decide):PT)=(0,[])from rfl,wK.1,wK.2.1,wK.2.2]at this;exact this)
 generalize vs 0=s0;generalize vs 1=s1;generalize vs 2=s2;generalize vs 3=s3;generalize vs 4=s4;generalize vs 5=s5;clear i p Y vs;go_upto_region 6 with fail;refine Par.bo 13 (JI K1 F w5 d b (pre 4) [Q,R,p2,p3] Aw AX (fun b8=>[.pointer (some ⟨d,0,none⟩),.pointer (some ⟨R,0,none⟩),.agg #[.int .i64 1,.int .i64 1,.string e0],.agg #[.int .i64 2,.int .i64 0,.string bx],.agg #[.int .i64 0,.int .i64 0,.string e0],.agg #[.int .i64 1,.int .i64 1,.string e0],undef,.tuple #[.int .i64 0,.int .i64 0],.tuple #[.int .i64 0,.int .i64 0],.int .i64 0,.int .i64 0,.int .i64 0,.int .i64 0].getD b8 undef) 6 7 Ag) ?AN ?hmN ?hBN ?hAN ?hJN ?hopN ?hTN
 case hmN=>kernel_rfl
 case hBN=>kernel_rfl
 case hAN =>
  intro vs;simp only[Par.am,Par.ai,Act.put,eh,ez,dz,eo,ew,ey,ed];rfl
 case hJN =>
  intro vs;exact⟨fun _ _ h=>(by cases h),fun _=>aG w5,fun _ h=>(by cases h),fun h=>(by cases h)⟩
 case hopN =>
  simp only[en,zh,Par.ce,yo];and_intros<;>intro l vs w i p k f
  ·have r:l 7=false:=by
    cases u:l 7 with
    | false=>rfl
    | true =>
     have L:=f 7 1 (by kernel_rfl) u;have h0:=f 1 0 (by kernel_rfl) L;rw[p]at h0;cases h0
   have n:=aa i;clear i k f;simp only[Par.af];go_simp;all_goals exact n.out.up 0 (by decide) (by decide)
  ·have r:l 7=false:=by
    cases u:l 7 with
    | false=>rfl
    | true =>
     have L:=f 7 1 (by kernel_rfl) u;rw[p]at L;cases L
   have n:=aa i;have d0:vs 0=.pointer (some ⟨d,0,none⟩):=i.ev 0 (by decide) (k 0 (by kernel_rfl));have hc:=(f5.out w (i.pre r)).2;clear i k f;simp only[Par.af,d0];go_simp;refine hc.mono ?_;rintro e y2⟨rfl,rfl⟩;exact⟨_,rfl,n.out.up 1 (by decide) (by decide)⟩
  ·have r:l 7=false:=by
    cases u:l 7 with
    | false=>rfl
    | true =>
     have h6:=f 7 6 (by kernel_rfl) u;have h2:=f 6 2 (by kernel_rfl) h6;rw[p]at h2;cases h2
   have n:=aa i;have k0:=aA (N.out w (i.pre r)) 0;have k1:=aA (N.out w (i.pre r)) 1;have k2:=aA (N.out w (i.pre r)) 2;clear i k f;simp only[Par.af];go_simp;all_goals exact n.out.up 2 (by decide) (by decide)
  ·have r:l 7=false:=by
    cases u:l 7 with
    | false=>rfl
    | true =>
     have h6:=f 7 6 (by kernel_rfl) u;have h3:=f 6 3 (by kernel_rfl) h6;rw[p]at h3;cases h3
   have n:=aa i;clear i k f;simp only[Par.af];go_simp;all_goals exact n.out.up 3 (by decide) (by decide)
  ·have r:l 7=false:=by
    cases u:l 7 with
    | false=>rfl
    | true =>
     have h6:=f 7 6 (by kernel_rfl) u;have h4:=f 6 4 (by kernel_rfl) h6;rw[p]at h4;cases h4
   have n:=aa i;clear i k f;simp only[Par.af];go_simp;all_goals exact n.out.up 4 (by decide) (by decide)
  ·have r:l 7=false:=by
    cases u:l 7 with
    | false=>rfl
    | true =>
     have h6:=f 7 6 (by kernel_rfl) u;have h5:=f 6 5 (by kernel_rfl) h6;rw[p]at h5;cases h5
   have n:=aa i;have k0:=aA (N.out w (i.pre r)) 0;have k1:=aA (N.out w (i.pre r)) 1;have k2:=aA (N.out w (i.pre r)) 2;clear i k f;simp only[Par.af];go_simp;all_goals exact n.out.up 5 (by decide) (by decide)
  ·have r:l 7=false:=by
    cases u:l 7 with
    | false=>rfl
    | true =>
     have h6:=f 7 6 (by kernel_rfl) u;rw[p]at h6;cases h6
   have n:=aa i;have d2:vs 2=.agg #[.int .i64 1,.int .i64 1,.string e0]:=i.ev 2 (by decide) (k 2 (by kernel_rfl));have d3:vs 3=.agg #[.int .i64 2,.int .i64 0,.string bx]:=i.ev 3 (by decide) (k 3 (by kernel_rfl));have d4:vs 4=.agg #[.int .i64 0,.int .i64 0,.string e0]:=i.ev 4 (by decide) (k 4 (by kernel_rfl));have d5:vs 5=.agg #[.int .i64 1,.int .i64 1,.string e0]:=i.ev 5 (by decide) (k 5 (by kernel_rfl));clear i k f;simp only[Par.af,d2,d3,d4,d5];go_simp;exact n.out.new r (by decide) rfl rfl
  ·have n:=aa i;have d1:vs 1=.pointer (some ⟨R,0,none⟩):=i.ev 1 (by decide) (k 1 (by kernel_rfl));obtain⟨g,d6,b9,c0⟩:=i.row p (k 6 (by kernel_rfl));have X:=c1.out w (i.pre p) g b9 c0;clear i k f;simp only[Par.af,d1,d6];go_simp;refine X.mono ?_;rintro e y2⟨rfl,U⟩;exact⟨_,rfl,n.out.put (by decide) U⟩
  ·have n:=aa i;have d7:vs 7=.tuple #[.int .i64 0,.int .i64 0]:=i.ev 7 (by decide) (k 7 (by kernel_rfl));clear i k f;simp only[Par.af,d7];go_simp;all_goals exact n.out.up 8 (by decide) (by decide)
  ·have n:=aa i;have d8:vs 8=.tuple #[.int .i64 0,.int .i64 0]:=i.ev 8 (by decide) (k 8 (by kernel_rfl));clear i k f;simp only[Par.af,d8];go_simp;all_goals exact n.out.up 9 (by decide) (by decide)
  ·have n:=aa i;have d8:vs 8=.tuple #[.int .i64 0,.int .i64 0]:=i.ev 8 (by decide) (k 8 (by kernel_rfl));clear i k f;simp only[Par.af,d8];go_simp;all_goals exact n.out.up 10 (by decide) (by decide)
  ·have n:=aa i;have d9:vs 9=.int .i64 0:=i.ev 9 (by decide) (k 9 (by kernel_rfl));clear i k f;simp only[Par.af,d9];go_simp;all_goals exact n.out.up 11 (by decide) (by decide)
  have n:=aa i;have f6:vs 10=.int .i64 0:=i.ev 10 (by decide) (k 10 (by kernel_rfl));clear i k f;simp only[Par.af,f6];go_simp;all_goals exact n.out.up 12 (by decide) (by decide)
 intro l vs w6 p i;simp only[ex,ym];have Z:=i.post (p 7 (by decide));have e7:vs 11=.int .i64 0:=i.ev 11 (by decide) (p 11 (by decide));have e8:vs 12=.int .i64 0:=i.ev 12 (by decide) (p 12 (by decide));simp only[e7,e8];have x6:w6.heap[c]?=some (.cells #[.int .i64 1,.int .i64 1,.string e0] 32):=(Z.still M.2.2.1).trans M.2.2.2;have e9:=Z.bel M.1 M.2.1;have H6:=aa (ab Z (ab x6 e9));have H:=Wd.lits (l:=[an,de]) (z7 w6 (.cells #[.string an,.string de] 9)) rfl (by decide);have v:=(Z.later (aD w6 (.cells #[.string an,.string de] 9))).value (cO 4 (by decide)) (bN 4) aM bh (id:=0) (by decide) H;rw[Gj]at v;have v:Calls prog 17 #[.pointer (some ⟨d,0,none⟩),.string bh,.int .i64 0,.slice (some ⟨w6.heap.size,0,none⟩) 2 2] (w6.alloc (.cells #[.string an,.string de] 9)) fun e o=>e=.returned (.tuple #[.agg #[.int .i64 2,.int .i64 0,.string oq],.bool true])/\Below (w6.alloc (.cells #[.string an,.string de] 9)).heap.size (w6.alloc (.cells #[.string an,.string de] 9)) o:=v
 generalize vs 0=s10;generalize vs 1=s11;generalize vs 2=s12;generalize vs 3=s13;generalize vs 4=CM;generalize vs 5=s15;generalize vs 6=s16;generalize vs 7=Cy;generalize vs 8=s18;generalize vs 9=s19;generalize vs 10=s20;clear i p Z e7 e8 x6 e9 H vs;go_upto_region 8 with (go_at_call 17;(with_reducible refine v.mono ?_);rintro e w7⟨rfl,f0⟩;have H7:=aa (ab (aC (aC (aD w6 (.cells #[.string an,.string de] 9)) f0) (aD w7 (.cells #[.int .i64 2,.int .i64 0,.string oq] 32))) (z7 w7 (.cells #[.int .i64 2,.int .i64 0,.string oq] 32)));clear v f0);obtain⟨w8,c2⟩:=ae (w7.alloc (.cells #[.int .i64 2,.int .i64 0,.string oq] 32));obtain⟨c6,c3⟩:=ae w7.heap.size;rw[c2,c3]at H7;rw[c2,c3];clear c2 c3;have y:=((H6.1.later H7.1).later (aD w8 (.cells #[.string d'] 9))).value (cO 4 (by decide)) (bN 4) aM bh (id:=0) (by decide) (Wd.lits (l:=[d']) (z7 w8 (.cells #[.string d'] 9)) rfl (by decide));rw[FH]at y;have y:Calls prog 17 #[.pointer (some ⟨d,0,none⟩),.string bh,.int .i64 0,.slice (some ⟨w8.heap.size,0,none⟩) 1 1] (w8.alloc (.cells #[.string d'] 9)) fun e o=>e=.returned (.tuple #[.agg #[.int .i64 0,.int .i64 0,.string e0],.bool true])/\Below (w8.alloc (.cells #[.string d'] 9)).heap.size (w8.alloc (.cells #[.string d'] 9)) o:=y
 go_upto_region 9 with (go_at_call 17;(with_reducible refine y.mono ?_);rintro e w9⟨rfl,f1⟩;have H9:=aa (ab (aC (aC (aD w8 (.cells #[.string d'] 9)) f1) (aD w9 (.cells #[.int .i64 0,.int .i64 0,.string e0] 32))) (z7 w9 (.cells #[.int .i64 0,.int .i64 0,.string e0] 32)));clear y f1);obtain⟨G,a0⟩:=ae (w9.alloc (.cells #[.int .i64 0,.int .i64 0,.string e0] 32));obtain⟨c8,c4⟩:=ae w9.heap.size;rw[a0,c4]at H9;rw[a0,c4];clear a0 c4;have a6:=aa (ab (aC H7.1 H9.1) (ab (aE H9.1 H7.2) H9.2));have z:=((H6.1.later a6.1).later (aD G (.cells #[.string d'] 9))).value (cO 4 (by decide)) (bN 4) aM bh (id:=9) (by decide) (Wd.lits (l:=[d']) (z7 G (.cells #[.string d'] 9)) rfl (by decide));rw[F']at z;have z:Calls prog 17 #[.pointer (some ⟨d,0,none⟩),.string bh,.int .i64 9,.slice (some ⟨G.heap.size,0,none⟩) 1 1] (G.alloc (.cells #[.string d'] 9)) fun e o=>e=.returned (.tuple #[.agg #[.int .i64 0,.int .i64 0,.string e0],.bool false])/\Below (G.alloc (.cells #[.string d'] 9)).heap.size (G.alloc (.cells #[.string d'] 9)) o:=z
 go_upto_region 10 with (go_at_call 17;(with_reducible refine z.mono ?_);rintro e f2⟨rfl,a8⟩;have a7:=aa (aC (aC (aD G (.cells #[.string d'] 9)) a8) (aD f2 (.cells #[.int .i64 0,.int .i64 0,.string e0] 32)));clear z a8);generalize f2.alloc _=w12 at a7 ⊢;have a1:=aa (ab (aC a6.1 a7.out) (ab (aE a7.out a6.2.1) (aE a7.out a6.2.2)));have a2:=(H6.1.later a1.1).bykey (cO 4 (by decide)) (bN 4) aM an (1,1,e0);rw[Fa]at a2;have a2:Calls prog 47 #[.pointer (some ⟨d,0,none⟩),.string an,.agg #[.int .i64 1,.int .i64 1,.string e0]] w12 fun e o=>e=.returned (.tuple #[.int .i64 0,.bool true])/\Below w12.heap.size w12 o:=a2
 have I:=aE a1.1 H6.2.1;have k0:=aA I 0;have k1:=aA I 1;have k2:=aA I 2;clear I;go_upto_region 11 with (go_at_call 47;(with_reducible refine a2.mono ?_);rintro e c5⟨rfl,J⟩;have P:=aa (ab (aC a1.1 J) (ab (aE J a1.2.1) (aE J a1.2.2)));clear a2 J);clear k0 k1 k2;have a9:=tP c5
 have a3:∀w,Below c5.heap.size c5 w->Calls prog 128 #[.pointer (some ⟨d,0,none⟩)] w fun e o=>∃d2,e=.returned (.pointer (some ⟨d2,0,none⟩))/\Below w.heap.size w o:=fun w B=>by
  obtain⟨st,O,hD,_,hL⟩:=(H6.1.later (aC P.1 B)).dd;refine(oX hD (bN 4) aM yM (fun t ht=>(gT t ht).1) (fun s hs=>?_) (by decide)).mono ?_
  ·have L:s.2∈Aw:=(by rw[<-hL];exact ud hs);have h2:∀x∈Aw,x.1<=590:=(by decide);exact h2 _ L
  rintro e o⟨d2,_,_,rfl,_,_,_,hb⟩;exact⟨d2,rfl,hb⟩
 go_wp2_with (first|(go_at_call 209;refine a9.mono ?_;rintro e f7⟨rfl,A⟩;have y0:=aA (aE A P.2.1) 2;have yl:=aB (aE A P.2.1);have z0:=aA (aE A P.2.2) 0;have zl:=aB (aE A P.2.2);have f3:=a3 f7 A;have f8:=aa (aC P.1 A);clear a9 A a3)|(go_at_call 128;refine f3.mono ?_;rintro e g0⟨d2,rfl,b0⟩;have f9:=aa (aC f8.out b0);clear f3 b0))
 go_ret;exact⟨rfl,aC H6.2.2 f9.out⟩
abbrev Lz:List PT:=List.replicate 4 (0,[])
theorem iZ:∀x∈Lz,ie 0 x:=fun x a=>by
 obtain rfl:=List.eq_of_mem_replicate a;exact⟨zo _,zo _⟩
theorem gV:∀t∈pre 4,0<t.cols.length/\t.cols.length<=1000:=fun t a=>⟨(gT t a).1,by have:=(gT t a).2;omega⟩
structure IP (W:World) (d b:Nat) (ts:List T) (L:List PT):Prop where
 dd:∃st O,Dd W d ts st O/\st.map (·.2)=L
 nn:∃tt i O,im W b ts tt i O/\tt.map ky=L
section
variable{W:World}{d b:Nat}{L:List PT}{m:Nat}
end
def fh(k:Int)(n:Nat):Bool:=if k=1∨k=2 then true else if k=3 then decide (n=1)else false
theorem dJ(k id:Int)(tb col:ByteArray)(p:Option Addr)(n c:Nat)(W:World):Calls prog 192 #[.agg #[.int .i64 k,.string tb,.int .i64 id,.string col,.slice p n c]] W fun e l=>e=.returned (.bool (fh k n))/\Below W.heap.size W l:=by
 unfold fh;have b:=aD W (.cells #[.int .i64 k,.string tb,.int .i64 id,.string col,.slice p n c] 73);have f:=z7 W (.cells #[.int .i64 k,.string tb,.int .i64 id,.string col,.slice p n c] 73);obtain⟨m,d⟩:=ae (W.alloc (.cells #[.int .i64 k,.string tb,.int .i64 id,.string col,.slice p n c] 73));obtain⟨B,g⟩:=ae W.heap.size;rw[d]at b f;rw[g]at f;have o:=aA f 0;have q:=aA f 4;have r:=aB f;have a:=aa (ab d (ab g b));clear d b f g;by_cases h:k=1
 ·subst h;go_enter func192,ntmps192;go_upto_region 1 with fail;rw[a.1,a.2.1];go_wp2_with fail;go_ret;exact⟨rfl,a.2.2⟩
 by_cases i:k=2
 ·subst i;go_enter func192,ntmps192;go_upto_region 1 with fail;rw[a.1,a.2.1];go_wp2_with fail;go_ret;exact⟨rfl,a.2.2⟩
 by_cases j:k=3
 ·subst j;go_enter func192,ntmps192;go_upto_region 1 with fail;rw[a.1,a.2.1];go_wp2_with fail;go_ret;refine⟨?_,a.2.2⟩;have e:((n:Int)==1)=decide (n=1):=(by rw[wu];simp;omega);simp[e]
 have s:(k==1)=false:=(by simp[h]);have t:(k==2)=false:=(by simp[i]);have u:(k==3)=false:=(by simp[j]);go_enter func192,ntmps192;go_upto_region 1 with fail;rw[a.1,a.2.1];go_wp2_with fail;go_ret;exact⟨by simp,a.2.2⟩
def br(p:Nat->Bool)(n:Nat):Option Nat:=(List.range n).find? p
theorem aV{p:Nat->Bool}{n:Nat}(h:∀j,j<n->p j=false):br p n=none:=by
 unfold br;rw[vz];intro j a;rw[h j (List.mem_range.1 a)];decide
theorem bL{p:Nat->Bool}{n k:Nat}(hk:k<n)(h:p k=true)(h0:∀j,j<k->p j=false):br p n=some k:=by
 unfold br;rw[List.find?_range_eq_some];exact⟨h,List.mem_range.2 hk,fun j a=>by rw[h0 j a];rfl⟩
theorem nH{p:Nat->Bool}{n k:Nat}(h:br p n=some k):k<n/\p k=true/\∀j,j<k->p j=false:=by
 unfold br at h;rw[List.find?_range_eq_some]at h;obtain⟨a,b,c⟩:=h;exact⟨List.mem_range.1 b,a,fun j d=>by simpa using c j d⟩
def tk(t:T)(x:ByteArray)(r:List T3):T3:=r.getD (fx t.cols x).toNat z3
def bf(t:T)(x:ByteArray)(a b:List T3):Bool:=decide (tk t x a=tk t x b)
def mq(t:T)(k:Nat):C:=t.cols.getD k ⟨e0,0,false,e0⟩
def eg(t:T)(r:List T3)(k:Nat):Bool:=(mq t k).mu&&decide ((r.getD k z3).1=0)
def ll(t:T)(r:List T3)(B:List (List T3)):Bool:=decide (t.key≠e0)&&B.any (fun a=>bf t t.key r a)
def jm(ts:List T)(As:List (List R1))(t:T)(r:List T3)(k:Nat):Bool:=decide ((mq t k).tgt≠e0)&&(decide ((r.getD k z3).1≠0)&&(bi ts As (mq t k).tgt (r.getD k z3)).isNone)
def dk(t:T)(d:D)(r:List T3)(B:List (List T3)):Bool:=B.any (fun a=>d.left.all (fun x=>bf t x r a)&&!bf t d.right r a)
def ge(ts:List T)(As:List (List R1))(t:T)(r:List T3)(B:List (List T3)):Int×ByteArray:=
 match br (eg t r) t.cols.length with
 | some k=>(7,(mq t k).nm)
 | none=>if ll t r B=true then(8,t.key)else
  match br (jm ts As t r) t.cols.length with
  | some k=>(9,(mq t k).nm)
  | none=>match br (fun k=>dk t (t.deps.getD k ⟨[],e0⟩) r B) t.deps.length with
   | some k=>(10,(t.deps.getD k ⟨[],e0⟩).right)
   | none=>(0,e0)
def dj(A:List R1)(i:Nat):List (List T3):=(A.take i).map (·.2)
def rowAt(A:List R1)(i:Nat):R1:=A.getD i (0,[])
def firstT(l:List T3)(i:Nat):Bool:=decide ((l.getD i z3).1=2)&&(List.range i).all fun j=>decide (l.getD j z3≠l.getD i z3)
def gx(A:List R1)(c:Nat):Nat:=((List.range A.length).filter (firstT (A.map fun a=>a.2.getD c z3))).length
def kt(ts:List T)(As:List (List R1))(t:T)(A:List R1)(i:Nat):Bool:=decide ((ge ts As t (rowAt A i).2 (dj A i)).1≠0)
def ln(t:T)(A:List R1):Int×Int×ByteArray:=
 if 64<A.length then(5,0,e0)else
  match br (fun c=>decide (40<gx A c)) t.cols.length with
  | some c=>(5,0,(mq t c).nm)
  | none=>(0,0,e0)
def gq(ts:List T)(As:List (List R1))(t:T)(A:List R1):Int×Int×ByteArray:=
 match br (kt ts As t A) A.length with
 | some i=>((ge ts As t (rowAt A i).2 (dj A i)).1,(rowAt A i).1,(ge ts As t (rowAt A i).2 (dj A i)).2)
 | none=>(0,0,e0)
def oz(ts:List T)(As:List (List R1))(t:T)(A:List R1):Int×Int×ByteArray:=if (ln t A).1=0 then gq ts As t A else ln t A
def cq(ts:List T)(As:List (List R1))(j:Nat):Int×Int×ByteArray:=oz ts As (ts.getD j ⟨e0,[],e0,[]⟩) (As.getD j [])
def bk(ts:List T)(As:List (List R1)):Int×ByteArray×Int×ByteArray:=
 match br (fun j=>decide ((cq ts As j).1≠0)) ts.length with
 | some j=>((cq ts As j).1,(ts.getD j ⟨e0,[],e0,[]⟩).nm,(cq ts As j).2.1,(cq ts As j).2.2)
 | none=>(0,e0,0,e0)
def ng(A:List R1)(c:Nat):List T3:=A.map fun a=>a.2.getD c z3
def kj(l:List T3)(i:Nat):Bool:=decide ((l.getD i z3).1=2)&&(List.range i).all fun j=>decide (l.getD j z3≠l.getD i z3)
def ga(l:List T3)(n:Nat):List Nat:=(List.range n).filter (kj l)
theorem qM(l:List T3)(n:Nat):(ga l (n+1)).length=(ga l n).length+if kj l n=true then 1 else 0:=by
 unfold ga;rw[List.range_succ,List.filter_append,y6];cases h:kj l n <;> simp[h]
theorem dK{l:List T3}{i:Nat}:kj l i=true↔(l.getD i z3).1=2/\∀j,j<i->l.getD j z3≠l.getD i z3:=by
 unfold kj;rw[zy,xi,decide_eq_true_iff];constructor
 ·rintro⟨a,b⟩;exact⟨a,fun j c=>wf (b j (List.mem_range.2 c))⟩
 rintro⟨a,b⟩;exact⟨a,fun j c=>yy (b j (List.mem_range.1 c))⟩
theorem cP{l:List T3}{i:Nat}(h:i<l.length):l.getD i z3=l[i]:=by
 rw[zv,z6 h];rfl
theorem Dy{x y:T3}(hx:x.2.1=0/\x.2.2.size<=12)(hy:y.2.1=0/\y.2.2.size<=12)(h1:x.1=2)(h2:y.1=2)(e:wd x.2.2=wd y.2.2):x=y:=by
 obtain⟨k,n,s⟩:=x;obtain⟨a,b,c⟩:=y
 have:=DH hx.2 hy.2 e
 simp only at h1 h2 hx hy this;rw[h1,h2,hx.1,hy.1,this]
theorem wL{l:List T3}(hv:∀x∈l,x.1=2->x.2.1=0/\x.2.2.size<=12):∃m:List (K 12),m.length=(ga l l.length).length/\m.Nodup/\∀s,s∈m↔∃x∈l,x.1=2/\wd x.2.2=s:=by
 refine⟨(ga l l.length).map (fun i=>wd (l.getD i z3).2.2),yd _,?_,fun s=>⟨fun v=>?_,?_⟩⟩
 ·have w:(ga l l.length).Pairwise (fun a b=>a≠b):=List.Pairwise.filter _ List.nodup_range;unfold List.Nodup;rw[List.pairwise_map];refine w.imp_of_mem (fun{i j} d g hne e=>hne ?_);obtain⟨c,k⟩:=List.mem_filter.1 d;obtain⟨f,p⟩:=List.mem_filter.1 g;have c:=List.mem_range.1 c;have f:=List.mem_range.1 f;obtain⟨u,y⟩:=dK.1 k;obtain⟨b1,b2⟩:=dK.1 p;have z:l.getD i z3∈l:=(by rw[cP c];exact z8 c);have A:l.getD j z3∈l:=(by rw[cP f];exact z8 f);have n:=Dy (hv _ z u) (hv _ A b1) u b1 e;rcases Nat.lt_trichotomy i j with h|h|h
  ·exact absurd n (b2 i h)
  ·exact h
  exact absurd n.symm (y j h)
 ·obtain⟨i,d,rfl⟩:=List.mem_map.1 v;obtain⟨c,k⟩:=List.mem_filter.1 d;have c:=List.mem_range.1 c;exact⟨l.getD i z3,by rw[cP c];exact z8 c,(dK.1 k).1,rfl⟩
 rintro⟨x,B,E,rfl⟩
 have q:∃i,i<l.length/\l.getD i z3=x:=by
  obtain⟨i,d,rfl⟩:=xp B;exact⟨i,d,cP d⟩
 have o:∃i,(i<l.length/\l.getD i z3=x)/\∀j,j<i->¬ (j<l.length/\l.getD j z3=x):=by
  obtain⟨i,d⟩:=q
  induction i using Nat.strongRecOn with
  | ind i ih =>
   by_cases h:∃j,j<i/\j<l.length/\l.getD j z3=x
   ·obtain⟨j,g,r⟩:=h;exact ih j g r
   ·exact⟨i,d,fun j g r=>h ⟨j,g,r⟩⟩
 obtain⟨i,⟨d,t⟩,F⟩:=o;refine List.mem_map.2 ⟨i,List.mem_filter.2 ⟨List.mem_range.2 d,dK.2 ⟨by rw[t];exact E,fun j g e=>F j g ⟨by omega,e.trans t⟩⟩⟩,by rw[t]⟩
theorem Do{kind:Int}{x:T3}(h:lq kind x=true)(h2:x.1=2):x.2.1=0/\x.2.2.size<=12:=by
 refine⟨?_,gZ h h2⟩;unfold lq at h;rw[zy]at h;have h:=h.1;unfold jh at h;rw[h2]at h;simp at h;exact h.1
section
variable{W:World}{tb next:Nat}{t:T}{A:List R1}{lab:Nat->Nat}
theorem qN(h:Tb W tb t next A lab){c:Nat}(hc:c<t.cols.length)(g:fx t.cols t.cols[c].nm=(c:Int)):Calls prog 193 #[.pointer (some ⟨tb,0,none⟩),.string t.cols[c].nm] W fun e p=>e=.returned (.int .i64 ((ga (ng A c) A.length).length:Int))/\Below W.heap.size W p:=by
 have i:∀x∈ng A c,x.1=2->x.2.1=0/\x.2.2.size<=12:=fun x g d=>by
  unfold ng at g;obtain⟨a,f,rfl⟩:=List.mem_map.1 g;have k:=h.len a f;have b:c<a.2.length:=(by omega);have l:=h.ok a f c hc a.2[c] (z6 b);rw[cP b]at d ⊢;obtain⟨u,q⟩:=ae (a.2[c]);rw[q]at l d ⊢;exact Do l d
 obtain⟨m,n,r,v⟩:=wL i;have k:(ng A c).length=A.length:=(by unfold ng;rw[yd]);rw[k]at n;rw[<-n];refine rZ h hc g m r (fun s=>?_);rw[v];constructor
 ·rintro⟨x,g,j,d⟩;unfold ng at g;obtain⟨a,f,rfl⟩:=List.mem_map.1 g;have b:c<a.2.length:=(by rw[h.len a f];exact hc);rw[cP b]at j d;exact⟨a,f,a.2[c],z6 b,j,d⟩
 rintro⟨a,f,y,o,j,d⟩;have b:c<a.2.length:=(by rw[h.len a f];exact hc);rw[z6 b]at o;cases o;exact⟨_,ud f,by rw[cP b];exact j,by rw[cP b];exact d⟩
end
theorem E7(A:List R1)(c:Nat):(ga (ng A c) A.length).length=gx A c:=rfl
