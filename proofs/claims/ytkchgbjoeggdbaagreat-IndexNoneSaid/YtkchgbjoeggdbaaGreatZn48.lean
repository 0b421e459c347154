import Derived.Test.YtkchgbjoeggdbaaGreatZn47
set_option maxHeartbeats 8000000
set_option maxRecDepth 100000
namespace Go.Proofs.YtkchgbjoeggdbaaGreat
open Go.Proofs.Tryz
open Go Go.RowKit Go.Proofs Co Co.S
section
variable{t:T}{A:List R1}{c:Nat}
theorem tZ(h:64<A.length):ln t A=(5,0,e0):=by unfold ln;rw[zw h]
theorem pF(h:¬ 64<A.length)(hc:c<t.cols.length)(h1:40<gx A c)(h0:∀m,m<c->¬ 40<gx A m):ln t A=(5,0,(mq t c).nm):=by
 unfold ln;rw[zu h,bL (p:=fun c=>decide (40<gx A c)) hc (yy h1) (fun j a=>yp (h0 j a))]
theorem jU(h:¬ 64<A.length)(h0:∀m,m<t.cols.length->¬ 40<gx A m):ln t A=(0,0,e0):=by
 unfold ln;rw[zu h,aV (p:=fun c=>decide (40<gx A c)) (fun j a=>yp (h0 j a))]
theorem uA:gx A c<=A.length:=by
 unfold gx
 have:=List.length_filter_le (firstT (A.map fun a=>a.2.getD c z3)) (List.range A.length)
 rw[List.length_range]at this;exact this
end
theorem uB{W:World}{d:Nat}{ts:List T}{st:List DT}{O:Nat->Nat}(h:Dd W d ts st O)(hsz:Short ts){j:Nat}(hj:j<ts.length)(hj':j<st.length){cv dv:Value}(hT:dw W cv dv ts[j])(hnc:ts[j].cols.length<=1000)(hcx:∀c (hc:c<ts[j].cols.length),fx ts[j].cols ts[j].cols[c].nm=(c:Int))(hAl:st[j].2.2.length<=1000):Calls prog 162 #[.pointer (some ⟨d,0,none⟩),.agg #[.string ts[j].nm,cv,.string ts[j].key,dv]] W fun e w'=>e=.returned (dr (ln ts[j] st[j].2.2).1 0 e0 (ln ts[j] st[j].2.2).2.1 (ln ts[j] st[j].2.2).2.2)/\Below W.heap.size W w':=by
 obtain⟨pc,cc,rfl,_,_⟩:=hT.c.slice;obtain⟨pd,cd,rfl,_,_⟩:=hT.d.slice;have b2:=aD W (.cells #[.string ts[j].nm,.slice pc ts[j].cols.length cc,.string ts[j].key,.slice pd ts[j].deps.length cd] 60);have X:=z7 W (.cells #[.string ts[j].nm,.slice pc ts[j].cols.length cc,.string ts[j].key,.slice pd ts[j].deps.length cd] 60);have z2:=zm W (.cells #[.string ts[j].nm,.slice pc ts[j].cols.length cc,.string ts[j].key,.slice pd ts[j].deps.length cd] 60);obtain⟨wb,a8⟩:=ae (W.alloc (.cells #[.string ts[j].nm,.slice pc ts[j].cols.length cc,.string ts[j].key,.slice pd ts[j].deps.length cd] 60));rw[a8]at b2 X z2;have Y:=aD wb (.cells zF 173);have H:=z7 wb (.cells zF 173);obtain⟨w1,a9⟩:=ae (wb.alloc (.cells zF 173));rw[a9]at Y H;have u:(W.alloc (.cells #[.string ts[j].nm,.slice pc ts[j].cols.length cc,.string ts[j].key,.slice pd ts[j].deps.length cd] 60)).alloc (.cells zF 173)=w1:=(by rw[a8,a9]);obtain⟨F,hF⟩:=ae W.heap.size;rw[hF]at X;rw[z2,hF]at H;have X:=aE Y X;have Z:=aC b2 Y;have E:Calls prog 14 #[.pointer (some ⟨d,0,none⟩),.string ts[j].nm] w1 fun e w'=>e=.returned (.pointer (some ⟨st[j].1,0,none⟩))/\w'=w1:=(h.later Z).table hj (hsz _ (z8 hj)) hj'
 obtain⟨d5,a0,_⟩:=h.tab j hj hj';obtain⟨A,J⟩:=ae (st[j].2.2);have b9:Hid (∀w,Below W.heap.size W w->Calls prog 15 #[.pointer (some ⟨st[j].1,0,none⟩)] w (rq (oi A) w)):=aa (fun w hw=>by subst J;exact eM (a0.later hw));have a5:A.Pairwise (fun a b=>a.1<b.1):=(by subst J;obtain⟨i0,_,hi⟩:=a0;exact hi.srt);have b0:Hid (∀w (p:Option Addr) (n c:Nat),Vm w (.slice p n c) (oi A)->Calls prog 9 #[.agg #[.slice p n c]] w fun e w2=>e=.returned (.int .i64 (A.length:Int))/\Below w.heap.size w w2):=aa (fun w p n c hv=>jS hv a5)
 have b1:Hid (∀w,Below W.heap.size W w->∀c,c<ts[j].cols.length->Calls prog 193 #[.pointer (some ⟨st[j].1,0,none⟩),.string (mq ts[j] c).nm] w fun e w'=>e=.returned (.int .i64 (gx A c:Int))/\Below w.heap.size w w'):=aa (fun w hw c hc=>by
  subst J;rw[nO hc];exact qN (a0.later hw) hc (hcx c hc))
 have L:Hid (∀y,Below W.heap.size W y->∀k,k<ts[j].cols.length->∃b x,pc=some ⟨b,x,none⟩/\b<y.heap.size/\y.cell? ⟨b,x+k*4,none⟩=some (.string (mq ts[j] k).nm)/\y.cell? ⟨b,x+k*4+1,none⟩=some (.int .i64 (mq ts[j] k).kd)/\y.cell? ⟨b,x+k*4+2,none⟩=some (.bool (mq ts[j] k).mu)/\y.cell? ⟨b,x+k*4+3,none⟩=some (.string (mq ts[j] k).tgt)):=aa (fun y hy k hk=>by
  rw[nO hk];obtain⟨b,x,e,h1,h2,h3,h4,h5⟩:=fj.col (hT.c.later hy) hk;exact⟨b,x,e,h1,h2,h3,h4,h5⟩)
 rw[J]at hAl ⊢;obtain⟨t,ht⟩:=ae (ts[j]);obtain⟨tb,a6⟩:=ae (st[j].1);simp only[ht,a6]at E b9 b1 L u X hnc ⊢;obtain⟨nc,M⟩:=ae t.cols.length;obtain⟨nd,c4⟩:=ae t.deps.length;have B:=M;simp only[M,c4]at b1 L u X hnc ⊢;obtain⟨nm,c5⟩:=ae t.nm;obtain⟨key,a7⟩:=ae t.key;simp only[c5,a7]at E u X ⊢;obtain⟨na,b4⟩:=ae A.length;rw[b4]at b0 hAl;have d3:(na:Int)<=1000:=(by omega);have d4:(nc:Int)<=1000:=(by omega);obtain⟨res,s⟩:=ae (ln t A);rw[s];have r:=aa (ab s (ab B b4))
 have b5:Hid (∀(w2 N:World) (er id:Int) (col:ByteArray),Below w1.heap.size w1 w2->((((w2.setCell ⟨F+1,0,none⟩ (.int .i64 er)).setCell ⟨F+1,1,none⟩ (.int .i64 0)).setCell ⟨F+1,2,none⟩ (.string e0)).setCell ⟨F+1,3,none⟩ (.int .i64 id)).setCell ⟨F+1,4,none⟩ (.string col)=N ->
   (N.cell? ⟨F+1,0,none⟩=some (.int .i64 er)/\N.cell? ⟨F+1,1,none⟩=some (.int .i64 0)/\N.cell? ⟨F+1,2,none⟩=some (.string e0)/\N.cell? ⟨F+1,3,none⟩=some (.int .i64 id)/\N.cell? ⟨F+1,4,none⟩=some (.string col))/\Below W.heap.size W N):=aa (by
  rintro w2 N er id col hb rfl;have h5:=nX (aE hb H) (.int .i64 er) (.int .i64 0) (.string e0) (.int .i64 id) (.string col);have hg:=bG w2 (F+1) (.int .i64 er) (.int .i64 0) (.string e0) (.int .i64 id) (.string col);refine⟨⟨aA h5 0,aA h5 1,aA h5 2,aA h5 3,aA h5 4⟩,?_⟩;have G:=aC Z hb;exact G.trans ⟨hg.os,hg.tape,hg.output,hg.size,fun q hq=>hg.block q (z9 hq G.size) (fun e=>by cases e;omega)⟩)
 have g:=aa (ab X (ab H (ab Z (ab u hF))));clear h hsz hT hcx hAl a0 a5 b2 Y X H z2 a8 a9 u hF Z ht a6 J M c4 c5 a7 b4 s hnc B;go_enter func162,ntmps162;go_upto_region 1 with fail;rw[g.2.2.2.1,g.2.2.2.2];have x0:=aA g.1 0;have x1:=aA g.1 1;have xl:=aB g.1;go_upto_region 2 with (go_at_call 14;(with_reducible refine E.mono ?_);rintro e w2⟨rfl,hw⟩;subst w2;clear E);have a1:=b9.out w1 g.2.2.1;by_cases l:na>64
 ·have d0:(na:Int)>64:=(by omega);obtain rfl:res=(5,0,e0):=r.1.symm.trans (tZ (by rw[r.2.2];exact l));clear l
  go_wp2_with (first|(go_at_call 15;refine a1.mono ?_;rintro e w3⟨p9,n9,c9,rfl,P,Q⟩;have R:=b0.out w3 p9 n9 c9 P;have H3:=aa Q;clear a1 P Q)|(go_at_call 9;refine R.mono ?_;rintro e w4⟨rfl,o⟩;have f:=aC H3.out o;have r0:=aA (aE f g.2.1) 0;have r1:=aA (aE f g.2.1) 1;have r2:=aA (aE f g.2.1) 2;have r3:=aA (aE f g.2.1) 3;have r4:=aA (aE f g.2.1) 4;have rf:=fun i=>zq w4 (F+1) i _ _ (aE f g.2.1);have rl:=aB (aE f g.2.1);have H4:=aa f;clear R o f x0 x1 xl))
  generalize S:((((World.setCell _ _ _).setCell _ _).setCell _ _).setCell _ _).setCell _ _=N;obtain⟨⟨y0,y1,y2,y3,y4⟩,U⟩:=b5.out _ _ _ _ _ H4.out S;refine y8 (v:=dr 5 0 e0 0 e0) (by simp[results,results162,go_sem,y0,y1,y2,y3,y4]) rfl ?_;exact⟨rfl,U⟩
 have d0:¬ (na:Int)>64:=(by omega);have c6:=aa (show ¬ 64<A.length by rw[r.2.2];exact l);clear l
 go_upto_region 4 with (first|(go_at_call 15;(with_reducible refine a1.mono ?_);rintro e w3⟨p9,n9,c9,rfl,P,Q⟩;have R:=b0.out w3 p9 n9 c9 P;have H3:=aa Q;clear a1 P Q)|(go_at_call 9;(with_reducible refine R.mono ?_);rintro e w4⟨rfl,o⟩;have H4:=aa (aC H3.out o);clear R o))
 clear x0 x1 xl;have y1:=aA (aE H4.out g.1) 1;have yl:=aB (aE H4.out g.1);go_wp2_with fail;clear y1 yl;go_loopg [20] (nc+1) (fun gh jv y=>∃(m:Nat),jv=.int .i64 (m:Int)/\m<=nc/\nc+1<=m+gh/\(∀i,i<m->¬ 40<gx A i)/\Below w1.heap.size w1 y)
 case atStart=>exact⟨0,rfl,zj _,by omega,fun i hi=>by omega,H4.out⟩
 obtain⟨m,rfl,hm,hg,b6,I⟩:=hrel;have HI:=aa (ab b6 I);by_cases b7:m<nc
 ·have d6:(m:Int)<(nc:Int):=(by omega);have G:=aC g.2.2.1 I;obtain⟨b,x,rfl,bl,c0,c1,c2,c3⟩:=L.out wr G m b7;have z:=(fun y hy=>b1.out y (aC G hy) m b7);obtain⟨c,B⟩:=ae (mq t m);obtain⟨wn,a2⟩:=ae (gx A m);rw[B]at c0 c1 c2 c3;simp only[B,a2]at z;have Y:=aD wr (.cells #[.string c.nm,.int .i64 c.kd,.bool c.mu,.string c.tgt] 107);have H:=z7 wr (.cells #[.string c.nm,.int .i64 c.kd,.bool c.mu,.string c.tgt] 107);obtain⟨w3,a3⟩:=ae (wr.alloc (.cells #[.string c.nm,.int .i64 c.kd,.bool c.mu,.string c.tgt] 107));obtain⟨V,hV⟩:=ae wr.heap.size;have d1:wr.heap.size<=w3.heap.size:=(by rw[<-a3];exact(aD wr _).size);rw[a3]at Y H;have z:=z w3 Y;have c7:wn<=na:=(by rw[<-a2,<-r.2.2];exact uA);have d7:(wn:Int)<=1000:=(by omega);rw[hV]at H;have z0:=aA H 0;have zl:=aB H;have HX:=aa (ab a3 (ab hV (ab H (ab (aC I Y) (ab B a2)))));clear b6 I G Y H a3 hV B a2 c7 d1;go_upto_region 7 with fail;rw[HX.1,HX.2.1];clear c0 c1 c2 c3 bl;by_cases l:wn>40
  ·have c8:(wn:Int)>40:=by omega
   have s:res=(5,0,c.nm):=r.1.symm.trans (by
    rw[pF c6.out (by rw[r.2.1];exact b7) (by rw[HX.2.2.2.2.2];exact l) HI.1,HX.2.2.2.2.1])
   obtain⟨cn,a4⟩:=ae c.nm;rw[a4]at s z0 z;have d8:=aa a4;have b8:=aa HX.2.2.1;rw[a4]at b8;subst s;clear l a4;go_wp2_with (go_at_call 193;refine z.mono ?_;rintro e w4⟨rfl,o⟩;have f:=aC HX.2.2.2.1 o;have r0:=aA (aE f g.2.1) 0;have r1:=aA (aE f g.2.1) 1;have r2:=aA (aE f g.2.1) 2;have r3:=aA (aE f g.2.1) 3;have r4:=aA (aE f g.2.1) 4;have rf:=fun i=>zq w4 (F+1) i _ _ (aE f g.2.1);have rl:=aB (aE f g.2.1);have q0:=aA (aE o b8.out) 0;have ql:=aB (aE o b8.out);have H5:=aa f;clear z o f z0 zl);generalize S:((((World.setCell _ _ _).setCell _ _).setCell _ _).setCell _ _).setCell _ _=N;obtain⟨⟨y0,y1,y2,y3,y4⟩,U⟩:=b5.out _ _ _ _ _ H5.out S;refine y8 (v:=dr 5 0 e0 0 cn) (by simp[results,results162,go_sem,y0,y1,y2,y3,y4]) rfl ?_;exact⟨rfl,U⟩
  have c8:¬ (wn:Int)>40:=(by omega);have d2:=aa l;clear l;go_wp2_with (go_at_call 193;refine z.mono ?_;rintro e w4⟨rfl,o⟩;have H5:=aa (aC HX.2.2.2.1 o);clear z o);go_roundg (nc-m)
  case measure=>omega
  refine⟨m+1,by go_num,by omega,by omega,fun i hi=>?_,H5.out⟩;by_cases e:i=m
  ·subst e;rw[HX.2.2.2.2.2];exact d2.out
  exact HI.1 i (by omega)
 obtain rfl:m=nc:=(by omega);obtain rfl:res=(0,0,e0):=r.1.symm.trans (jU c6.out (fun i hi=>HI.1 i (by rw[<-r.2.1];exact hi)));have r0:=aA (aE I g.2.1) 0;have r1:=aA (aE I g.2.1) 1;have r2:=aA (aE I g.2.1) 2;have r3:=aA (aE I g.2.1) 3;have r4:=aA (aE I g.2.1) 4;have rf:=(fun i=>zq wr (F+1) i _ _ (aE I g.2.1));have rl:=aB (aE I g.2.1);clear b6 I;go_wp2_with fail;generalize S:((((World.setCell _ _ _).setCell _ _).setCell _ _).setCell _ _).setCell _ _=N;obtain⟨⟨y0,y1,y2,y3,y4⟩,U⟩:=b5.out _ _ _ _ _ HI.2 S;refine y8 (v:=dr 0 0 e0 0 e0) (by simp[results,results162,go_sem,y0,y1,y2,y3,y4]) rfl ?_;exact⟨rfl,U⟩
theorem bR{n G:Nat}{A w w':World}(hb:Below n A w)(hn:n<=A.heap.size)(hg:w.grownBy w' (some G))(hG:n<=G):Below n A w':=
 hb.trans ⟨hg.os,hg.tape,hg.output,hg.size,fun q a=>hg.block q (by have:=hb.size;omega) (fun e=>by cases e;omega)⟩
section
variable{ts:List T}{As:List (List R1)}{j:Nat}
theorem E4(hj:j<ts.length)(hA:j<As.length):cq ts As j=oz ts As ts[j] As[j]:=by
 unfold cq;rw[zv,z6 hj,zv,z6 hA];rfl
theorem kJ(hj:j<ts.length)(h:(cq ts As j).1≠0)(h0:∀i,i<j->(cq ts As i).1=0):bk ts As=((cq ts As j).1,ts[j].nm,(cq ts As j).2.1,(cq ts As j).2.2):=by
 unfold bk;rw[bL (p:=fun j=>decide ((cq ts As j).1≠0)) hj (yy h) (fun i a=>yp (fun b=>b (h0 i a)))];simp only[zv,z6 hj];rfl
theorem kK(h0:∀i,i<ts.length->(cq ts As i).1=0):bk ts As=(0,e0,0,e0):=by
 unfold bk;rw[aV (p:=fun j=>decide ((cq ts As j).1≠0)) (fun i a=>yp (fun b=>b (h0 i a)))]
end
structure sa (ts:List T):Prop where
 inv:ls ts
 few:bs ts
 sh:Short ts
 n:ts.length<=1000
 form:∀t∈ts,qj t
 pos:∀t∈ts,0<t.cols.length
 ix:∀t∈ts,∀c (hc:c<t.cols.length),fx t.cols t.cols[c].nm=(c:Int)
 un:∀j (hj:j<ts.length),bg ts ts[j].nm=some ts[j]
theorem pG{W:World}{d:Nat}{ts:List T}{st:List DT}{O:Nat->Nat}(h:Dd W d ts st O)(hok:sa ts)(hA:∀s∈st,s.2.2.length<=1000):Calls prog 130 #[.pointer (some ⟨d,0,none⟩)] W fun e w'=>e=.returned (dr (bk ts (rowsOf st)).1 0 (bk ts (rowsOf st)).2.1 (bk ts (rowsOf st)).2.2.1 (bk ts (rowsOf st)).2.2.2)/\Below W.heap.size W w':=by
 have b1:=aD W (.cells zF 173);have k1:=z7 W (.cells zF 173);obtain⟨X,b0⟩:=ae (W.alloc (.cells zF 173));obtain⟨R,hR⟩:=ae W.heap.size;have d6:X.heap.size=R+1:=(by rw[<-b0,<-hR,zm]);rw[b0]at b1 k1;rw[hR]at k1;have g4:Hid (∀w,Below W.heap.size W w->Dd w d ts st O):=aa (fun w I=>h.later I);have HS:Hid (∀w,Below W.heap.size W w->Calls prog 37 #[.pointer (some ⟨d,0,none⟩)] w fun e w'=>e=.returned (.pointer (some ⟨d,0,none⟩))/\w'=w):=aa (fun w I=>aY (h.later I).dlt)
 have m:Calls prog 161 #[.pointer (some ⟨d,0,none⟩)] X fun e w'=>∃v',e=.returned v'/\ac w' X.heap.size 9 1 v' ts.length (cellsS (ts.map T.nm))/\Below X.heap.size X w':=by
  obtain⟨mv,f,n0,q1,_⟩:=(h.later b1).own;exact vT q1.p hok.n
 have f5:Hid (∀w,Below W.heap.size W w->∀j (Y:j<ts.length),Calls prog 38 #[.pointer (some ⟨d,0,none⟩),.string ts[j].nm] w (ma ts[j] true w)):=aa (fun w I j Y=>by
  obtain⟨mv,f,n0,q1,_⟩:=(h.later I).own
  have:=dZ (x:=ts[j].nm) q1.p hok.few
  rw[cU,hok.un j Y]at this;exact this)
 have b8:st.length=ts.length:=h.len
 have b9:Hid (∀w,Below W.heap.size W w->∀j (Y:j<ts.length) (cv dv:Value),dw w cv dv ts[j]->(Calls prog 162 #[.pointer (some ⟨d,0,none⟩),.agg #[.string ts[j].nm,cv,.string ts[j].key,dv]] w fun e w'=>e=.returned (dr (ln ts[j] ((rowsOf st).getD j [])).1 0 e0 (ln ts[j] ((rowsOf st).getD j [])).2.1 (ln ts[j] ((rowsOf st).getD j [])).2.2)/\Below w.heap.size w w')/\(Calls prog 163 #[.pointer (some ⟨d,0,none⟩),.agg #[.string ts[j].nm,cv,.string ts[j].key,dv]] w fun e w'=>e=.returned (dr (gq ts (rowsOf st) ts[j] ((rowsOf st).getD j [])).1 0 e0 (gq ts (rowsOf st) ts[j] ((rowsOf st).getD j [])).2.1 (gq ts (rowsOf st) ts[j] ((rowsOf st).getD j [])).2.2)/\Below w.heap.size w w')):=aa (fun w I j Y cv dv hT=>by
  have b2:j<st.length:=by omega
  have e:(rowsOf st).getD j []=st[j].2.2:=by
   rw[zv,xe,z6 b2];rfl
  have hm:=z8 Y;have d7:=hA _ (z8 b2);rw[e];exact⟨uB (h.later I) hok.sh Y b2 hT (hok.form _ hm).nc (hok.ix _ hm) d7,qV (h.later I) hok.inv hok.few hok.sh Y b2 hT (hok.form _ hm) (hok.pos _ hm) d7⟩)
 obtain⟨As,c6⟩:=ae (rowsOf st);have d8:As.length=ts.length:=(by rw[<-c6,yd];exact b8);rw[c6]at b9 ⊢;obtain⟨nt,c7⟩:=ae ts.length;have g5:(nt:Int)<=1000:=(by have:=hok.n;omega);rw[c7]at m;obtain⟨res,Z⟩:=ae (bk ts As);rw[Z];have z:=aa (ab Z (ab c7 d8))
 have c8:Hid (∀(w2 J:World) (N id:Int) (nm col:ByteArray),Below X.heap.size X w2->((((w2.setCell ⟨R,0,none⟩ (.int .i64 N)).setCell ⟨R,1,none⟩ (.int .i64 0)).setCell ⟨R,2,none⟩ (.string nm)).setCell ⟨R,3,none⟩ (.int .i64 id)).setCell ⟨R,4,none⟩ (.string col)=J ->
   (J.cell? ⟨R,0,none⟩=some (.int .i64 N)/\J.cell? ⟨R,1,none⟩=some (.int .i64 0)/\J.cell? ⟨R,2,none⟩=some (.string nm)/\J.cell? ⟨R,3,none⟩=some (.int .i64 id)/\J.cell? ⟨R,4,none⟩=some (.string col))/\Below W.heap.size W J):=aa (by
  rintro w2 J N id nm col hb rfl;have h5:=nX (aE hb k1) (.int .i64 N) (.int .i64 0) (.string nm) (.int .i64 id) (.string col);have hg:=bG w2 R (.int .i64 N) (.int .i64 0) (.string nm) (.int .i64 id) (.string col);exact⟨⟨aA h5 0,aA h5 1,aA h5 2,aA h5 3,aA h5 4⟩,bR (aC b1 hb) (zo _) hg (by omega)⟩)
 have P:=aa (ab k1 (ab b1 (ab b0 (ab hR d6))));clear h hok hA b1 k1 b0 hR b8 c6 d8 c7 Z d6;go_enter func130,ntmps130;go_upto_region 1 with fail;rw[P.2.2.1,P.2.2.2.1];have hs:=HS.out X P.2.1
 go_wp2_with (first|(go_at_call 37;refine hs.mono ?_;rintro e w2⟨rfl,I⟩;subst w2;clear hs)|(go_at_call 161;refine m.mono ?_;rintro e w3⟨v3,rfl,c9,d9⟩;obtain⟨pn,cn,rfl,_,_⟩:=ac.isslice c9;have H3:=aa (ab c9 d9);clear m c9 d9))
 have f6:Hid (∀w,Below w3.heap.size w3 w->∀j (Y:j<ts.length),∃g,pn=some ⟨g,0,none⟩/\w.cell? ⟨g,j,none⟩=some (.string ts[j].nm)/\g<w.heap.size):=aa (fun w I j Y=>by
  have hr:=(H3.1).later I;obtain⟨g,c',e,_,_⟩:=ac.slice hr (by rw[<-z.2.1];omega);cases e;refine⟨g,rfl,hr.cell ?_,(ac.lt hr g rfl).2⟩;unfold cellsS;rw[xe,xe,z6 Y];rfl)
 go_loopg [12] (nt+1) (fun gh jv y=>∃(j:Nat),jv=.int .i64 (j:Int)/\j<=nt/\nt+1<=j+gh/\(∀i,i<j->(cq ts As i).1=0)/\Below w3.heap.size w3 y)
 case atStart=>exact⟨0,rfl,zj _,by omega,fun i hi=>by omega,zg _ _⟩
 obtain⟨j,rfl,Y,hg,d0,hB⟩:=hrel;have HI:=aa (ab d0 hB);by_cases f7:j<nt
 ·have g6:(j:Int)<(nt:Int):=(by omega);have a0:j<ts.length:=(by rw[z.2.1];exact f7);have a:=aC H3.2 hB;have b3:=aC P.2.1 a;obtain⟨g,rfl,c0,gl⟩:=f6.out wr hB j a0;have hs:=HS.out wr b3;have a6:=f5.out wr b3 j a0;have c:=fun w I=>b9.out w (aC b3 I) j a0
  have L:cq ts As j=if (ln ts[j] (As.getD j [])).1=0 then gq ts As ts[j] (As.getD j [])else ln ts[j] (As.getD j []):=by
   unfold cq oz;rw[zv (l:=ts),z6 a0];rfl
  obtain⟨t,ht⟩:=ae (ts[j]);obtain⟨A,e3⟩:=ae (As.getD j []);simp only[ht,e3]at c0 a6 c L;obtain⟨⟨e1,Q,k⟩,e4⟩:∃r,ln t A=r:=⟨_,rfl⟩;obtain⟨⟨e2,a7,B⟩,e5⟩:∃r,gq ts As t A=r:=⟨_,rfl⟩;simp only[e4,e5]at c L;obtain⟨nm,a8⟩:=ae t.nm;obtain⟨key,c3⟩:=ae t.key;unfold ma at a6;simp only[a8,c3]at c0 a6 c;have e6:=aa c;have HX:=aa (ab L (ab ht (ab a8 (ab a a0))));clear d0 hB b3 c L ht e3 e4 e5 a8 c3 a
  go_upto_region 5 with (first|(go_at_call 37;(with_reducible refine hs.mono ?_);rintro e w2⟨rfl,I⟩;subst w2;clear hs)|(go_at_call 38;(with_reducible refine a6.mono ?_);rintro e w4⟨p1,n1,c1,p2,n2,c2,rfl,hT,e7⟩;have H4:=aa (ab hT e7);clear a6 hT e7))
  have b5:=aD w4 (.cells #[.string nm,.slice p1 n1 c1,.string key,.slice p2 n2 c2] 60);have k5:=z7 w4 (.cells #[.string nm,.slice p1 n1 c1,.string key,.slice p2 n2 c2] 60);obtain⟨w5,d1⟩:=ae (w4.alloc (.cells #[.string nm,.slice p1 n1 c1,.string key,.slice p2 n2 c2] 60));obtain⟨F,hF⟩:=ae w4.heap.size;rw[d1]at b5 k5;rw[hF]at k5;rw[d1,hF];have c:=(e6.out w5 (aC H4.2 b5) _ _ (H4.1.later b5)).1;have f0:=aA k5 0;have f1:=aA k5 1;have f2:=aA k5 2;have f3:=aA k5 3;have fl:=aB k5;have H5:=aa (ab k5 (aC H4.2 b5));have f8:=aa (H4.1.later b5);clear b5 k5 d1 hF c0 gl;go_upto_region 6 with (go_at_call 162;(with_reducible refine c.mono ?_);rintro e w6⟨rfl,e8⟩;have H6:=aa e8;clear c e8);clear f0 f1 f2 f3 fl;have b7:=aD w6 (.cells #[.int .i64 e1,.int .i64 0,.string e0,.int .i64 Q,.string k] 173);have k7:=z7 w6 (.cells #[.int .i64 e1,.int .i64 0,.string e0,.int .i64 Q,.string k] 173);obtain⟨w7,d2⟩:=ae (w6.alloc (.cells #[.int .i64 e1,.int .i64 0,.string e0,.int .i64 Q,.string k] 173));obtain⟨G,hG⟩:=ae w6.heap.size;rw[d2]at b7 k7;rw[hG]at k7;rw[d2,hG];have a9:=aC H6.out b7;have c4:Below wr.heap.size wr w7:=aC H5.2 a9;have d3:wr.heap.size<=G:=(by have h1:=H5.2.size;have h2:=H6.out.size;omega);have g0:=aA k7 0;have gl:=aB k7;have u:=aa (ab k7 (ab a9 (ab c4 d3)));clear b7 k7 d2 hG a9 c4 d3
  have c5:Hid (∀(S:World) (N id:Int) (col:ByteArray),Below wr.heap.size wr S->S.heap[G]?=some (.cells #[.int .i64 N,.int .i64 0,.string e0,.int .i64 id,.string col] 173)->N≠0->cq ts As j=(N,id,col)->res=(N,nm,id,col)/\(S.setCell ⟨G,2,none⟩ (.string nm)).heap[G]?=some (.cells #[.int .i64 N,.int .i64 0,.string nm,.int .i64 id,.string col] 173)/\Below X.heap.size X (S.setCell ⟨G,2,none⟩ (.string nm))/\S.heap[R]?=some (.cells zF 173)/\(S.setCell ⟨G,2,none⟩ (.string nm)).heap[R]?=some (.cells zF 173)):=aa (fun S N id col hb hk f9 o=>by
   have a:=HX.2.2.2.1;have hz:=a.size;have d3:=u.2.2.2;have e9:S.heap[R]?=some (.cells zF 173):=aE (aC a hb) P.1;have g1:R≠G:=(fun e=>by have:=P.2.2.2.2;omega);refine⟨?_,?_,(aC a hb).setCell (p:=⟨G,2,none⟩) (by show X.heap.size<=G;omega) _,e9,(y9 S ⟨G,2,none⟩ R _ g1).trans e9⟩
   ·refine(z.1.symm.trans (kJ HX.2.2.2.2 (by rw[o];exact f9) HI.1)).trans ?_;have a8:ts[j].nm=nm:=(congrArg T.nm HX.2.1).trans HX.2.2.1;exact Prod.ext (congrArg (fun x=>x.1) o) (Prod.ext a8 (congrArg (fun x=>x.2) o))
   rw[y7 S G 2 #[.int .i64 N,.int .i64 0,.string e0,.int .i64 id,.string col] 173 (.string nm) hk];rfl)
  by_cases U:e1=0
  ·subst U;have o:cq ts As j=(e2,a7,B):=HX.1.trans (zw rfl);have f4:=aa o;have M:=(e6.out w7 (aC H5.2 u.2.1 |> fun h=>h) _ _ (f8.out.later u.2.1)).2;have V:=aE u.2.1 H5.1;have f0:=aA V 0;have f1:=aA V 1;have f2:=aA V 2;have f3:=aA V 3;have fl:=aB V;clear o V;go_upto_region 8 with (go_at_call 163;(with_reducible refine M.mono ?_);rintro e S⟨rfl,q⟩;have q0:=aA (aE q u.1) 0;have q1:=aA (aE q u.1) 1;have q2:=aA (aE q u.1) 2;have q3:=aA (aE q u.1) 3;have q4:=aA (aE q u.1) 4;have qf:=fun i=>zq S G i _ _ (aE q u.1);have ql:=aB (aE q u.1);have H8:=aa q;clear M q f0 f1 f2 f3 fl g0 gl);have h5:=nX (aE H8.out u.1) (.int .i64 e2) (.int .i64 0) (.string e0) (.int .i64 a7) (.string B);have d4:=bG S G (.int .i64 e2) (.int .i64 0) (.string e0) (.int .i64 a7) (.string B);generalize E:((((World.setCell _ _ _).setCell _ _).setCell _ _).setCell _ _).setCell _ _=J;rw[E]at h5 d4;have b4:Below wr.heap.size wr J:=bR (aC u.2.2.1 H8.out) (zo _) d4 u.2.2.2;have HZ:=aa (ab h5 b4);have r0:=aA h5 0;have rl:=aB h5;clear h5 d4 E b4 q0 q1 q2 q3 q4 qf ql;by_cases b6:e2=0
   ·subst b6;go_wp2_with fail;go_roundg (nt-j)
    case measure=>omega
    refine⟨j+1,by go_num,by omega,by omega,fun i hi=>?_,aC HI.2 HZ.2⟩;by_cases e:i=j
    ·subst e;rw[f4.out]
    exact HI.1 i (by omega)
   have g2:(e2 != 0)=true:=(by simp[b6]);obtain⟨a1,a2,a3,a4,a5⟩:=c5.out J e2 a7 B HZ.2 HZ.1 b6 f4.out;subst a1;have q2:=aA HZ.1 2;have qf:=(fun i=>zq J G i _ _ HZ.1);obtain⟨wy,H⟩:=ae (J.setCell ⟨G,2,none⟩ (.string nm));rw[H]at a2 a3 a5;have b:=aa (ab H (ab a2 (ab a3 a5)));clear a2 a3 a4 a5 H b6;go_upto_region 10 with fail;rw[b.1];clear q2 qf r0 rl;have s0:=aA b.2.1 0;have s1:=aA b.2.1 1;have s2:=aA b.2.1 2;have s3:=aA b.2.1 3;have s4:=aA b.2.1 4;have sl:=aB b.2.1;have t0:=aA b.2.2.2 0;have t1:=aA b.2.2.2 1;have t2:=aA b.2.2.2 2;have t3:=aA b.2.2.2 3;have t4:=aA b.2.2.2 4;have tf:=(fun i=>zq wy R i _ _ b.2.2.2);have tl:=aB b.2.2.2;go_wp2_with fail;generalize E:((((World.setCell _ _ _).setCell _ _).setCell _ _).setCell _ _).setCell _ _=wx;obtain⟨⟨y0,y1,y2,y3,y4⟩,d5⟩:=c8.out _ _ _ _ _ _ b.2.2.1 E;refine y8 (v:=dr e2 0 nm a7 B) (by simp[results,results130,go_sem,y0,y1,y2,y3,y4]) rfl ?_;exact⟨rfl,d5⟩
  have o:cq ts As j=(e1,Q,k):=HX.1.trans (zu U);have g7:(e1==0)=false:=beq_eq_false_iff_ne.2 U;have g2:(e1 != 0)=true:=(by simp[U]);obtain⟨a1,a2,a3,a4,a5⟩:=c5.out w7 e1 Q k u.2.2.1 u.1 U o;subst a1;have q2:=aA u.1 2;have qf:=(fun i=>zq w7 G i _ _ u.1);obtain⟨wy,H⟩:=ae (w7.setCell ⟨G,2,none⟩ (.string nm));rw[H]at a2 a3 a5;have b:=aa (ab H (ab a2 (ab a3 a5)));clear a2 a3 a4 a5 H U o;go_upto_region 10 with fail;rw[b.1];clear q2 qf g0 gl;have s0:=aA b.2.1 0;have s1:=aA b.2.1 1;have s2:=aA b.2.1 2;have s3:=aA b.2.1 3;have s4:=aA b.2.1 4;have sl:=aB b.2.1;have t0:=aA b.2.2.2 0;have t1:=aA b.2.2.2 1;have t2:=aA b.2.2.2 2;have t3:=aA b.2.2.2 3;have t4:=aA b.2.2.2 4;have tf:=(fun i=>zq wy R i _ _ b.2.2.2);have tl:=aB b.2.2.2;go_wp2_with fail;generalize E:((((World.setCell _ _ _).setCell _ _).setCell _ _).setCell _ _).setCell _ _=wx;obtain⟨⟨y0,y1,y2,y3,y4⟩,d5⟩:=c8.out _ _ _ _ _ _ b.2.2.1 E;refine y8 (v:=dr e1 0 nm Q k) (by simp[results,results130,go_sem,y0,y1,y2,y3,y4]) rfl ?_;exact⟨rfl,d5⟩
 obtain rfl:j=nt:=(by omega);obtain rfl:res=(0,e0,0,e0):=z.1.symm.trans (kK (fun i hi=>HI.1 i (by rw[<-z.2.1];exact hi)));have a:=aC H3.2 hB;have r0:=aA (aE a P.1) 0;have r1:=aA (aE a P.1) 1;have r2:=aA (aE a P.1) 2;have r3:=aA (aE a P.1) 3;have r4:=aA (aE a P.1) 4;have rf:=(fun i=>zq wr R i _ _ (aE a P.1));have rl:=aB (aE a P.1);have g3:=aa a;clear d0 hB a;go_wp2_with fail;generalize E:((((World.setCell _ _ _).setCell _ _).setCell _ _).setCell _ _).setCell _ _=J;obtain⟨⟨y0,y1,y2,y3,y4⟩,b4⟩:=c8.out _ _ _ _ _ _ g3.out E;refine y8 (v:=dr 0 0 e0 0 e0) (by simp[results,results130,go_sem,y0,y1,y2,y3,y4]) rfl ?_;exact⟨rfl,b4⟩
section
variable{ts:List T}{As:List (List R1)}{j:Nat}{t:T}{A:List R1}
theorem Ee(h:cq ts As j=oz ts As t A)(hb:64<A.length):cq ts As j=(5,0,e0):=by
 rw[h];unfold oz;rw[tZ hb,zu (show ¬ ((5:Int)=0)by decide)]
theorem wX{c:Nat}(h:cq ts As j=oz ts As t A)(hb:¬ 64<A.length)(hc:c<t.cols.length)(h1:40<gx A c)(h0:∀m,m<c->¬ 40<gx A m):cq ts As j=(5,0,(mq t c).nm):=by
 rw[h];unfold oz;rw[pF hb hc h1 h0,zu (show ¬ ((5:Int)=0)by decide)]
theorem Da{k:Nat}(h:cq ts As j=oz ts As t A)(hb:¬ 64<A.length)(h0:∀m,m<t.cols.length->¬ 40<gx A m)(hk:k<A.length)(h1:(ge ts As t A[k].2 (dj A k)).1≠0)(h2:∀m,m<k->kt ts As t A m=false):cq ts As j=((ge ts As t A[k].2 (dj A k)).1,A[k].1,(ge ts As t A[k].2 (dj A k)).2):=by
 rw[h];unfold oz;rw[jU hb h0,zw rfl,kH hk h1 h2]
theorem Fl(h:cq ts As j=oz ts As t A)(hb:¬ 64<A.length)(h0:∀m,m<t.cols.length->¬ 40<gx A m)(h2:∀m,m<A.length->kt ts As t A m=false):(cq ts As j).1=0:=by
 rw[h];unfold oz;rw[jU hb h0,zw rfl,kI h2]
end
theorem wY{W:World}{b:Nat}{ts:List T}{tt:List RT}{ni:NI}{O:Nat->Nat}(h:im W b ts tt ni O)(g:sa ts)(hneg:∀t∈ts,fx t.cols e0<0)(h0t:0<ts.length)(hA:∀y∈tt,y.A.length<=1000):Calls prog 170 #[.pointer (some ⟨b,0,none⟩)] W fun e w'=>e=.returned (dr (bk ts (ly tt)).1 0 (bk ts (ly tt)).2.1 (bk ts (ly tt)).2.2.1 (bk ts (ly tt)).2.2.2)/\Below W.heap.size W w':=by
 have b1:=aD W (.cells zF 173);have k1:=z7 W (.cells zF 173);obtain⟨L,M⟩:=ae (W.alloc (.cells zF 173));obtain⟨R,hR⟩:=ae W.heap.size;rw[M]at b1 k1;rw[hR]at k1;have o:tt.length=ts.length:=h.n;obtain⟨As,b0⟩:=ae (ly tt);have b8:As.length=ts.length:=(by rw[<-b0,yd];exact o);have G:=aa (ab h (ab g (ab hneg (ab h0t (ab hA (ab o (ab b0 b8)))))));rw[b0];obtain⟨nt,c2⟩:=ae ts.length;have g5:(nt:Int)<=1000:=(by have:=g.n;omega);have d5:0<tt.length:=(by omega);obtain⟨⟨d6,e9,d7,f0,g6,g7,g8,g9,h0,h1⟩,b2,f1⟩:=h.nreads h0t (z6 d5) (g.pos _ (z8 h0t));dsimp only at b2;rw[c2]at b2
 have f2:Hid (∀w,Below W.heap.size W w->w.cell? ⟨b,0,none⟩=some (.slice (some ⟨d6,0,none⟩) nt e9)/\w.cell? ⟨b,1,none⟩=some (.slice (some ⟨d7,0,none⟩) nt f0)/\b<w.heap.size/\d6<w.heap.size/\d7<w.heap.size):=aa (fun w r=>by
  obtain⟨x1,x2,x3,x4,x5,x6,_⟩:=b2 w r;exact⟨x5,x1,x3,x6,x4⟩)
 obtain⟨res,N⟩:=ae (bk ts As);rw[N];have p:=aa (ab N c2)
 have b3:Hid (∀(w2 wz:World) (s id:Int) (nm col:ByteArray),Below L.heap.size L w2->((((w2.setCell ⟨R,0,none⟩ (.int .i64 s)).setCell ⟨R,1,none⟩ (.int .i64 0)).setCell ⟨R,2,none⟩ (.string nm)).setCell ⟨R,3,none⟩ (.int .i64 id)).setCell ⟨R,4,none⟩ (.string col)=wz ->
   (wz.cell? ⟨R,0,none⟩=some (.int .i64 s)/\wz.cell? ⟨R,1,none⟩=some (.int .i64 0)/\wz.cell? ⟨R,2,none⟩=some (.string nm)/\wz.cell? ⟨R,3,none⟩=some (.int .i64 id)/\wz.cell? ⟨R,4,none⟩=some (.string col))/\Below W.heap.size W wz):=aa (by
  rintro w2 wz s id nm col hb rfl;have h5:=nX (aE hb k1) (.int .i64 s) (.int .i64 0) (.string nm) (.int .i64 id) (.string col);have hg:=bG w2 R (.int .i64 s) (.int .i64 0) (.string nm) (.int .i64 id) (.string col);exact⟨⟨aA h5 0,aA h5 1,aA h5 2,aA h5 3,aA h5 4⟩,bR (aC b1 hb) (zo _) hg (by omega)⟩)
 have HK:=aa (ab k1 (ab b1 (ab M hR)))
 have HR:Hid (∀w,Below L.heap.size L w->(R<w.heap.size/\(∀i,w.frozen? ⟨R,i,none⟩=false))/\w.cell? ⟨R,0,none⟩=some (.int .i64 0)/\w.cell? ⟨R,1,none⟩=some (.int .i64 0)/\w.cell? ⟨R,2,none⟩=some (.string e0)/\w.cell? ⟨R,3,none⟩=some (.int .i64 0)/\w.cell? ⟨R,4,none⟩=some (.string e0)):=aa (fun w r=>by
  have:=aE r k1
  exact⟨⟨aB this,fun i=>zq w R i _ _ this⟩,aA this 0,aA this 1,aA this 2,aA this 3,aA this 4⟩)
 clear h g hneg h0t hA b1 k1 M hR o b0 b8 c2 N b2 f1 d5;go_enter func170,ntmps170;go_upto_region 1 with fail;rw[HK.2.2.1,HK.2.2.2];go_wp2_with fail;go_loopg [3] (nt+1) (fun gh jv y=>∃(j:Nat),jv=.int .i64 (j:Int)/\j<=nt/\nt+1<=j+gh/\(∀i,i<j->(cq ts As i).1=0)/\Below L.heap.size L y)
 case atStart=>exact⟨0,rfl,zj _,by omega,fun i P=>by omega,zg _ _⟩
 obtain⟨j,rfl,hj,hg,c3,z⟩:=hrel;have HI:=aa (ab c3 z);have d:=aC HK.2.1 z;by_cases d8:j<nt
 ·have h2:(j:Int)<(nt:Int):=(by omega);have m:j<ts.length:=(by rw[p.2];exact d8);have c4:j<tt.length:=(by rw[G.2.2.2.2.2.1];exact m);have hm:=z8 m;have g:=G.2.1;have Q:=g.pos _ hm;have S:=g.form _ hm;have c5:=G.2.2.2.2.1 _ (z8 c4);have U:=z6 c4
  have V:cq ts As j=oz ts As ts[j] tt[j].A:=by
   have e:j<As.length:=(by rw[G.2.2.2.2.2.2.2];exact m);rw[E4 m e]
   have:As[j]=tt[j].A:=by
    simp only[<-G.2.2.2.2.2.2.1];simp[ly]
   rw[this]
  have o:∀a∈tt[j].A,a.2.length=ts[j].cols.length:=(fun a ha=>(G.1.ok m U).len a ha);obtain⟨⟨gs,cs,go,co,pr,cr,pc,kc,pd,kd⟩,hZ,hY⟩:=G.1.nreads m U Q;dsimp only at hZ hY;have hT:=(hZ W (zg _ _)).2.2.2.2.2.2.2.2.2.2;obtain⟨bc,oc,rfl,hC⟩:=pD hT Q;obtain⟨A,b4⟩:=ae (tt[j].A)
  have d9:Hid (∀w,Below W.heap.size W w->∀c,c<ts[j].cols.length->Calls prog 196 #[.pointer (some ⟨b,0,none⟩),.int .i64 (j:Int),.int .i64 (c:Int)] w fun e w'=>e=.returned (.int .i64 ((gx tt[j].A c:Nat):Int))/\Below w.heap.size w w'):=aa (fun w r c hc=>by
   rw[<-E7];exact wU (G.1.later r) m U (by omega) g.n S.nc Q hc)
  have e1:Hid (∀w,Below W.heap.size W w->∀k (hk:k<A.length),Calls prog 197 #[.pointer (some ⟨b,0,none⟩),.int .i64 (j:Int),.int .i64 (k:Int)] w fun e w'=>e=.returned (.tuple #[.int .i64 (ge ts As ts[j] A[k].2 (dj A k)).1,.string (ge ts As ts[j] A[k].2 (dj A k)).2])/\Below w.heap.size w w'):=aa (fun w r k hk=>by
   subst b4;refine Gt (G.1.later r) m U hk S (G.2.2.1 _ hm) Q g.n c5 o (fun L M x u=>?_);rw[<-G.2.2.2.2.2.2.1];exact wI (G.1.later (aC r M)) g.inv (fun t ht=>(g.form t ht).nc) (fun y hy=>by have:=G.2.2.2.2.1 y hy;omega) x u)
  have e2:Hid (∀k (hk:k<A.length),∃gr,pr=some ⟨gr,0,none⟩/\∀w,Below W.heap.size W w->gr<w.heap.size/\w.cell? ⟨gr,k*2,none⟩=some (.int .i64 A[k].1)):=aa (fun k hk=>by
   subst b4;obtain⟨gr,_,_,e,hq⟩:=hY k hk;exact⟨gr,e,fun w r=>⟨(hq w r).1,(hq w r).2.1⟩⟩)
  obtain⟨t,c6⟩:=ae (ts[j]);simp only[c6,b4,p.2]at hZ hC d9 e1 e2 V S c5;obtain⟨na,c7⟩:=ae A.length;obtain⟨nc,c8⟩:=ae t.cols.length;have g3:(na:Int)<=1000:=(by omega);have g4:(nc:Int)<=1000:=(by have:=S.nc;omega);obtain⟨nm,c9⟩:=ae t.nm
  have HZ:Hid (∀w,Below W.heap.size W w->(b<w.heap.size/\go<w.heap.size/\gs<w.heap.size/\bc<w.heap.size)/\w.cell? ⟨b,0,none⟩=some (.slice (some ⟨gs,0,none⟩) nt cs)/\w.cell? ⟨b,1,none⟩=some (.slice (some ⟨go,0,none⟩) nt co)/\w.cell? ⟨go,j,none⟩=some (.slice pr na cr)/\w.cell? ⟨gs,j*4,none⟩=some (.string nm)/\w.cell? ⟨gs,j*4+1,none⟩=some (.slice (some ⟨bc,oc,none⟩) nc kc)):=aa (fun w r=>by
   obtain⟨x1,x2,x3,x4,x5,x6,x7,x8,_⟩:=hZ w r;rw[<-c7,<-c8,<-c9];exact⟨⟨x3,x4,x6,(hC w r).1⟩,x5,x1,x2,x7,x8⟩)
  have f3:Hid (∀w,Below W.heap.size W w->∀c,c<nc->w.cell? ⟨bc,oc+c*4,none⟩=some (.string (mq t c).nm)):=aa (fun w r c hc=>((hC w r).2 c (by omega)).1);have b9:ts[j].nm=nm:=(by rw[c6];exact c9);have J:=aa (ab V (ab c7 (ab c8 m)))
  have X:Hid (∀(s id:Int) (col:ByteArray),cq ts As j=(s,id,col)->s≠0->res=(s,nm,id,col)):=aa (fun s id col e3 f4=>by
   refine(p.1.symm.trans (kJ m (by rw[e3];exact f4) HI.1)).trans ?_;rw[e3,b9])
  obtain⟨⟨l0,l1,l2,l3⟩,a0,a1,a2,Y,a4⟩:=HZ.out wr d;clear c3 z d hm g Q S c5 U V o hZ hY hT hC c9 c7 c8 b9 c6 b4 c4;clear a4 l3;by_cases F:64<na
  ·have f5:(64:Int)<(na:Int):=(by omega);have hr:=X.out 5 0 e0 (Ee J.1 (by rw[J.2.1];exact F)) (by decide);subst hr;have f:=aa HI.2;obtain⟨⟨ql,qf⟩,q0,q1,q2,q3,q4⟩:=HR.out wr HI.2;clear F;go_wp2_with fail;generalize B:((((World.setCell _ _ _).setCell _ _).setCell _ _).setCell _ _).setCell _ _=wx;obtain⟨⟨y0,y1,y2,y3,y4⟩,E⟩:=b3.out _ _ _ _ _ _ f.out B;refine y8 (v:=dr 5 0 nm 0 e0) (by simp[results,results170,go_sem,y0,y1,y2,y3,y4]) rfl ?_;exact⟨rfl,E⟩
  have f5:¬ (64:Int)<(na:Int):=(by omega);have Z:Hid (¬ 64<A.length):=aa (by rw[J.2.1];exact F);clear F;go_wp2_with fail;clear a0 a1 a2 Y l0 l1 l2;go_loopg [5] (nc+1) (fun gh cv y=>∃(c:Nat),cv=.int .i64 (c:Int)/\c<=nc/\nc+1<=c+gh/\(∀i,i<c->¬ 40<gx A i)/\Below L.heap.size L y)
  case atStart=>exact⟨0,rfl,zj _,by omega,fun i P=>by omega,HI.2⟩
  obtain⟨c,rfl,hc,f6,a5,z⟩:=hrel;have H:=aa (ab a5 z);have d:=aC HK.2.1 z;obtain⟨⟨l0,l1,l2,l3⟩,a0,a1,a2,Y,a4⟩:=HZ.out wr d;by_cases b5:c<nc
  ·have h3:(c:Int)<(nc:Int):=(by omega);have a6:=d9.out wr d c (by rw[J.2.2.1];exact b5);obtain⟨wn,b6⟩:=ae (gx A c);have h4:wn<=na:=(by rw[<-b6,<-J.2.1];exact uA);rw[b6]at a6;have d0:=aa (ab b6 b5);clear a5 z d b6 a1 a2 Y l1 l3;by_cases b7:40<wn
   ·have e4:(40:Int)<(wn:Int):=(by omega);obtain⟨cn,d1⟩:=ae ((mq t c).nm);have hr:=X.out 5 0 cn (by rw[<-d1];exact wX J.1 Z.out (by rw[J.2.2.1];exact b5) (by rw[d0.1];exact b7) H.1) (by decide);subst hr;have e5:=aa d1;clear d1 b7;go_upto_region 11 with (go_at_call 196;(with_reducible refine a6.mono ?_);rintro e w4⟨rfl,l⟩;have f:=aa (aC H.2 l);clear a6 l);clear a0 a4 l0 l2;obtain⟨⟨l0,l1,l2,l3⟩,a0,a1,a2,Y,a4⟩:=HZ.out w4 (aC HK.2.1 f.out);have c0:=f3.out w4 (aC HK.2.1 f.out) c d0.2;rw[e5.out]at c0;obtain⟨⟨ql,qf⟩,q0,q1,q2,q3,q4⟩:=HR.out w4 f.out;clear a1 a2 Y l1;go_wp2_with fail;generalize B:((((World.setCell _ _ _).setCell _ _).setCell _ _).setCell _ _).setCell _ _=wx;obtain⟨⟨y0,y1,y2,y3,y4⟩,E⟩:=b3.out _ _ _ _ _ _ f.out B;refine y8 (v:=dr 5 0 nm 0 cn) (by simp[results,results170,go_sem,y0,y1,y2,y3,y4]) rfl ?_;exact⟨rfl,E⟩
   have e4:¬ (40:Int)<(wn:Int):=(by omega);have f7:=aa b7;clear b7;go_wp2_with (go_at_call 196;refine a6.mono ?_;rintro e w4⟨rfl,l⟩;have H4:=aa (aC H.2 l);clear a6 l);go_roundg (nc-c)
   case measure=>omega
   refine⟨c+1,by go_num,by omega,by omega,fun i P=>?_,H4.out⟩;by_cases e:i=c
   ·subst e;rw[d0.1];exact f7.out
   exact H.1 i (by omega)
  obtain rfl:c=nc:=(by omega);have a7:∀i,i<t.cols.length->¬ 40<gx A i:=(fun i P=>H.1 i (by rw[<-J.2.2.1];exact P));have c1:=aa a7;clear a5 z d a7 a1 a2 Y l1 l3 b5 hc f6;go_wp2_with fail;clear a0 a4 l0 l2;go_loopg [6] (na+1) (fun gh cv y=>∃(k:Nat),cv=.int .i64 (k:Int)/\k<=na/\na+1<=k+gh/\(∀i,i<k->kt ts As t A i=false)/\Below L.heap.size L y)
  case atStart=>exact⟨0,rfl,zj _,by omega,fun i P=>by omega,H.2⟩
  obtain⟨k,rfl,hk,h6,a8,z⟩:=hrel;have I:=aa (ab a8 z);have d:=aC HK.2.1 z;obtain⟨⟨l0,l1,l2,l3⟩,a0,a1,a2,Y,a4⟩:=HZ.out wr d;by_cases f8:k<na
  ·have h7:(k:Int)<(na:Int):=(by omega);have d2:k<A.length:=(by rw[J.2.1];exact f8);have q:=e1.out wr d k d2;obtain⟨gr,rfl,d3⟩:=e2.out k d2;obtain⟨e6,a9⟩:=ae (A[k].1);rw[a9]at d3;obtain⟨⟨s,cl⟩,d4⟩:∃x,ge ts As t A[k].2 (dj A k)=x:=⟨_,rfl⟩;rw[d4]at q;have f9:=aa d3;have HX:=aa (ab d4 a9);have e7:=aa d2;clear a8 z d d3 d4 a9 a0 Y a4 l2 l3;by_cases he:s=0
   ·subst he;go_wp2_with (go_at_call 197;refine q.mono ?_;rintro e w4⟨rfl,l⟩;have H4:=aa (aC I.2 l);clear q l);go_roundg (na-k)
    case measure=>omega
    refine⟨k+1,by go_num,by omega,by omega,fun i P=>?_,H4.out⟩;by_cases e:i=k
    ·subst e;exact pE e7.out (by rw[HX.1])
    exact I.1 i (by omega)
   have h8:(s != 0)=true:=by simp[he]
   have hr:=X.out s e6 cl (by
    have:=Da J.1 Z.out c1.out e7.out (by rw[HX.1];exact he) I.1
    rw[HX.1,HX.2]at this;exact this) he
   subst hr;clear he;go_upto_region 17 with (go_at_call 197;(with_reducible refine q.mono ?_);rintro e w4⟨rfl,l⟩;have f:=aa (aC I.2 l);clear q l);clear a1 a2 l0 l1;obtain⟨⟨l0,l1,l2,l3⟩,a0,a1,a2,Y,a4⟩:=HZ.out w4 (aC HK.2.1 f.out);obtain⟨gl,g0⟩:=f9.out w4 (aC HK.2.1 f.out);obtain⟨⟨ql,qf⟩,q0,q1,q2,q3,q4⟩:=HR.out w4 f.out;clear a0 Y a4 l2 l3;go_wp2_with fail;generalize B:((((World.setCell _ _ _).setCell _ _).setCell _ _).setCell _ _).setCell _ _=wx;obtain⟨⟨y0,y1,y2,y3,y4⟩,E⟩:=b3.out _ _ _ _ _ _ f.out B;refine y8 (v:=dr s 0 nm e6 cl) (by simp[results,results170,go_sem,y0,y1,y2,y3,y4]) rfl ?_;exact⟨rfl,E⟩
  obtain rfl:k=na:=(by omega);have e8:=Fl J.1 Z.out c1.out (fun i P=>I.1 i (by rw[<-J.2.1];exact P));have g1:=aa e8;clear a8 z d e8 a0 Y a4 l2 l3;go_wp2_with fail;go_roundg (nt-j)
  case measure=>omega
  refine⟨j+1,by go_num,by omega,by omega,fun i P=>?_,I.2⟩;by_cases e:i=j
  ·subst e;exact g1.out
  exact HI.1 i (by omega)
 obtain rfl:j=nt:=(by omega);obtain⟨z0,z1,z2,z3,z4⟩:=f2.out wr d;obtain⟨⟨ql,qf⟩,q0,q1,q2,q3,q4⟩:=HR.out wr z;have g2:res=(0,e0,0,e0):=p.1.symm.trans (kK (fun i P=>HI.1 i (by rw[<-p.2];exact P)));subst g2;clear c3 z d z1 z3 z4 d8 hj hg;have f:=aa HI.2;go_wp2_with fail;generalize B:((((World.setCell _ _ _).setCell _ _).setCell _ _).setCell _ _).setCell _ _=wx;obtain⟨⟨y0,y1,y2,y3,y4⟩,E⟩:=b3.out _ _ _ _ _ _ f.out B;refine y8 (v:=dr 0 0 e0 0 e0) (by simp[results,results170,go_sem,y0,y1,y2,y3,y4]) rfl ?_;exact⟨rfl,E⟩
