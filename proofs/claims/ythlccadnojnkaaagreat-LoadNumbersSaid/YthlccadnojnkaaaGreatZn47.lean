import Derived.Test.YthlccadnojnkaaaGreatZn46
import Derived.Test.YthlccadnojnkaaaGreatZn45
set_option maxHeartbeats 8000000
set_option maxRecDepth 100000
namespace Go.Proofs.YthlccadnojnkaaaGreat
open Go.Proofs.Tryz
open Go Go.RowKit Go.Proofs Co Co.S
section
variable {t:T}{A:List R1}{c:Nat}
theorem uS(h:64<A.length):jp t A=(5,0,e0):=by unfold jp;rw[zv h]
theorem pZ(h:¬ 64<A.length)(hc:c<t.cols.length)(h1:40<fy A c)(h0:∀m,m<c->¬ 40<fy A m):jp t A=(5,0,(mx t c).nm):=by
 unfold jp;rw[zq h,aZ (p:=fun c=>decide (40<fy A c)) hc (xd h1) (fun j a=>yw (h0 j a))]
theorem eU(h:¬ 64<A.length)(h0:∀m,m<t.cols.length->¬ 40<fy A m):jp t A=(0,0,e0):=by
 unfold jp;rw[zq h,aV (p:=fun c=>decide (40<fy A c)) (fun j a=>yw (h0 j a))]
theorem jM:fy A c<=A.length:=by
 unfold fy
 have:=List.length_filter_le (firstT (A.map fun a=>a.2.getD c z3)) (List.range A.length)
 rw[List.length_range]at this;exact this
end
theorem uT{W:World}{d:Nat}{ts:List T}{st:List DT}{O:Nat->Nat}(h:Dd W d ts st O)(hsz:Short ts){j:Nat}(hj:j<ts.length)(hj':j<st.length){cv dv:Value}(hT:ey W cv dv ts[j])(hnc:ts[j].cols.length<=1000)(hcx:∀c (hc:c<ts[j].cols.length),gx ts[j].cols ts[j].cols[c].nm=(c:Int))(hAl:st[j].2.2.length<=1000):Calls prog 46 #[.pointer (some ⟨d,0,none⟩),.agg #[.string ts[j].nm,cv,.string ts[j].key,dv]] W fun e w'=>e=.returned (bj (jp ts[j] st[j].2.2).1 0 e0 (jp ts[j] st[j].2.2).2.1 (jp ts[j] st[j].2.2).2.2)/\Below W.heap.size W w':=by
 obtain⟨pc,cc,rfl,_,_⟩:=hT.c.slice;obtain⟨pd,cd,rfl,_,_⟩:=hT.d.slice;have b2:=aD W (.cells #[.string ts[j].nm,.slice pc ts[j].cols.length cc,.string ts[j].key,.slice pd ts[j].deps.length cd] 77);have X:=z7 W (.cells #[.string ts[j].nm,.slice pc ts[j].cols.length cc,.string ts[j].key,.slice pd ts[j].deps.length cd] 77);have z2:=zj W (.cells #[.string ts[j].nm,.slice pc ts[j].cols.length cc,.string ts[j].key,.slice pd ts[j].deps.length cd] 77);obtain⟨wb,a8⟩:=ag (W.alloc (.cells #[.string ts[j].nm,.slice pc ts[j].cols.length cc,.string ts[j].key,.slice pd ts[j].deps.length cd] 77));rw[a8]at b2 X z2;have Y:=aD wb (.cells zF 39);have H:=z7 wb (.cells zF 39);obtain⟨w1,a9⟩:=ag (wb.alloc (.cells zF 39));rw[a9]at Y H;have u:(W.alloc (.cells #[.string ts[j].nm,.slice pc ts[j].cols.length cc,.string ts[j].key,.slice pd ts[j].deps.length cd] 77)).alloc (.cells zF 39)=w1:=(by rw[a8,a9]);obtain⟨F,hF⟩:=ag W.heap.size;rw[hF]at X;rw[z2,hF]at H;have X:=aE Y X;have Z:=aB b2 Y;have E:Calls prog 29 #[.pointer (some ⟨d,0,none⟩),.string ts[j].nm] w1 fun e w'=>e=.returned (.pointer (some ⟨st[j].1,0,none⟩))/\w'=w1:=(h.later Z).table hj (hsz _ (z8 hj)) hj'
 obtain⟨d5,a0,_⟩:=h.tab j hj hj';obtain⟨A,J⟩:=ag (st[j].2.2);have b9:Hid (∀w,Below W.heap.size W w->Calls prog 52 #[.pointer (some ⟨st[j].1,0,none⟩)] w (ta (ou A) w)):=aa (fun w hw=>by subst J;exact fD (a0.later hw));have a5:A.Pairwise (fun a b=>a.1<b.1):=(by subst J;obtain⟨i0,_,hi⟩:=a0;exact hi.srt);have b0:Hid (∀w (p:Option Addr) (n c:Nat),Vm w (.slice p n c) (ou A)->Calls prog 53 #[.agg #[.slice p n c]] w fun e w2=>e=.returned (.int .i64 (A.length:Int))/\Below w.heap.size w w2):=aa (fun w p n c hv=>kL hv a5)
 have b1:Hid (∀w,Below W.heap.size W w->∀c,c<ts[j].cols.length->Calls prog 82 #[.pointer (some ⟨st[j].1,0,none⟩),.string (mx ts[j] c).nm] w fun e w'=>e=.returned (.int .i64 (fy A c:Int))/\Below w.heap.size w w'):=aa (fun w hw c hc=>by
  subst J;rw[oA hc];exact rO (a0.later hw) hc (hcx c hc))
 have L:Hid (∀y,Below W.heap.size W y->∀k,k<ts[j].cols.length->∃b x,pc=some ⟨b,x,none⟩/\b<y.heap.size/\y.cell? ⟨b,x+k*4,none⟩=some (.string (mx ts[j] k).nm)/\y.cell? ⟨b,x+k*4+1,none⟩=some (.int .i64 (mx ts[j] k).kd)/\y.cell? ⟨b,x+k*4+2,none⟩=some (.bool (mx ts[j] k).mu)/\y.cell? ⟨b,x+k*4+3,none⟩=some (.string (mx ts[j] k).tgt)):=aa (fun y hy k hk=>by
  rw[oA hk];obtain⟨b,x,e,h1,h2,h3,h4,h5⟩:=fu.col (hT.c.later hy) hk;exact⟨b,x,e,h1,h2,h3,h4,h5⟩)
 rw[J]at hAl ⊢;obtain⟨t,ht⟩:=ag (ts[j]);obtain⟨tb,a6⟩:=ag (st[j].1);simp only[ht,a6]at E b9 b1 L u X hnc ⊢;obtain⟨nc,M⟩:=ag t.cols.length;obtain⟨nd,c4⟩:=ag t.deps.length;have B:=M;simp only[M,c4]at b1 L u X hnc ⊢;obtain⟨nm,c5⟩:=ag t.nm;obtain⟨key,a7⟩:=ag t.key;simp only[c5,a7]at E u X ⊢;obtain⟨na,b4⟩:=ag A.length;rw[b4]at b0 hAl;have d3:(na:Int)<=1000:=(by omega);have d4:(nc:Int)<=1000:=(by omega);obtain⟨res,s⟩:=ag (jp t A);rw[s];have r:=aa (ab s (ab B b4))
 have b5:Hid (∀(w2 N:World) (er id:Int) (col:ByteArray),Below w1.heap.size w1 w2->((((w2.setCell ⟨F+1,0,none⟩ (.int .i64 er)).setCell ⟨F+1,1,none⟩ (.int .i64 0)).setCell ⟨F+1,2,none⟩ (.string e0)).setCell ⟨F+1,3,none⟩ (.int .i64 id)).setCell ⟨F+1,4,none⟩ (.string col)=N ->
   (N.cell? ⟨F+1,0,none⟩=some (.int .i64 er)/\N.cell? ⟨F+1,1,none⟩=some (.int .i64 0)/\N.cell? ⟨F+1,2,none⟩=some (.string e0)/\N.cell? ⟨F+1,3,none⟩=some (.int .i64 id)/\N.cell? ⟨F+1,4,none⟩=some (.string col))/\Below W.heap.size W N):=aa (by
  rintro w2 N er id col hb rfl;have h5:=gS (aE hb H) (.int .i64 er) (.int .i64 0) (.string e0) (.int .i64 id) (.string col);have hg:=aW w2 (F+1) (.int .i64 er) (.int .i64 0) (.string e0) (.int .i64 id) (.string col);refine⟨⟨aA h5 0,aA h5 1,aA h5 2,aA h5 3,aA h5 4⟩,?_⟩;have G:=aB Z hb;exact G.trans ⟨hg.os,hg.tape,hg.output,hg.size,fun q hq=>hg.block q (z9 hq G.size) (fun e=>by cases e;omega)⟩)
 have g:=aa (ab X (ab H (ab Z (ab u hF))));clear h hsz hT hcx hAl a0 a5 b2 Y X H z2 a8 a9 u hF Z ht a6 J M c4 c5 a7 b4 s hnc B;go_enter func46,ntmps46;go_upto_region 1 with fail;rw[g.2.2.2.1,g.2.2.2.2];have x0:=aA g.1 0;have x1:=aA g.1 1;have xl:=aC g.1;go_upto_region 2 with (go_at_call 29;refine E.mono ?_;rintro e w2⟨rfl,hw⟩;subst w2;clear E);have a1:=b9.out w1 g.2.2.1;by_cases l:na>64
 ·have d0:(na:Int)>64:=(by omega);obtain rfl:res=(5,0,e0):=r.1.symm.trans (uS (by rw[r.2.2];exact l));clear l
  go_wp2_with (first|(go_at_call 52;refine a1.mono ?_;rintro e w3⟨p9,n9,c9,rfl,P,Q⟩;have R:=b0.out w3 p9 n9 c9 P;have H3:=aa Q;clear a1 P Q)|(go_at_call 53;refine R.mono ?_;rintro e w4⟨rfl,o⟩;have f:=aB H3.out o;have r0:=aA (aE f g.2.1) 0;have r1:=aA (aE f g.2.1) 1;have r2:=aA (aE f g.2.1) 2;have r3:=aA (aE f g.2.1) 3;have r4:=aA (aE f g.2.1) 4;have rf:=fun i=>zo w4 (F+1) i _ _ (aE f g.2.1);have rl:=aC (aE f g.2.1);have H4:=aa f;clear R o f x0 x1 xl))
  generalize S:((((World.setCell _ _ _).setCell _ _).setCell _ _).setCell _ _).setCell _ _=N;obtain⟨⟨y0,y1,y2,y3,y4⟩,U⟩:=b5.out _ _ _ _ _ H4.out S;refine ya (v:=bj 5 0 e0 0 e0) (by simp[results,results46,go_sem,y0,y1,y2,y3,y4]) rfl ?_;exact⟨rfl,U⟩
 have d0:¬ (na:Int)>64:=(by omega);have c6:=aa (show ¬ 64<A.length by rw[r.2.2];exact l);clear l
 go_upto_region 4 with (first|(go_at_call 52;refine a1.mono ?_;rintro e w3⟨p9,n9,c9,rfl,P,Q⟩;have R:=b0.out w3 p9 n9 c9 P;have H3:=aa Q;clear a1 P Q)|(go_at_call 53;refine R.mono ?_;rintro e w4⟨rfl,o⟩;have H4:=aa (aB H3.out o);clear R o))
 clear x0 x1 xl;have y1:=aA (aE H4.out g.1) 1;have yl:=aC (aE H4.out g.1);go_wp2_with fail;clear y1 yl;go_loopg [20] (nc+1) (fun gh jv y=>∃(m:Nat),jv=.int .i64 (m:Int)/\m<=nc/\nc+1<=m+gh/\(∀i,i<m->¬ 40<fy A i)/\Below w1.heap.size w1 y)
 case atStart=>exact⟨0,rfl,zh _,by omega,fun i hi=>by omega,H4.out⟩
 obtain⟨m,rfl,hm,hg,b6,I⟩:=hrel;have HI:=aa (ab b6 I);by_cases b7:m<nc
 ·have d6:(m:Int)<(nc:Int):=(by omega);have G:=aB g.2.2.1 I;obtain⟨b,x,rfl,bl,c0,c1,c2,c3⟩:=L.out wr G m b7;have z:=(fun y hy=>b1.out y (aB G hy) m b7);obtain⟨c,B⟩:=ag (mx t m);obtain⟨wn,a2⟩:=ag (fy A m);rw[B]at c0 c1 c2 c3;simp only[B,a2]at z;have Y:=aD wr (.cells #[.string c.nm,.int .i64 c.kd,.bool c.mu,.string c.tgt] 95);have H:=z7 wr (.cells #[.string c.nm,.int .i64 c.kd,.bool c.mu,.string c.tgt] 95);obtain⟨w3,a3⟩:=ag (wr.alloc (.cells #[.string c.nm,.int .i64 c.kd,.bool c.mu,.string c.tgt] 95));obtain⟨V,hV⟩:=ag wr.heap.size;have d1:wr.heap.size<=w3.heap.size:=(by rw[<-a3];exact(aD wr _).size);rw[a3]at Y H;have z:=z w3 Y;have c7:wn<=na:=(by rw[<-a2,<-r.2.2];exact jM);have d7:(wn:Int)<=1000:=(by omega);rw[hV]at H;have z0:=aA H 0;have zl:=aC H;have HX:=aa (ab a3 (ab hV (ab H (ab (aB I Y) (ab B a2)))));clear b6 I G Y H a3 hV B a2 c7 d1;go_upto_region 7 with fail;rw[HX.1,HX.2.1];clear c0 c1 c2 c3 bl;by_cases l:wn>40
  ·have c8:(wn:Int)>40:=by omega
   have s:res=(5,0,c.nm):=r.1.symm.trans (by
    rw[pZ c6.out (by rw[r.2.1];exact b7) (by rw[HX.2.2.2.2.2];exact l) HI.1,HX.2.2.2.2.1])
   obtain⟨cn,a4⟩:=ag c.nm;rw[a4]at s z0 z;have d8:=aa a4;have b8:=aa HX.2.2.1;rw[a4]at b8;subst s;clear l a4;go_wp2_with (go_at_call 82;refine z.mono ?_;rintro e w4⟨rfl,o⟩;have f:=aB HX.2.2.2.1 o;have r0:=aA (aE f g.2.1) 0;have r1:=aA (aE f g.2.1) 1;have r2:=aA (aE f g.2.1) 2;have r3:=aA (aE f g.2.1) 3;have r4:=aA (aE f g.2.1) 4;have rf:=fun i=>zo w4 (F+1) i _ _ (aE f g.2.1);have rl:=aC (aE f g.2.1);have q0:=aA (aE o b8.out) 0;have ql:=aC (aE o b8.out);have H5:=aa f;clear z o f z0 zl);generalize S:((((World.setCell _ _ _).setCell _ _).setCell _ _).setCell _ _).setCell _ _=N;obtain⟨⟨y0,y1,y2,y3,y4⟩,U⟩:=b5.out _ _ _ _ _ H5.out S;refine ya (v:=bj 5 0 e0 0 cn) (by simp[results,results46,go_sem,y0,y1,y2,y3,y4]) rfl ?_;exact⟨rfl,U⟩
  have c8:¬ (wn:Int)>40:=(by omega);have d2:=aa l;clear l;go_wp2_with (go_at_call 82;refine z.mono ?_;rintro e w4⟨rfl,o⟩;have H5:=aa (aB HX.2.2.2.1 o);clear z o);go_roundg (nc-m)
  case measure=>omega
  refine⟨m+1,by go_num,by omega,by omega,fun i hi=>?_,H5.out⟩;by_cases e:i=m
  ·subst e;rw[HX.2.2.2.2.2];exact d2.out
  exact HI.1 i (by omega)
 obtain rfl:m=nc:=(by omega);obtain rfl:res=(0,0,e0):=r.1.symm.trans (eU c6.out (fun i hi=>HI.1 i (by rw[<-r.2.1];exact hi)));have r0:=aA (aE I g.2.1) 0;have r1:=aA (aE I g.2.1) 1;have r2:=aA (aE I g.2.1) 2;have r3:=aA (aE I g.2.1) 3;have r4:=aA (aE I g.2.1) 4;have rf:=(fun i=>zo wr (F+1) i _ _ (aE I g.2.1));have rl:=aC (aE I g.2.1);clear b6 I;go_wp2_with fail;generalize S:((((World.setCell _ _ _).setCell _ _).setCell _ _).setCell _ _).setCell _ _=N;obtain⟨⟨y0,y1,y2,y3,y4⟩,U⟩:=b5.out _ _ _ _ _ HI.2 S;refine ya (v:=bj 0 0 e0 0 e0) (by simp[results,results46,go_sem,y0,y1,y2,y3,y4]) rfl ?_;exact⟨rfl,U⟩
theorem aT{n G:Nat}{A w w':World}(hb:Below n A w)(hn:n<=A.heap.size)(hg:w.grownBy w' (some G))(hG:n<=G):Below n A w':=
 hb.trans ⟨hg.os,hg.tape,hg.output,hg.size,fun q a=>hg.block q (by have:=hb.size;omega) (fun e=>by cases e;omega)⟩
section
variable {ts:List T}{As:List (List R1)}{j:Nat}
theorem Ks(hj:j<ts.length)(hA:j<As.length):bm ts As j=lj ts As ts[j] As[j]:=by
 unfold bm;rw[zu,z6 hj,zu,z6 hA];rfl
theorem cW(hj:j<ts.length)(h:(bm ts As j).1≠0)(h0:∀i,i<j->(bm ts As i).1=0):au ts As=((bm ts As j).1,ts[j].nm,(bm ts As j).2.1,(bm ts As j).2.2):=by
 unfold au;rw[aZ (p:=fun j=>decide ((bm ts As j).1≠0)) hj (xd h) (fun i a=>yw (fun b=>b (h0 i a)))];simp only[zu,z6 hj];rfl
theorem cX(h0:∀i,i<ts.length->(bm ts As i).1=0):au ts As=(0,e0,0,e0):=by
 unfold au;rw[aV (p:=fun j=>decide ((bm ts As j).1≠0)) (fun i a=>yw (fun b=>b (h0 i a)))]
end
structure sa (ts:List T):Prop where
 inv:mh ts
 few:di ts
 sh:Short ts
 n:ts.length<=1000
 form:∀t∈ts,qd t
 pos:∀t∈ts,0<t.cols.length
 ix:∀t∈ts,∀c (hc:c<t.cols.length),gx t.cols t.cols[c].nm=(c:Int)
 un:∀j (hj:j<ts.length),be ts ts[j].nm=some ts[j]
theorem qA{W:World}{d:Nat}{ts:List T}{st:List DT}{O:Nat->Nat}(h:Dd W d ts st O)(hok:sa ts)(hA:∀s∈st,s.2.2.length<=1000):Calls prog 18 #[.pointer (some ⟨d,0,none⟩)] W fun e w'=>e=.returned (bj (au ts (rowsOf st)).1 0 (au ts (rowsOf st)).2.1 (au ts (rowsOf st)).2.2.1 (au ts (rowsOf st)).2.2.2)/\Below W.heap.size W w':=by
 have b1:=aD W (.cells zF 39);have k1:=z7 W (.cells zF 39);obtain⟨X,b0⟩:=ag (W.alloc (.cells zF 39));obtain⟨R,hR⟩:=ag W.heap.size;have d8:X.heap.size=R+1:=(by rw[<-b0,<-hR,zj]);rw[b0]at b1 k1;rw[hR]at k1;have g6:Hid (∀w,Below W.heap.size W w->Dd w d ts st O):=aa (fun w I=>h.later I);have HS:Hid (∀w,Below W.heap.size W w->Calls prog 43 #[.pointer (some ⟨d,0,none⟩)] w fun e w'=>e=.returned (.pointer (some ⟨d,0,none⟩))/\w'=w):=aa (fun w I=>bF (h.later I).dlt)
 have m:Calls prog 44 #[.pointer (some ⟨d,0,none⟩)] X fun e w'=>∃v',e=.returned v'/\ac w' X.heap.size 9 1 v' ts.length (cellsS (ts.map T.nm))/\Below X.heap.size X w':=by
  obtain⟨mv,f,n0,q1,_⟩:=(h.later b1).own;exact xK q1.p hok.n
 have f7:Hid (∀w,Below W.heap.size W w->∀j (Y:j<ts.length),Calls prog 45 #[.pointer (some ⟨d,0,none⟩),.string ts[j].nm] w (ly ts[j] true w)):=aa (fun w I j Y=>by
  obtain⟨mv,f,n0,q1,_⟩:=(h.later I).own
  have:=eP (x:=ts[j].nm) q1.p hok.few
  rw[dK,hok.un j Y]at this;exact this)
 have b8:st.length=ts.length:=h.len
 have b9:Hid (∀w,Below W.heap.size W w->∀j (Y:j<ts.length) (cv dv:Value),ey w cv dv ts[j]->(Calls prog 46 #[.pointer (some ⟨d,0,none⟩),.agg #[.string ts[j].nm,cv,.string ts[j].key,dv]] w fun e w'=>e=.returned (bj (jp ts[j] ((rowsOf st).getD j [])).1 0 e0 (jp ts[j] ((rowsOf st).getD j [])).2.1 (jp ts[j] ((rowsOf st).getD j [])).2.2)/\Below w.heap.size w w')/\(Calls prog 47 #[.pointer (some ⟨d,0,none⟩),.agg #[.string ts[j].nm,cv,.string ts[j].key,dv]] w fun e w'=>e=.returned (bj (gk ts (rowsOf st) ts[j] ((rowsOf st).getD j [])).1 0 e0 (gk ts (rowsOf st) ts[j] ((rowsOf st).getD j [])).2.1 (gk ts (rowsOf st) ts[j] ((rowsOf st).getD j [])).2.2)/\Below w.heap.size w w')):=aa (fun w I j Y cv dv hT=>by
  have b2:j<st.length:=by omega
  have e:(rowsOf st).getD j []=st[j].2.2:=by
   rw[zu,xm,z6 b2];rfl
  have hm:=z8 Y;have d9:=hA _ (z8 b2);rw[e];exact⟨uT (h.later I) hok.sh Y b2 hT (hok.form _ hm).nc (hok.ix _ hm) d9,rS (h.later I) hok.inv hok.few hok.sh Y b2 hT (hok.form _ hm) (hok.pos _ hm) d9⟩)
 obtain⟨As,c7⟩:=ag (rowsOf st);have e3:As.length=ts.length:=(by rw[<-c7,yh];exact b8);rw[c7]at b9 ⊢;obtain⟨nt,c8⟩:=ag ts.length;have g7:(nt:Int)<=1000:=(by have:=hok.n;omega);rw[c8]at m;obtain⟨res,Z⟩:=ag (au ts As);rw[Z];have z:=aa (ab Z (ab c8 e3))
 have d0:Hid (∀(w2 J:World) (N id:Int) (nm col:ByteArray),Below X.heap.size X w2->((((w2.setCell ⟨R,0,none⟩ (.int .i64 N)).setCell ⟨R,1,none⟩ (.int .i64 0)).setCell ⟨R,2,none⟩ (.string nm)).setCell ⟨R,3,none⟩ (.int .i64 id)).setCell ⟨R,4,none⟩ (.string col)=J ->
   (J.cell? ⟨R,0,none⟩=some (.int .i64 N)/\J.cell? ⟨R,1,none⟩=some (.int .i64 0)/\J.cell? ⟨R,2,none⟩=some (.string nm)/\J.cell? ⟨R,3,none⟩=some (.int .i64 id)/\J.cell? ⟨R,4,none⟩=some (.string col))/\Below W.heap.size W J):=aa (by
  rintro w2 J N id nm col hb rfl;have h5:=gS (aE hb k1) (.int .i64 N) (.int .i64 0) (.string nm) (.int .i64 id) (.string col);have hg:=aW w2 R (.int .i64 N) (.int .i64 0) (.string nm) (.int .i64 id) (.string col);exact⟨⟨aA h5 0,aA h5 1,aA h5 2,aA h5 3,aA h5 4⟩,aT (aB b1 hb) (zm _) hg (by omega)⟩)
 have P:=aa (ab k1 (ab b1 (ab b0 (ab hR d8))));clear h hok hA b1 k1 b0 hR b8 c7 e3 c8 Z d8;go_enter func18,ntmps18;go_upto_region 1 with fail;rw[P.2.2.1,P.2.2.2.1];have hs:=HS.out X P.2.1
 go_wp2_with (first|(go_at_call 43;refine hs.mono ?_;rintro e w2⟨rfl,I⟩;subst w2;clear hs)|(go_at_call 44;refine m.mono ?_;rintro e w3⟨v3,rfl,d1,e4⟩;obtain⟨pn,cn,rfl,_,_⟩:=ac.isslice d1;have H3:=aa (ab d1 e4);clear m d1 e4))
 have f8:Hid (∀w,Below w3.heap.size w3 w->∀j (Y:j<ts.length),∃g,pn=some ⟨g,0,none⟩/\w.cell? ⟨g,j,none⟩=some (.string ts[j].nm)/\g<w.heap.size):=aa (fun w I j Y=>by
  have hr:=(H3.1).later I;obtain⟨g,c',e,_,_⟩:=ac.slice hr (by rw[<-z.2.1];omega);cases e;refine⟨g,rfl,hr.cell ?_,(ac.lt hr g rfl).2⟩;unfold cellsS;rw[xm,xm,z6 Y];rfl)
 go_loopg [12] (nt+1) (fun gh jv y=>∃(j:Nat),jv=.int .i64 (j:Int)/\j<=nt/\nt+1<=j+gh/\(∀i,i<j->(bm ts As i).1=0)/\Below w3.heap.size w3 y)
 case atStart=>exact⟨0,rfl,zh _,by omega,fun i hi=>by omega,zb _ _⟩
 obtain⟨j,rfl,Y,hg,d2,hB⟩:=hrel;have HI:=aa (ab d2 hB);by_cases f9:j<nt
 ·have g8:(j:Int)<(nt:Int):=(by omega);have a0:j<ts.length:=(by rw[z.2.1];exact f9);have a:=aB H3.2 hB;have b3:=aB P.2.1 a;obtain⟨g,rfl,c0,gl⟩:=f8.out wr hB j a0;have hs:=HS.out wr b3;have a6:=f7.out wr b3 j a0;have c:=fun w I=>b9.out w (aB b3 I) j a0
  have L:bm ts As j=if (jp ts[j] (As.getD j [])).1=0 then YthlccadnojnkaaaGreat.gk ts As ts[j] (As.getD j [])else jp ts[j] (As.getD j []):=by
   unfold bm lj;rw[zu (l:=ts),z6 a0];rfl
  obtain⟨t,ht⟩:=ag (ts[j]);obtain⟨A,e5⟩:=ag (As.getD j []);simp only[ht,e5]at c0 a6 c L;obtain⟨⟨e1,Q,k⟩,e6⟩:∃r,jp t A=r:=⟨_,rfl⟩;obtain⟨⟨e2,a7,B⟩,e7⟩:∃r,YthlccadnojnkaaaGreat.gk ts As t A=r:=⟨_,rfl⟩;simp only[e6,e7]at c L;obtain⟨nm,a8⟩:=ag t.nm;obtain⟨key,c4⟩:=ag t.key;unfold ly at a6;simp only[a8,c4]at c0 a6 c;have e8:=aa c;have HX:=aa (ab L (ab ht (ab a8 (ab a a0))));clear d2 hB b3 c L ht e5 e6 e7 a8 c4 a
  go_upto_region 5 with (first|(go_at_call 43;refine hs.mono ?_;rintro e w2⟨rfl,I⟩;subst w2;clear hs)|(go_at_call 45;refine a6.mono ?_;rintro e w4⟨p1,n1,c1,p2,n2,c2,rfl,hT,e9⟩;have H4:=aa (ab hT e9);clear a6 hT e9))
  have b5:=aD w4 (.cells #[.string nm,.slice p1 n1 c1,.string key,.slice p2 n2 c2] 77);have k5:=z7 w4 (.cells #[.string nm,.slice p1 n1 c1,.string key,.slice p2 n2 c2] 77);obtain⟨w5,d3⟩:=ag (w4.alloc (.cells #[.string nm,.slice p1 n1 c1,.string key,.slice p2 n2 c2] 77));obtain⟨F,hF⟩:=ag w4.heap.size;rw[d3]at b5 k5;rw[hF]at k5;rw[d3,hF];have c:=(e8.out w5 (aB H4.2 b5) _ _ (H4.1.later b5)).1;have f0:=aA k5 0;have f1:=aA k5 1;have f2:=aA k5 2;have f3:=aA k5 3;have fl:=aC k5;have H5:=aa (ab k5 (aB H4.2 b5));have g1:=aa (H4.1.later b5);clear b5 k5 d3 hF c0 gl;go_upto_region 6 with (go_at_call 46;refine c.mono ?_;rintro e w6⟨rfl,f4⟩;have H6:=aa f4;clear c f4);clear f0 f1 f2 f3 fl;have b7:=aD w6 (.cells #[.int .i64 e1,.int .i64 0,.string e0,.int .i64 Q,.string k] 39);have k7:=z7 w6 (.cells #[.int .i64 e1,.int .i64 0,.string e0,.int .i64 Q,.string k] 39);obtain⟨w7,d4⟩:=ag (w6.alloc (.cells #[.int .i64 e1,.int .i64 0,.string e0,.int .i64 Q,.string k] 39));obtain⟨G,hG⟩:=ag w6.heap.size;rw[d4]at b7 k7;rw[hG]at k7;rw[d4,hG];have a9:=aB H6.out b7;have c5:Below wr.heap.size wr w7:=aB H5.2 a9;have d5:wr.heap.size<=G:=(by have h1:=H5.2.size;have h2:=H6.out.size;omega);have g0:=aA k7 0;have gl:=aC k7;have u:=aa (ab k7 (ab a9 (ab c5 d5)));clear b7 k7 d4 hG a9 c5 d5
  have c6:Hid (∀(S:World) (N id:Int) (col:ByteArray),Below wr.heap.size wr S->S.heap[G]?=some (.cells #[.int .i64 N,.int .i64 0,.string e0,.int .i64 id,.string col] 39)->N≠0->bm ts As j=(N,id,col)->res=(N,nm,id,col)/\(S.setCell ⟨G,2,none⟩ (.string nm)).heap[G]?=some (.cells #[.int .i64 N,.int .i64 0,.string nm,.int .i64 id,.string col] 39)/\Below X.heap.size X (S.setCell ⟨G,2,none⟩ (.string nm))/\S.heap[R]?=some (.cells zF 39)/\(S.setCell ⟨G,2,none⟩ (.string nm)).heap[R]?=some (.cells zF 39)):=aa (fun S N id col hb hk g2 o=>by
   have a:=HX.2.2.2.1;have hz:=a.size;have d5:=u.2.2.2;have f5:S.heap[R]?=some (.cells zF 39):=aE (aB a hb) P.1;have g3:R≠G:=(fun e=>by have:=P.2.2.2.2;omega);refine⟨?_,?_,(aB a hb).setCell (p:=⟨G,2,none⟩) (by show X.heap.size<=G;omega) _,f5,(yd S ⟨G,2,none⟩ R _ g3).trans f5⟩
   ·refine(z.1.symm.trans (cW HX.2.2.2.2 (by rw[o];exact g2) HI.1)).trans ?_;have a8:ts[j].nm=nm:=(congrArg T.nm HX.2.1).trans HX.2.2.1;exact Prod.ext (congrArg (fun x=>x.1) o) (Prod.ext a8 (congrArg (fun x=>x.2) o))
   rw[y9 S G 2 #[.int .i64 N,.int .i64 0,.string e0,.int .i64 id,.string col] 39 (.string nm) hk];rfl)
  by_cases U:e1=0
  ·subst U;have o:bm ts As j=(e2,a7,B):=HX.1.trans (zv rfl);have f6:=aa o;have M:=(e8.out w7 (aB H5.2 u.2.1 |> fun h=>h) _ _ (g1.out.later u.2.1)).2;have V:=aE u.2.1 H5.1;have f0:=aA V 0;have f1:=aA V 1;have f2:=aA V 2;have f3:=aA V 3;have fl:=aC V;clear o V;go_upto_region 8 with (go_at_call 47;refine M.mono ?_;rintro e S⟨rfl,q⟩;have q0:=aA (aE q u.1) 0;have q1:=aA (aE q u.1) 1;have q2:=aA (aE q u.1) 2;have q3:=aA (aE q u.1) 3;have q4:=aA (aE q u.1) 4;have qf:=fun i=>zo S G i _ _ (aE q u.1);have ql:=aC (aE q u.1);have H8:=aa q;clear M q f0 f1 f2 f3 fl g0 gl);have h5:=gS (aE H8.out u.1) (.int .i64 e2) (.int .i64 0) (.string e0) (.int .i64 a7) (.string B);have d6:=aW S G (.int .i64 e2) (.int .i64 0) (.string e0) (.int .i64 a7) (.string B);generalize E:((((World.setCell _ _ _).setCell _ _).setCell _ _).setCell _ _).setCell _ _=J;rw[E]at h5 d6;have b4:Below wr.heap.size wr J:=aT (aB u.2.2.1 H8.out) (zm _) d6 u.2.2.2;have HZ:=aa (ab h5 b4);have r0:=aA h5 0;have rl:=aC h5;clear h5 d6 E b4 q0 q1 q2 q3 q4 qf ql;by_cases b6:e2=0
   ·subst b6;go_wp2_with fail;go_roundg (nt-j)
    case measure=>omega
    refine⟨j+1,by go_num,by omega,by omega,fun i hi=>?_,aB HI.2 HZ.2⟩;by_cases e:i=j
    ·subst e;rw[f6.out]
    exact HI.1 i (by omega)
   have g4:(e2 != 0)=true:=(by simp[b6]);obtain⟨a1,a2,a3,a4,a5⟩:=c6.out J e2 a7 B HZ.2 HZ.1 b6 f6.out;subst a1;have q2:=aA HZ.1 2;have qf:=(fun i=>zo J G i _ _ HZ.1);obtain⟨wy,H⟩:=ag (J.setCell ⟨G,2,none⟩ (.string nm));rw[H]at a2 a3 a5;have b:=aa (ab H (ab a2 (ab a3 a5)));clear a2 a3 a4 a5 H b6;go_upto_region 10 with fail;rw[b.1];clear q2 qf r0 rl;have s0:=aA b.2.1 0;have s1:=aA b.2.1 1;have s2:=aA b.2.1 2;have s3:=aA b.2.1 3;have s4:=aA b.2.1 4;have sl:=aC b.2.1;have t0:=aA b.2.2.2 0;have t1:=aA b.2.2.2 1;have t2:=aA b.2.2.2 2;have t3:=aA b.2.2.2 3;have t4:=aA b.2.2.2 4;have tf:=(fun i=>zo wy R i _ _ b.2.2.2);have tl:=aC b.2.2.2;go_wp2_with fail;generalize E:((((World.setCell _ _ _).setCell _ _).setCell _ _).setCell _ _).setCell _ _=wx;obtain⟨⟨y0,y1,y2,y3,y4⟩,d7⟩:=d0.out _ _ _ _ _ _ b.2.2.1 E;refine ya (v:=bj e2 0 nm a7 B) (by simp[results,results18,go_sem,y0,y1,y2,y3,y4]) rfl ?_;exact⟨rfl,d7⟩
  have o:bm ts As j=(e1,Q,k):=HX.1.trans (zq U);have g9:(e1==0)=false:=beq_eq_false_iff_ne.2 U;have g4:(e1 != 0)=true:=(by simp[U]);obtain⟨a1,a2,a3,a4,a5⟩:=c6.out w7 e1 Q k u.2.2.1 u.1 U o;subst a1;have q2:=aA u.1 2;have qf:=(fun i=>zo w7 G i _ _ u.1);obtain⟨wy,H⟩:=ag (w7.setCell ⟨G,2,none⟩ (.string nm));rw[H]at a2 a3 a5;have b:=aa (ab H (ab a2 (ab a3 a5)));clear a2 a3 a4 a5 H U o;go_upto_region 10 with fail;rw[b.1];clear q2 qf g0 gl;have s0:=aA b.2.1 0;have s1:=aA b.2.1 1;have s2:=aA b.2.1 2;have s3:=aA b.2.1 3;have s4:=aA b.2.1 4;have sl:=aC b.2.1;have t0:=aA b.2.2.2 0;have t1:=aA b.2.2.2 1;have t2:=aA b.2.2.2 2;have t3:=aA b.2.2.2 3;have t4:=aA b.2.2.2 4;have tf:=(fun i=>zo wy R i _ _ b.2.2.2);have tl:=aC b.2.2.2;go_wp2_with fail;generalize E:((((World.setCell _ _ _).setCell _ _).setCell _ _).setCell _ _).setCell _ _=wx;obtain⟨⟨y0,y1,y2,y3,y4⟩,d7⟩:=d0.out _ _ _ _ _ _ b.2.2.1 E;refine ya (v:=bj e1 0 nm Q k) (by simp[results,results18,go_sem,y0,y1,y2,y3,y4]) rfl ?_;exact⟨rfl,d7⟩
 obtain rfl:j=nt:=(by omega);obtain rfl:res=(0,e0,0,e0):=z.1.symm.trans (cX (fun i hi=>HI.1 i (by rw[<-z.2.1];exact hi)));have a:=aB H3.2 hB;have r0:=aA (aE a P.1) 0;have r1:=aA (aE a P.1) 1;have r2:=aA (aE a P.1) 2;have r3:=aA (aE a P.1) 3;have r4:=aA (aE a P.1) 4;have rf:=(fun i=>zo wr R i _ _ (aE a P.1));have rl:=aC (aE a P.1);have g5:=aa a;clear d2 hB a;go_wp2_with fail;generalize E:((((World.setCell _ _ _).setCell _ _).setCell _ _).setCell _ _).setCell _ _=J;obtain⟨⟨y0,y1,y2,y3,y4⟩,b4⟩:=d0.out _ _ _ _ _ _ g5.out E;refine ya (v:=bj 0 0 e0 0 e0) (by simp[results,results18,go_sem,y0,y1,y2,y3,y4]) rfl ?_;exact⟨rfl,b4⟩
section
variable {ts:List T}{As:List (List R1)}{j:Nat}{t:T}{A:List R1}
theorem GS(h:bm ts As j=lj ts As t A)(hb:64<A.length):bm ts As j=(5,0,e0):=by
 rw[h];unfold lj;rw[uS hb,zq (show ¬ ((5:Int)=0)by decide)]
theorem yL{c:Nat}(h:bm ts As j=lj ts As t A)(hb:¬ 64<A.length)(hc:c<t.cols.length)(h1:40<fy A c)(h0:∀m,m<c->¬ 40<fy A m):bm ts As j=(5,0,(mx t c).nm):=by
 rw[h];unfold lj;rw[pZ hb hc h1 h0,zq (show ¬ ((5:Int)=0)by decide)]
theorem Jf{k:Nat}(h:bm ts As j=lj ts As t A)(hb:¬ 64<A.length)(h0:∀m,m<t.cols.length->¬ 40<fy A m)(hk:k<A.length)(h1:(fg ts As t A[k].2 (bk A k)).1≠0)(h2:∀m,m<k->ge ts As t A m=false):bm ts As j=((fg ts As t A[k].2 (bk A k)).1,A[k].1,(fg ts As t A[k].2 (bk A k)).2):=by
 rw[h];unfold lj;rw[eU hb h0,zv rfl,fR hk h1 h2]
theorem Lg(h:bm ts As j=lj ts As t A)(hb:¬ 64<A.length)(h0:∀m,m<t.cols.length->¬ 40<fy A m)(h2:∀m,m<A.length->ge ts As t A m=false):(bm ts As j).1=0:=by
 rw[h];unfold lj;rw[eU hb h0,zv rfl,cU h2]
end
theorem oB{W:World}{b:Nat}{ts:List T}{tt:List RT}{ni:NI}{O:Nat->Nat}(h:ew W b ts tt ni O)(g:sa ts)(hneg:∀t∈ts,gx t.cols e0<0)(h0t:0<ts.length)(hA:∀y∈tt,y.A.length<=1000):Calls prog 20 #[.pointer (some ⟨b,0,none⟩)] W fun e w'=>e=.returned (bj (au ts (lu tt)).1 0 (au ts (lu tt)).2.1 (au ts (lu tt)).2.2.1 (au ts (lu tt)).2.2.2)/\Below W.heap.size W w':=by
 have b1:=aD W (.cells zF 39);have k1:=z7 W (.cells zF 39);obtain⟨M,N⟩:=ag (W.alloc (.cells zF 39));obtain⟨R,hR⟩:=ag W.heap.size;rw[N]at b1 k1;rw[hR]at k1;have o:tt.length=ts.length:=h.n;obtain⟨As,b2⟩:=ag (lu tt);have b9:As.length=ts.length:=(by rw[<-b2,yh];exact o);have G:=aa (ab h (ab g (ab hneg (ab h0t (ab hA (ab o (ab b2 b9)))))));rw[b2];obtain⟨J,c5⟩:=ag ts.length;have g9:(J:Int)<=1000:=(by have:=g.n;omega);have d9:0<tt.length:=(by omega);obtain⟨⟨e1,f3,e2,f4,h0,h1,h2,h3,h4,h6⟩,b3,f5⟩:=h.nreads h0t (z6 d9) (g.pos _ (z8 h0t));dsimp only at b3;rw[c5]at b3
 have f6:Hid (∀w,Below W.heap.size W w->w.cell? ⟨b,0,none⟩=some (.slice (some ⟨e1,0,none⟩) J f3)/\w.cell? ⟨b,1,none⟩=some (.slice (some ⟨e2,0,none⟩) J f4)/\b<w.heap.size/\e1<w.heap.size/\e2<w.heap.size):=aa (fun w r=>by
  obtain⟨x1,x2,x3,x4,x5,x6,_⟩:=b3 w r;exact⟨x5,x1,x3,x6,x4⟩)
 obtain⟨res,P⟩:=ag (au ts As);rw[P];have p:=aa (ab P c5)
 have b4:Hid (∀(w2 wz:World) (s id:Int) (nm col:ByteArray),Below M.heap.size M w2->((((w2.setCell ⟨R,0,none⟩ (.int .i64 s)).setCell ⟨R,1,none⟩ (.int .i64 0)).setCell ⟨R,2,none⟩ (.string nm)).setCell ⟨R,3,none⟩ (.int .i64 id)).setCell ⟨R,4,none⟩ (.string col)=wz ->
   (wz.cell? ⟨R,0,none⟩=some (.int .i64 s)/\wz.cell? ⟨R,1,none⟩=some (.int .i64 0)/\wz.cell? ⟨R,2,none⟩=some (.string nm)/\wz.cell? ⟨R,3,none⟩=some (.int .i64 id)/\wz.cell? ⟨R,4,none⟩=some (.string col))/\Below W.heap.size W wz):=aa (by
  rintro w2 wz s id nm col hb rfl;have h5:=gS (aE hb k1) (.int .i64 s) (.int .i64 0) (.string nm) (.int .i64 id) (.string col);have hg:=aW w2 R (.int .i64 s) (.int .i64 0) (.string nm) (.int .i64 id) (.string col);exact⟨⟨aA h5 0,aA h5 1,aA h5 2,aA h5 3,aA h5 4⟩,aT (aB b1 hb) (zm _) hg (by omega)⟩)
 have HK:=aa (ab k1 (ab b1 (ab N hR)))
 have HR:Hid (∀w,Below M.heap.size M w->(R<w.heap.size/\(∀i,w.frozen? ⟨R,i,none⟩=false))/\w.cell? ⟨R,0,none⟩=some (.int .i64 0)/\w.cell? ⟨R,1,none⟩=some (.int .i64 0)/\w.cell? ⟨R,2,none⟩=some (.string e0)/\w.cell? ⟨R,3,none⟩=some (.int .i64 0)/\w.cell? ⟨R,4,none⟩=some (.string e0)):=aa (fun w r=>by
  have:=aE r k1
  exact⟨⟨aC this,fun i=>zo w R i _ _ this⟩,aA this 0,aA this 1,aA this 2,aA this 3,aA this 4⟩)
 clear h g hneg h0t hA b1 k1 N hR o b2 b9 c5 P b3 f5 d9;go_enter func20,ntmps20;go_upto_region 1 with fail;rw[HK.2.2.1,HK.2.2.2];go_wp2_with fail;go_loopg [3] (J+1) (fun gh jv y=>∃(j:Nat),jv=.int .i64 (j:Int)/\j<=J/\J+1<=j+gh/\(∀i,i<j->(bm ts As i).1=0)/\Below M.heap.size M y)
 case atStart=>exact⟨0,rfl,zh _,by omega,fun i Q=>by omega,zb _ _⟩
 obtain⟨j,rfl,hj,hg,c6,z⟩:=hrel;have HI:=aa (ab c6 z);have d:=aB HK.2.1 z;by_cases e3:j<J
 ·have h7:(j:Int)<(J:Int):=(by omega);have m:j<ts.length:=(by rw[p.2];exact e3);have c7:j<tt.length:=(by rw[G.2.2.2.2.2.1];exact m);have hm:=z8 m;have g:=G.2.1;have S:=g.pos _ hm;have U:=g.form _ hm;have c8:=G.2.2.2.2.1 _ (z8 c7);have V:=z6 c7
  have X:bm ts As j=lj ts As ts[j] tt[j].A:=by
   have e:j<As.length:=(by rw[G.2.2.2.2.2.2.2];exact m);rw[Ks m e]
   have:As[j]=tt[j].A:=by
    simp only[<-G.2.2.2.2.2.2.1];simp[lu]
   rw[this]
  have o:∀a∈tt[j].A,a.2.length=ts[j].cols.length:=(fun a ha=>(G.1.ok m V).len a ha);obtain⟨⟨gs,cs,go,co,pr,cr,pc,kc,pd,kd⟩,hZ,hY⟩:=G.1.nreads m V S;dsimp only at hZ hY;have hT:=(hZ W (zb _ _)).2.2.2.2.2.2.2.2.2.2;obtain⟨bc,oc,rfl,hC⟩:=pX hT S;obtain⟨A,b5⟩:=ag (tt[j].A)
  have e4:Hid (∀w,Below W.heap.size W w->∀c,c<ts[j].cols.length->Calls prog 48 #[.pointer (some ⟨b,0,none⟩),.int .i64 (j:Int),.int .i64 (c:Int)] w fun e w'=>e=.returned (.int .i64 ((fy tt[j].A c:Nat):Int))/\Below w.heap.size w w'):=aa (fun w r c hc=>by
   rw[<-JK];exact yE (G.1.later r) m V (by omega) g.n U.nc S hc)
  have e5:Hid (∀w,Below W.heap.size W w->∀k (hk:k<A.length),Calls prog 49 #[.pointer (some ⟨b,0,none⟩),.int .i64 (j:Int),.int .i64 (k:Int)] w fun e w'=>e=.returned (.tuple #[.int .i64 (fg ts As ts[j] A[k].2 (bk A k)).1,.string (fg ts As ts[j] A[k].2 (bk A k)).2])/\Below w.heap.size w w'):=aa (fun w r k hk=>by
   subst b5;refine FD (G.1.later r) m V hk U (G.2.2.1 _ hm) S g.n c8 o (fun M N x u=>?_);rw[<-G.2.2.2.2.2.2.1];exact xY (G.1.later (aB r N)) g.inv (fun t ht=>(g.form t ht).nc) (fun y hy=>by have:=G.2.2.2.2.1 y hy;omega) x u)
  have e6:Hid (∀k (hk:k<A.length),∃gr,pr=some ⟨gr,0,none⟩/\∀w,Below W.heap.size W w->gr<w.heap.size/\w.cell? ⟨gr,k*2,none⟩=some (.int .i64 A[k].1)):=aa (fun k hk=>by
   subst b5;obtain⟨gr,_,_,e,hq⟩:=hY k hk;exact⟨gr,e,fun w r=>⟨(hq w r).1,(hq w r).2.1⟩⟩)
  obtain⟨t,d0⟩:=ag (ts[j]);simp only[d0,b5,p.2]at hZ hC e4 e5 e6 X U c8;obtain⟨na,d1⟩:=ag A.length;obtain⟨nc,d2⟩:=ag t.cols.length;have g7:(na:Int)<=1000:=(by omega);have g8:(nc:Int)<=1000:=(by have:=U.nc;omega);obtain⟨nm,d3⟩:=ag t.nm
  have HZ:Hid (∀w,Below W.heap.size W w->(b<w.heap.size/\go<w.heap.size/\gs<w.heap.size/\bc<w.heap.size)/\w.cell? ⟨b,0,none⟩=some (.slice (some ⟨gs,0,none⟩) J cs)/\w.cell? ⟨b,1,none⟩=some (.slice (some ⟨go,0,none⟩) J co)/\w.cell? ⟨go,j,none⟩=some (.slice pr na cr)/\w.cell? ⟨gs,j*4,none⟩=some (.string nm)/\w.cell? ⟨gs,j*4+1,none⟩=some (.slice (some ⟨bc,oc,none⟩) nc kc)):=aa (fun w r=>by
   obtain⟨x1,x2,x3,x4,x5,x6,x7,x8,_⟩:=hZ w r;rw[<-d1,<-d2,<-d3];exact⟨⟨x3,x4,x6,(hC w r).1⟩,x5,x1,x2,x7,x8⟩)
  have f7:Hid (∀w,Below W.heap.size W w->∀c,c<nc->w.cell? ⟨bc,oc+c*4,none⟩=some (.string (mx t c).nm)):=aa (fun w r c hc=>((hC w r).2 c (by omega)).1);have c1:ts[j].nm=nm:=(by rw[d0];exact d3);have L:=aa (ab X (ab d1 (ab d2 m)))
  have Y:Hid (∀(s id:Int) (col:ByteArray),bm ts As j=(s,id,col)->s≠0->res=(s,nm,id,col)):=aa (fun s id col e7 f8=>by
   refine(p.1.symm.trans (cW m (by rw[e7];exact f8) HI.1)).trans ?_;rw[e7,c1])
  obtain⟨⟨l0,l1,l2,l3⟩,a0,a1,a2,Z,a4⟩:=HZ.out wr d;clear c6 z d hm g S U c8 V X o hZ hY hT hC d3 d1 d2 c1 d0 b5 c7;clear a4 l3;by_cases F:64<na
  ·have f9:(64:Int)<(na:Int):=(by omega);have hr:=Y.out 5 0 e0 (GS L.1 (by rw[L.2.1];exact F)) (by decide);subst hr;have f:=aa HI.2;obtain⟨⟨ql,qf⟩,q0,q1,q2,q3,q4⟩:=HR.out wr HI.2;clear F;go_wp2_with fail;generalize B:((((World.setCell _ _ _).setCell _ _).setCell _ _).setCell _ _).setCell _ _=wx;obtain⟨⟨y0,y1,y2,y3,y4⟩,E⟩:=b4.out _ _ _ _ _ _ f.out B;refine ya (v:=bj 5 0 nm 0 e0) (by simp[results,results20,go_sem,y0,y1,y2,y3,y4]) rfl ?_;exact⟨rfl,E⟩
  have f9:¬ (64:Int)<(na:Int):=(by omega);have a5:Hid (¬ 64<A.length):=aa (by rw[L.2.1];exact F);clear F;go_wp2_with fail;clear a0 a1 a2 Z l0 l1 l2;go_loopg [5] (nc+1) (fun gh cv y=>∃(c:Nat),cv=.int .i64 (c:Int)/\c<=nc/\nc+1<=c+gh/\(∀i,i<c->¬ 40<fy A i)/\Below M.heap.size M y)
  case atStart=>exact⟨0,rfl,zh _,by omega,fun i Q=>by omega,HI.2⟩
  obtain⟨c,rfl,hc,g1,a6,z⟩:=hrel;have H:=aa (ab a6 z);have d:=aB HK.2.1 z;obtain⟨⟨l0,l1,l2,l3⟩,a0,a1,a2,Z,a4⟩:=HZ.out wr d;by_cases b6:c<nc
  ·have h8:(c:Int)<(nc:Int):=(by omega);have a7:=e4.out wr d c (by rw[L.2.2.1];exact b6);obtain⟨wn,b7⟩:=ag (fy A c);have h9:wn<=na:=(by rw[<-b7,<-L.2.1];exact jM);rw[b7]at a7;have d4:=aa (ab b7 b6);clear a6 z d b7 a1 a2 Z l1 l3;by_cases b8:40<wn
   ·have e8:(40:Int)<(wn:Int):=(by omega);obtain⟨cn,d5⟩:=ag ((mx t c).nm);have hr:=Y.out 5 0 cn (by rw[<-d5];exact yL L.1 a5.out (by rw[L.2.2.1];exact b6) (by rw[d4.1];exact b8) H.1) (by decide);subst hr;have e9:=aa d5;clear d5 b8;go_upto_region 11 with (go_at_call 48;refine a7.mono ?_;rintro e w4⟨rfl,l⟩;have f:=aa (aB H.2 l);clear a7 l);clear a0 a4 l0 l2;obtain⟨⟨l0,l1,l2,l3⟩,a0,a1,a2,Z,a4⟩:=HZ.out w4 (aB HK.2.1 f.out);have c0:=f7.out w4 (aB HK.2.1 f.out) c d4.2;rw[e9.out]at c0;obtain⟨⟨ql,qf⟩,q0,q1,q2,q3,q4⟩:=HR.out w4 f.out;clear a1 a2 Z l1;go_wp2_with fail;generalize B:((((World.setCell _ _ _).setCell _ _).setCell _ _).setCell _ _).setCell _ _=wx;obtain⟨⟨y0,y1,y2,y3,y4⟩,E⟩:=b4.out _ _ _ _ _ _ f.out B;refine ya (v:=bj 5 0 nm 0 cn) (by simp[results,results20,go_sem,y0,y1,y2,y3,y4]) rfl ?_;exact⟨rfl,E⟩
   have e8:¬ (40:Int)<(wn:Int):=(by omega);have g2:=aa b8;clear b8;go_wp2_with (go_at_call 48;refine a7.mono ?_;rintro e w4⟨rfl,l⟩;have H4:=aa (aB H.2 l);clear a7 l);go_roundg (nc-c)
   case measure=>omega
   refine⟨c+1,by go_num,by omega,by omega,fun i Q=>?_,H4.out⟩;by_cases e:i=c
   ·subst e;rw[d4.1];exact g2.out
   exact H.1 i (by omega)
  obtain rfl:c=nc:=(by omega);have a8:∀i,i<t.cols.length->¬ 40<fy A i:=(fun i Q=>H.1 i (by rw[<-L.2.2.1];exact Q));have c4:=aa a8;clear a6 z d a8 a1 a2 Z l1 l3 b6 hc g1;go_wp2_with fail;clear a0 a4 l0 l2;go_loopg [6] (na+1) (fun gh cv y=>∃(k:Nat),cv=.int .i64 (k:Int)/\k<=na/\na+1<=k+gh/\(∀i,i<k->ge ts As t A i=false)/\Below M.heap.size M y)
  case atStart=>exact⟨0,rfl,zh _,by omega,fun i Q=>by omega,H.2⟩
  obtain⟨k,rfl,hk,i0,a9,z⟩:=hrel;have I:=aa (ab a9 z);have d:=aB HK.2.1 z;obtain⟨⟨l0,l1,l2,l3⟩,a0,a1,a2,Z,a4⟩:=HZ.out wr d;by_cases g3:k<na
  ·have i1:(k:Int)<(na:Int):=(by omega);have d6:k<A.length:=(by rw[L.2.1];exact g3);have q:=e5.out wr d k d6;obtain⟨gr,rfl,d7⟩:=e6.out k d6;obtain⟨f0,b0⟩:=ag (A[k].1);rw[b0]at d7;obtain⟨⟨s,cl⟩,d8⟩:∃x,fg ts As t A[k].2 (bk A k)=x:=⟨_,rfl⟩;rw[d8]at q;have g4:=aa d7;have HX:=aa (ab d8 b0);have f1:=aa d6;clear a9 z d d7 d8 b0 a0 Z a4 l2 l3;by_cases he:s=0
   ·subst he;go_wp2_with (go_at_call 49;refine q.mono ?_;rintro e w4⟨rfl,l⟩;have H4:=aa (aB I.2 l);clear q l);go_roundg (na-k)
    case measure=>omega
    refine⟨k+1,by go_num,by omega,by omega,fun i Q=>?_,H4.out⟩;by_cases e:i=k
    ·subst e;exact pY f1.out (by rw[HX.1])
    exact I.1 i (by omega)
   have i2:(s != 0)=true:=by simp[he]
   have hr:=Y.out s f0 cl (by
    have:=Jf L.1 a5.out c4.out f1.out (by rw[HX.1];exact he) I.1
    rw[HX.1,HX.2]at this;exact this) he
   subst hr;clear he;go_upto_region 17 with (go_at_call 49;refine q.mono ?_;rintro e w4⟨rfl,l⟩;have f:=aa (aB I.2 l);clear q l);clear a1 a2 l0 l1;obtain⟨⟨l0,l1,l2,l3⟩,a0,a1,a2,Z,a4⟩:=HZ.out w4 (aB HK.2.1 f.out);obtain⟨gl,g0⟩:=g4.out w4 (aB HK.2.1 f.out);obtain⟨⟨ql,qf⟩,q0,q1,q2,q3,q4⟩:=HR.out w4 f.out;clear a0 Z a4 l2 l3;go_wp2_with fail;generalize B:((((World.setCell _ _ _).setCell _ _).setCell _ _).setCell _ _).setCell _ _=wx;obtain⟨⟨y0,y1,y2,y3,y4⟩,E⟩:=b4.out _ _ _ _ _ _ f.out B;refine ya (v:=bj s 0 nm f0 cl) (by simp[results,results20,go_sem,y0,y1,y2,y3,y4]) rfl ?_;exact⟨rfl,E⟩
  obtain rfl:k=na:=(by omega);have f2:=Lg L.1 a5.out c4.out (fun i Q=>I.1 i (by rw[<-L.2.1];exact Q));have g5:=aa f2;clear a9 z d f2 a0 Z a4 l2 l3;go_wp2_with fail;go_roundg (J-j)
  case measure=>omega
  refine⟨j+1,by go_num,by omega,by omega,fun i Q=>?_,I.2⟩;by_cases e:i=j
  ·subst e;exact g5.out
  exact HI.1 i (by omega)
 obtain rfl:j=J:=(by omega);obtain⟨z0,z1,z2,z3,z4⟩:=f6.out wr d;obtain⟨⟨ql,qf⟩,q0,q1,q2,q3,q4⟩:=HR.out wr z;have g6:res=(0,e0,0,e0):=p.1.symm.trans (cX (fun i Q=>HI.1 i (by rw[<-p.2];exact Q)));subst g6;clear c6 z d z1 z3 z4 e3 hj hg;have f:=aa HI.2;go_wp2_with fail;generalize B:((((World.setCell _ _ _).setCell _ _).setCell _ _).setCell _ _).setCell _ _=wx;obtain⟨⟨y0,y1,y2,y3,y4⟩,E⟩:=b4.out _ _ _ _ _ _ f.out B;refine ya (v:=bj 0 0 e0 0 e0) (by simp[results,results20,go_sem,y0,y1,y2,y3,y4]) rfl ?_;exact⟨rfl,E⟩
