import Derived.Test.YthlccadnojnkaaaGreatZn27
import Derived.Test.YthlccadnojnkaaaGreatZn30
set_option maxHeartbeats 8000000
set_option maxRecDepth 100000
namespace Go.Proofs.YthlccadnojnkaaaGreat
open Go.Proofs.Tryz
open Go Go.RowKit Go.Proofs Co Co.S
section
variable {A:List R1}
theorem pQ(hs:A.Pairwise (fun a b=>a.1<b.1))(x:Int):(Ab A x=-1/\∀a∈A,a.1≠x)∨∃k,∃c:k<A.length,Ab A x=(k:Int)/\A[k].1=x:=by
 by_cases h:∃k,∃c:k<A.length,A[k].1=x
 ·obtain⟨k,c,f⟩:=h;refine .inr ⟨k,c,nC c f (fun j d g e=>?_),f⟩
  have:=rA hs d c (e.trans f.symm)
  omega
 refine .inl ⟨nB (fun j d e=>h ⟨j,d,e⟩),fun a i e=>?_⟩;obtain⟨j,d,rfl⟩:=xz i;exact h ⟨j,d,e⟩
theorem Km{x:Int}{j:Nat}{v:T3}{k:Nat}(hk:k<A.length)(hk':k<(im A x j v).length):(im A x j v)[k]=if A[k].1=x then(A[k].1,A[k].2.set j v)else A[k]:=by
 simp[im]
theorem xM{A A':List R1}{vs:List Value}(h:A.map (·.1)=A'.map (·.1)):az A vs=az A' vs:=by
 unfold az
 induction A generalizing A' vs with
 | nil =>
  cases A' with
  | nil=>rfl
  | cons a A'=>cases h
 | cons a A ih =>
  cases A' with
  | nil=>cases h
  | cons a' A' =>
   simp only[List.map_cons,List.cons.injEq]at h;cases vs with
   | nil=>rfl
   | cons v vs =>
    simp only[List.zip_cons_cons,vh];rw[ih h.2,h.1]
end
section
variable {W w:World}{b:Nat}{ts:List T}{tt:List RT}{i:NI}{O:Nat->Nat}{t:Nat}{y:RT}
theorem tU{x:RT}(hy:tt[t]?=some y)(hx:x.rv=y.rv):(tt.set t x).map (·.rv)=tt.map (·.rv):=by
 refine ug (fun k=>?_);rw[xm,xm,List.getElem?_set];by_cases e:t=k
 ·subst e;rw[zv rfl,zv (List.getElem?_eq_some_iff.1 hy).1,hy];simp only[Option.map_some];rw[hx]
 rw[zq e]
theorem ew.setval(h:ew W b ts tt i O)(ht:t<ts.length)(hy:tt[t]?=some y){k:Nat}(hk:k<y.A.length){j:Nat}(hj:j<ts[t].cols.length){gv cv:Nat}(I:∀l:k<y.vs.length,y.vs[k]=.slice (some ⟨gv,0,none⟩) ts[t].cols.length cv)(kd n1:Int)(s:ByteArray):ew (((W.setCell ⟨gv,j*3,none⟩ (.int .i64 kd)).setCell ⟨gv,j*3+1,none⟩ (.int .i64 n1)).setCell ⟨gv,j*3+2,none⟩ (.string s)) b ts (tt.set t { y with A:=im y.A y.A[k].1 j (kd,n1,s) }) i O/\Tn (fun q=>O q≠0) W (((W.setCell ⟨gv,j*3,none⟩ (.int .i64 kd)).setCell ⟨gv,j*3+1,none⟩ (.int .i64 n1)).setCell ⟨gv,j*3+2,none⟩ (.string s)):=by
 have d:=h.ok ht hy;have l:k<y.vs.length:=(by rw[d.n];exact hk);have I:=I l;have P:=d.len _ (z8 hk);have Q:=d.vals k hk l;rw[I,P]at Q;obtain⟨X,F⟩:=qO Q P j hj kd n1 s;have N:O gv=6+2*t:=d.ovs k l gv (by rw[I];rfl)
 have S:Ty W gv:=by
  obtain⟨_,U,J⟩:=Q.block gv rfl;exact⟨U,32,J,rfl⟩
 generalize ((W.setCell ⟨gv,j*3,none⟩ (.int .i64 kd)).setCell ⟨gv,j*3+1,none⟩ (.int .i64 n1)).setCell ⟨gv,j*3+2,none⟩ (.string s)=w at X F ⊢;have B:Chg (fun q=>q=gv) W w:=⟨F.os,F.tape,F.output,F.size,fun q c V=>F.block q c (fun e=>V (by cases e;rfl))⟩;have L:Tn (fun q=>q=gv) W w:=Tn.bq B (fun q _ c=>.inl (c▸S));have J:∀q,q<W.heap.size->q≠gv->w.heap[q]?=W.heap[q]?:=(fun q c V=>B.block q c V);have E:(im y.A y.A[k].1 j (kd,n1,s)).map (·.1)=y.A.map (·.1):=tA _ _ _ _;have g:(im y.A y.A[k].1 j (kd,n1,s)).length=y.A.length:=mS _ _ _ _;have M:ac w 0 99 2 y.rv y.A.length (az y.A y.vs):=d.rows.of (fun q c=>J q (ac.lt d.rows q c).2 (fun e=>by have:=d.orv q c;rw[e,N]at this;omega));refine⟨h.settab ht L (fun q c=>.inr (.inr (.inr (by rw[c];exact N)))) (fun _ _=>rfl) (fun q c=>z9 (h.lt q c) F.size) ⟨?_,d.n.trans g.symm,fun m o p=>?_,d.sep,fun a r=>?_,?_,fun a r=>?_,d.orv,d.ovs⟩ (fun z Y=>by rw[hy]at Y;cases Y;rfl) ?_,L.mono (fun q _ c=>by show O q≠0;rw[c,N];omega)⟩
 ·show ac w 0 99 2 y.rv (im y.A y.A[k].1 j (kd,n1,s)).length (az (im y.A y.A[k].1 j (kd,n1,s)) y.vs);rw[g,xM E];exact M
 ·have o:m<y.A.length:=(by have o:m<(im y.A y.A[k].1 j (kd,n1,s)).length:=o;rwa [g]at o);have p:m<y.vs.length:=p;have e:=Km (x:=y.A[k].1) (j:=j) (v:=(kd,n1,s)) o (by rw[g];exact o);show ac w 0 32 3 y.vs[m] ((im y.A y.A[k].1 j (kd,n1,s))[m]'(by rw[g];exact o)).2.length (cells3 ((im y.A y.A[k].1 j (kd,n1,s))[m]'(by rw[g];exact o)).2);rw[e];by_cases G:m=k
  ·subst G;rw[zv rfl];show ac w 0 32 3 y.vs[m] (y.A[m].2.set j (kd,n1,s)).length (cells3 (y.A[m].2.set j (kd,n1,s)));rw[u7,P,I];exact X
  rw[zq (fun Z=>G (rA d.srt o hk Z))];refine(d.vals m o p).of (fun q c=>J q (ac.lt (d.vals m o p) q c).2 (fun e3=>?_));subst e3;exact d.sep m k p l G q c (by rw[I];rfl)
 ·have r:a∈im y.A y.A[k].1 j (kd,n1,s):=r;unfold im at r;obtain⟨H,u,rfl⟩:=List.mem_map.1 r;by_cases e:H.1=y.A[k].1
  ·rw[zv e];show(H.2.set j _).length=_;rw[u7];exact d.len H u
  rw[zq e];exact d.len H u
 ·have:=d.srt
  show(im y.A y.A[k].1 j (kd,n1,s)).Pairwise _;rw[<-List.pairwise_map (f:=fun a:R1=>a.1) (R:=fun a b=>a<b)]at this ⊢;rw[E];exact this
 ·have r:a∈im y.A y.A[k].1 j (kd,n1,s):=r;unfold im at r;obtain⟨H,u,rfl⟩:=List.mem_map.1 r
  have:=d.rng H u
  by_cases e:H.1=y.A[k].1
  ·rw[zv e];exact this
  rw[zq e];exact this
 have e:=tU (x:={ y with A:=im y.A y.A[k].1 j (kd,n1,s) }) hy rfl;rw[e];exact h.outer.of (fun q c=>J q (ac.lt h.outer q c).2 (fun e=>by have:=h.o3 q c;rw[e,N]at this;omega))
theorem Hi{tt:List RT}{t:Nat}{y:RT}(hy:tt[t]?=some y):tt.set t y=tt:=by
 refine ug (fun k=>?_);rw[List.getElem?_set];by_cases e:t=k
 ·subst e;rw[zv rfl,zv (List.getElem?_eq_some_iff.1 hy).1,hy]
 rw[zq e]
theorem Kl(h:ew W b ts tt i O)(ht:t<ts.length)(hy:tt[t]?=some y)(hl:y.A.length<=100000)(hc0:0<ts[t].cols.length)(x:Int)(z:ByteArray)(kd n1:Int)(s:ByteArray)(hs:s.size<=maxLen):Calls prog 42 #[.pointer (some ⟨b,0,none⟩),.int .i64 (t:Int),.int .i64 x,.string z,.agg #[.int .i64 kd,.int .i64 n1,.string s]] W fun e d=>e=.returned (.int .i64 (jt ts[t] y.A x z (kd,n1,s)))/\∃x1,ew d b ts (tt.set t x1) i O/\x1.nx=y.nx/\x1.A=(if jt ts[t] y.A x z (kd,n1,s)=0 then im y.A x (gx ts[t].cols z).toNat (kd,n1,s)else y.A)/\Tn (fun q=>O q≠0) W d:=by
 have r:=aD W (.cells #[.int .i64 kd,.int .i64 n1,.string s] 32);have k1:=z7 W (.cells #[.int .i64 kd,.int .i64 n1,.string s] 32);obtain⟨l,M⟩:=ag (W.alloc (.cells #[.int .i64 kd,.int .i64 n1,.string s] 32));obtain⟨B,hB⟩:=ag W.heap.size;rw[M]at r k1;rw[hB]at k1;have Y:=h.later r;have N:=Hi hy;have o:=rF Y ht hy hl x;have HW:=aa (ab M hB);have H1:=aa (ab Y (ab k1 (ab r N)));have a5:=(h.ok ht hy).srt
 have hA:y.A.any (fun a=>decide (a.1=x))=decide (¬ Ab y.A x=-1):=by
  rcases pQ a5 x with ⟨P,X⟩ | ⟨k,hk,P,X⟩
  ·rw[P,List.any_eq_false.2 (fun a ha=>by simp[X a ha])];rfl
  rw[P,List.any_eq_true.2 ⟨y.A[k],z8 hk,by simp[X]⟩]
  symm;rw[decide_eq_true_iff];omega
 unfold jt;rw[hA];rcases pQ a5 x with ⟨P,X⟩ | ⟨k,hk,P,X⟩
 ·rw[P]at o ⊢;simp only[not_true_eq_false,decide_false,Bool.false_eq_true,if_false];clear r k1 M hB Y hA P X h hy N;go_enter func42,ntmps42;go_upto_region 1 with fail;rw[HW.1,HW.2];go_wp2_with (go_at_call 75;refine o.mono ?_;rintro e w2⟨rfl,hw⟩;subst w2;clear o);go_ret;exact⟨rfl,y,by rw[H1.2.2.2];exact H1.1,rfl,rfl,Tn.of_below H1.2.2.1⟩
 rw[P]at o ⊢;have a6:decide (¬ (k:Int)=-1)=true:=xd (by omega);rw[a6];simp only[reduceIte];obtain⟨⟨gs,cs,go,co,gn,cn,pc,kc,pd,b7⟩,_,o1,_,_,_,_,c⟩:=Y.reads ht hy;obtain⟨p,u⟩:=ag ts.length;have b8:(t:Int)<(p:Int):=(by omega);have b9:t<p:=(by omega);obtain⟨T0,v⟩:=ag (ts[t]'ht);have Z:=aa (ab v (ab ht (ab hy u)));simp only[v]at c hc0 ⊢;have r0:=c l (zb _ _);have f:=bU (x:=z) r0.rt;have f7:l.cell? ⟨b,0,none⟩=some (.slice (some ⟨gs,0,none⟩) p cs):=(by rw[<-u];exact r0.b0);have f3:=r0.s0;have f4:=r0.s1;have f5:=r0.s2;have f6:=r0.s3;have f2:=r0.sl;have xl:=r0.bl;have L:Hid (∀w,Below l.heap.size l w->ew w b ts tt i O/\w.heap[B]?=some (.cells #[.int .i64 kd,.int .i64 n1,.string s] 32)/\Below W.heap.size W w):=aa (fun w E=>⟨Y.later E,aE E k1,aB r E⟩);have c0:¬ (k:Int)<0:=(by omega);rcases gE T0.cols z with a0|⟨j,hj,a0⟩
 ·rw[a0]at f ⊢;simp only[show ¬ (0:Int)<=-1 by decide,if_false,show ¬ (3:Int)=0 by decide];clear r k1 M hB Y hA P X a6 u v h hy N o1 c r0;go_enter func42,ntmps42;go_upto_region 1 with fail;rw[HW.1,HW.2]
  go_wp2_with (first|(go_at_call 75;refine o.mono ?_;rintro e w2⟨rfl,hw⟩;subst w2;clear o)|(go_at_call 78;refine f.mono ?_;rintro e w3⟨rfl,F⟩;have H3:=L.out w3 F;clear f))
  go_ret;exact⟨rfl,y,by rw[H1.2.2.2];exact H3.1,rfl,rfl,Tn.of_below H3.2.2⟩
 rw[a0]at f ⊢
 have a7:(T0.cols[(j:Int).toNat]?).getD ⟨e0,0,false,e0⟩=T0.cols[j]:=by
  rw[v7,z6 hj];rfl
 simp only[show(0:Int)<=(j:Int)from Int.natCast_nonneg j,if_true,a7];have c1:¬ (j:Int)<0:=(by omega);obtain⟨H,a1⟩:=ag (T0.cols[j]);obtain⟨gc,oc,Q,_,_⟩:=fu.col r0.rd hj;have Q:pc=some ⟨gc,oc,none⟩:=Q
 have HC:Hid (∀w,Below l.heap.size l w->w.cell? ⟨gc,oc+j*4,none⟩=some (.string H.nm)/\w.cell? ⟨gc,oc+j*4+1,none⟩=some (.int .i64 H.kd)/\w.cell? ⟨gc,oc+j*4+2,none⟩=some (.bool H.mu)/\w.cell? ⟨gc,oc+j*4+3,none⟩=some (.string H.tgt)):=aa (fun w E=>by
  obtain⟨b4,b5,e,_,h2⟩:=fu.col (c w E).rd hj;have e:pc=some ⟨b4,b5,none⟩:=e;rw[Q]at e;cases e;rw[a1]at h2;exact h2)
 have I:Hid (∀w,Below l.heap.size l w->w.cell? ⟨gs,t*4+1,none⟩=some (.slice pc T0.cols.length kc)/\w.cell? ⟨b,0,none⟩=some (.slice (some ⟨gs,0,none⟩) p cs)/\b<w.heap.size/\gs<w.heap.size):=aa (fun w E=>by
  have k:=c w E;exact⟨k.s1,by rw[<-u];exact k.b0,k.bl,k.sl⟩)
 obtain⟨nc,a8⟩:=ag T0.cols.length;have g:=(fun w=>iD kd n1 s H w hs);rw[a1];rw[Q]at I f4 f;rw[a8]at I f4 f;have c4:(j:Int)<(nc:Int):=(by omega);have HN:=aa (ab a8 (ab a1 a0));clear r k1 M hB hA a6 a7 a1 Q;cases a2:lx H.kd (kd,n1,s)
 ·simp only[Bool.false_eq_true,if_false,show ¬ (4:Int)=0 by decide];rw[a2]at g;clear a2 P X Y h hy N o1 c r0 u v;go_enter func42,ntmps42;go_upto_region 1 with fail;rw[HW.1,HW.2]
  go_upto_region 7 with (first|(go_at_call 75;(with_reducible refine o.mono ?_);rintro e w2⟨rfl,hw⟩;subst w2;clear o)|(go_at_call 78;(with_reducible refine f.mono ?_);rintro e w3⟨rfl,F⟩;have H3:=aa F;clear f F))
  refine Par.ae 12 [.agg #[.int .i64 kd,.int .i64 n1,.string s],.pointer (some ⟨b,0,none⟩),.pointer (some ⟨b,0,none⟩),.pointer (some ⟨b,0,none⟩),.slice (some ⟨gs,0,none⟩) p cs,.int .i64 (t:Int),.pointer (some ⟨gs,t*4,none⟩),.pointer (some ⟨gs,t*4+1,none⟩),.slice (some ⟨gc,oc,none⟩) nc kc,.int .i64 (j:Int),.pointer (some ⟨gc,oc+j*4,none⟩),.agg #[.string H.nm,.int .i64 H.kd,.bool H.mu,.string H.tgt]] (fun w=>Below l.heap.size l w) ?A1 ?hm1 ?hB1 ?hA1 (aB H3.out (aF w3)) ?hop1 ?hT1
  case hm1=>kernel_rfl
  case hB1=>kernel_rfl
  case hA1 =>
   simp only[Par.am,Par.ai,Act.put,cy,db,bt,cp,dc,da,bu,eg,ed];rfl
  case hop1 =>
   simp only[ce,ze,Par.ah,yu];and_intros<;>intro d c<;>have R:=aa c
   have U:=aA (L.out d c).2.1 0;have x1:=aA (L.out d c).2.1 1;have x2:=aA (L.out d c).2.1 2;rotate_left 2;have zl:=(I.out d c).2.2.1;rotate_left;have zl:=(I.out d c).2.2.1;rotate_left;have U:=(I.out d c).2.1;rotate_left 3;have zl:=(I.out d c).2.2.2;rotate_left;have U:=(I.out d c).1;rotate_left 3;have U:=(HC.out d c).1;have x1:=(HC.out d c).2.1;have x2:=(HC.out d c).2.2.1;have x3:=(HC.out d c).2.2.2;rotate_left
   all_goals(clear c;simp only[Par.Gives];go_simp;all_goals exact R.out)
  intro d c;simp only[cw,ym];have R:=aa c;have g:=g d;clear c;go_wp2_with (go_at_call 71;refine g.mono ?_;rintro e w4⟨rfl,V⟩;have H4:=aa (L.out w4 (R.out.trans (V.mono R.out.size)));clear g V);go_ret;exact⟨rfl,y,by rw[H1.2.2.2];exact H4.1,rfl,rfl,Tn.of_below H4.2.2⟩
 simp only[if_true];have G:=Y.ok ht hy;have a9:k<y.vs.length:=(by rw[G.n];exact hk);have a3:=G.len _ (z8 hk);rw[v]at a3;have J:=G.vals k hk a9;rw[a3]at J;obtain⟨gv,cv,r5,_,_⟩:=J.slice hc0;rw[r5]at J;obtain⟨gr,cr,r1,_,_⟩:=G.rows.slice (by omega);have a4:=G.rows;rw[r1]at a4;have r4:=a4.cell (dI G.n hk).2;rw[r5]at r4;have r2:=(ac.lt a4 gr rfl).2;have o4:l.cell? ⟨b,1,none⟩=some (.slice (some ⟨go,0,none⟩) p co):=(by rw[<-u];exact r0.b1);have o3:l.cell? ⟨go,t,none⟩=some y.rv:=r0.o0;have o2:go<l.heap.size:=r0.ol;have HV:Hid (∀c5:k<y.vs.length,y.vs[k]=.slice (some ⟨gv,0,none⟩) (ts[t]'ht).cols.length cv):=aa (fun _=>by rw[v];exact r5);obtain⟨na,b2⟩:=ag y.A.length;have c6:(k:Int)<(na:Int):=by omega
 have HO:Hid (∀w,Below l.heap.size l w->w.cell? ⟨b,1,none⟩=some (.slice (some ⟨go,0,none⟩) p co)/\w.cell? ⟨go,t,none⟩=some (.slice (some ⟨gr,0,none⟩) na cr)/\w.cell? ⟨gr,k*2+1,none⟩=some (.slice (some ⟨gv,0,none⟩) nc cv)/\b<w.heap.size/\go<w.heap.size/\gr<w.heap.size/\ac w 0 32 3 (.slice (some ⟨gv,0,none⟩) nc cv) nc (cells3 y.A[k].2)):=aa (fun w E=>by
  have k0:=za (w:=l) (a:=⟨b,1,none⟩) (E.block b xl);have k2:=za (w:=l) (a:=⟨go,t,none⟩) (E.block go o2);have k3:=za (w:=l) (a:=⟨gr,k*2+1,none⟩) (E.block gr r2);rw[r1,b2]at o3;rw[HN.1]at r4 J;exact⟨k0.trans o4,k2.trans o3,k3.trans r4,z9 xl E.size,z9 o2 E.size,z9 r2 E.size,J.later E⟩)
 have b3:(cells3 y.A[k].2).length=nc*3:=(by rw[dR,a3,HN.1]);have H0:Hid ((cells3 y.A[k].2).length=nc*3):=aa b3;have HE:=aa X;rw[a2]at g;clear a2 P X r1 r2 r4 r5 J a4 a3 a9 G o1 o2 o3 o4 b3 b2 Y h N c r0 u v;go_enter func42,ntmps42;go_upto_region 1 with fail;rw[HW.1,HW.2]
 go_upto_region 7 with (first|(go_at_call 75;(with_reducible refine o.mono ?_);rintro e w2⟨rfl,hw⟩;subst w2;clear o)|(go_at_call 78;(with_reducible refine f.mono ?_);rintro e w3⟨rfl,F⟩;have H3:=aa F;clear f F))
 refine Par.ae 12 [.agg #[.int .i64 kd,.int .i64 n1,.string s],.pointer (some ⟨b,0,none⟩),.pointer (some ⟨b,0,none⟩),.pointer (some ⟨b,0,none⟩),.slice (some ⟨gs,0,none⟩) p cs,.int .i64 (t:Int),.pointer (some ⟨gs,t*4,none⟩),.pointer (some ⟨gs,t*4+1,none⟩),.slice (some ⟨gc,oc,none⟩) nc kc,.int .i64 (j:Int),.pointer (some ⟨gc,oc+j*4,none⟩),.agg #[.string H.nm,.int .i64 H.kd,.bool H.mu,.string H.tgt]] (fun w=>Below l.heap.size l w) ?A2 ?hm2 ?hB2 ?hA2 (aB H3.out (aF w3)) ?hop2 ?hT2
 case hm2=>kernel_rfl
 case hB2=>kernel_rfl
 case hA2 =>
  simp only[Par.am,Par.ai,Act.put,cy,db,bt,cp,dc,da,bu,eg,ed];rfl
 case hop2 =>
  simp only[ce,ze,Par.ah,yu];and_intros<;>intro d c<;>have R:=aa c
  have U:=aA (L.out d c).2.1 0;have x1:=aA (L.out d c).2.1 1;have x2:=aA (L.out d c).2.1 2;rotate_left 2;have zl:=(I.out d c).2.2.1;rotate_left;have zl:=(I.out d c).2.2.1;rotate_left;have U:=(I.out d c).2.1;rotate_left 3;have zl:=(I.out d c).2.2.2;rotate_left;have U:=(I.out d c).1;rotate_left 3;have U:=(HC.out d c).1;have x1:=(HC.out d c).2.1;have x2:=(HC.out d c).2.2.1;have x3:=(HC.out d c).2.2.2;rotate_left
  all_goals(clear c;simp only[Par.Gives];go_simp;all_goals exact R.out)
 intro d c;simp only[cw,ym];have R:=aa c;have g:=g d;clear c;go_upto_region 9 with (go_at_call 71;(with_reducible refine g.mono ?_);rintro e w4⟨rfl,V⟩;have H4:=aa (R.out.trans (V.mono R.out.size));clear g V);refine Par.ae 14 [.pointer (some ⟨b,0,none⟩),.pointer (some ⟨b,0,none⟩),.pointer (some ⟨b,1,none⟩),.slice (some ⟨go,0,none⟩) p co,.int .i64 (t:Int),.pointer (some ⟨go,t,none⟩),.slice (some ⟨gr,0,none⟩) na cr,.int .i64 (k:Int),.pointer (some ⟨gr,k*2,none⟩),.pointer (some ⟨gr,k*2+1,none⟩),.slice (some ⟨gv,0,none⟩) nc cv,.int .i64 (j:Int),.agg #[.int .i64 kd,.int .i64 n1,.string s],.pointer (some ⟨gv,j*3,none⟩)] (fun w=>Below l.heap.size l w) ?A3 ?hm3 ?hB3 ?hA3 (aB H4.out (aF w4)) ?hop3 ?hT3
 case hm3=>kernel_rfl
 case hB3=>kernel_rfl
 case hA3 =>
  simp only[Par.am,Par.ai,Act.put,cy,db,bt,cp,dc,da,bu,eg,ed];rfl
 case hop3 =>
  simp only[ce,ze,Par.ah,yu];and_intros<;>intro d c<;>have R:=aa c
  rotate_left;have zl:=(I.out d c).2.2.1;rotate_left;have zl:=(I.out d c).2.2.1;rotate_left;have U:=(HO.out d c).1;rotate_left 3;have U:=(HO.out d c).2.1;rotate_left 3;have zl:=(HO.out d c).2.2.2.2.2.1;rotate_left;have U:=(HO.out d c).2.2.1;rotate_left 2;have U:=aA (L.out d c).2.1 0;have x1:=aA (L.out d c).2.1 1;have x2:=aA (L.out d c).2.1 2;rotate_left 2
  all_goals(clear c;simp only[Par.Gives];go_simp;all_goals exact R.out)
 intro d c;simp only[cw,ym];have b6:=aa c;obtain⟨_,_,_,_,_,_,q7⟩:=HO.out _ c;have y0:=q7.cell (j:=j*3) (z6 (by rw[H0.out];omega));have y1:=q7.cell (j:=j*3+1) (z6 (by rw[H0.out];omega));have y2:=q7.cell (j:=j*3+2) (z6 (by rw[H0.out];omega));have yf:=(fun m=>q7.frozenAt m);have yl:=(ac.lt q7 gv rfl).2;clear c q7;go_wp2_with fail;go_ret;obtain⟨d1,_,d3⟩:=L.out _ b6.out;obtain⟨z1,z2⟩:=d1.setval Z.2.1 Z.2.2.1 hk (j:=j) (show j<(ts[t]'Z.2.1).cols.length by rw[Z.1,HN.1];omega) HV.out kd n1 s;rw[HE.out]at z1;refine⟨rfl,_,z1,rfl,?_,(Tn.of_below (S:=fun _=>False) d3).trans z2 (fun _ _ h=>h.elim) (fun _ _ h=>h)⟩;rw[v7]
end
section
variable {W w:World}{b:Nat}{ts:List T}{tt:List RT}{i:NI}{O:Nat->Nat}{t:Nat}{y:RT}
theorem xN{fs:List (Value×Value)}{ts:List T}(h:fs.length=ts.length):(dx fs ts).length=ts.length*4:=by
 unfold dx
 induction fs generalizing ts with
 | nil=>cases ts with
  | nil=>rfl
  | cons t ts=>cases h
 | cons f fs ih =>
  cases ts with
  | nil=>cases h
  | cons t ts =>
   simp only[List.zip_cons_cons,vh,y8,xe,vp];rw[ih (by simpa using h)];omega
theorem ew.ut(h:ew W b ts tt i O):iu W i.sv ts:=by
 obtain⟨p,d,e,l,m⟩:=h.form.isslice;refine⟨p,d,dx i.fs ts,e,l,m,fun n=>?_,xN h.fn,fun j a=>?_⟩
 ·obtain⟨g,c,k,_,_⟩:=h.form.slice n;rw[e]at k;cases k;have f:=h.form;rw[e]at f;exact⟨g,0,rfl,(ac.lt f g rfl).2,fun j u a=>by rw[xq];exact f.cell a⟩
 obtain⟨c0,c1,c2,c3⟩:=pK h.fn a;exact⟨_,_,c0,c1,c2,c3,h.rd j a (by rw[h.fn];exact a)⟩
end
theorem Ku(u:T3)(k n:Int)(s:ByteArray):AF u.1 u.2.1 u.2.2 k n s=decide (u=(k,n,s)):=by
 obtain⟨a,b,c⟩:=u;unfold AF
 simp
def jg(A:List R1)(k:Nat)(v:T3):Option Int:=(A.find? fun a=>decide (a.2.getD k z3=v)).map (·.1)
theorem nL{A:List R1}{k:Nat}{v:T3}(h:∀j (b:j<A.length),A[j].2.getD k z3≠v):jg A k v=none:=by
 unfold jg
 rw[List.find?_eq_none.2 (fun a c=>by
  obtain⟨j,b,rfl⟩:=xz c;simpa using h j b)]
 rfl
theorem nM{A:List R1}{k:Nat}{v:T3}{j:Nat}(hj:j<A.length)(h1:A[j].2.getD k z3=v)(h:∀m (b:m<A.length),m<j->A[m].2.getD k z3≠v):jg A k v=some A[j].1:=by
 unfold jg
 have e:A.find? (fun a=>decide (a.2.getD k z3=v))=some A[j]:=by
  rw[List.find?_eq_some_iff_getElem];exact⟨by simpa using h1,j,hj,rfl,fun m b=>by simpa using h m (by omega) b⟩
 rw[e];rfl
theorem jL{key:ByteArray}(h:key≠e0):key.toList.isEmpty=false:=by
 cases a:key.toList.isEmpty with
 | false=>rfl
 | true =>
  rw[List.isEmpty_iff,wu]at a;exact absurd (dQ (a.trans rfl)) h
def bg(ts:List T)(As:List (List R1))(x:ByteArray)(v:T3):Option Int:=
 match ts[(ky ts x).toNat]?,As[(ky ts x).toNat]? with
 | some t,some A=>if ky ts x<0 then none else if t.key=e0 then none else if v.1=0 then none else jg A (gx t.cols t.key).toNat v
 | _,_=>none
section
variable {W:World}{b:Nat}{ts:List T}{tt:List RT}{i:NI}{O:Nat->Nat}
theorem kD(h:ew W b ts tt i O)(x:ByteArray)(kd n1:Int)(s:ByteArray)(m:ky ts x<0∨∃t,∃q:t<ts.length,ky ts x=(t:Int)/\(ts[t].key=e0∨kd=0)):Calls prog 87 #[.pointer (some ⟨b,0,none⟩),.string x,.agg #[.int .i64 kd,.int .i64 n1,.string s]] W fun e J=>e=.returned (.tuple #[.int .i64 0,.bool false])/\Below W.heap.size W J:=by
 have c:=aD W (.cells #[.int .i64 kd,.int .i64 n1,.string s] 32);have n:=z7 W (.cells #[.int .i64 kd,.int .i64 n1,.string s] 32);obtain⟨w,g⟩:=ag (W.alloc (.cells #[.int .i64 kd,.int .i64 n1,.string s] 32));obtain⟨B,r⟩:=ag W.heap.size;rw[g]at c n;rw[r]at n;have d:=h.later c;have a:=cJ (x:=x) d.ut;have L:w.cell? ⟨b,0,none⟩=some i.sv:=aA d.box 0;have U:=aC d.box;have kc:=aA n 0;have V:=aC n;have f:=aa (ab g (ab r c));rcases m with m|⟨t,q,A,z⟩
 ·obtain⟨j,H⟩:=ag (ky ts x);rw[H]at a m;clear h d c n g r H;go_enter func87,ntmps87;go_upto_region 1 with fail;rw[f.1,f.2.1];go_wp2_with (go_at_call 36;refine a.mono ?_;rintro e u⟨rfl,I⟩;subst u;clear a);go_ret2;exact⟨rfl,f.2.1▸f.2.2⟩
 obtain⟨y,E,_⟩:=d.at q;obtain⟨⟨gs,cs,go,co,gn,cn,pc,M,pd,N⟩,o,_,_,_,_,_,p⟩:=d.reads q E;have p:=p w (zb _ _);obtain⟨v,l⟩:=ag ts.length;have P:(t:Int)<(v:Int):=(by omega);have Q:t<v:=(by omega);have R:¬ (t:Int)<0:=(by omega);have o:i.sv=.slice (some ⟨gs,0,none⟩) ts.length cs:=o;rw[o,l]at L;rw[A]at a;rw[o,l]at a;have s2:w.cell? ⟨gs,t*4+2,none⟩=some (.string (ts[t]'q).key):=p.s2;have sl:gs<w.heap.size:=p.sl;obtain⟨key,k⟩:=ag ((ts[t]'q).key);rw[k]at s2 z;by_cases F:key=e0
 ·subst F;clear h d c n g r A o E p l k z;go_enter func87,ntmps87;go_upto_region 1 with fail;rw[f.1,f.2.1];go_wp2_with (go_at_call 36;refine a.mono ?_;rintro e u⟨rfl,I⟩;subst u;clear a);go_ret2;exact⟨rfl,f.2.1▸f.2.2⟩
 have G:kd=0:=by
  rcases z with d|d
  ·exact absurd d F
  exact d
 subst G;have S:=jL F;clear h d c n g r A o E p l k z;go_enter func87,ntmps87;go_upto_region 1 with fail;rw[f.1,f.2.1];go_wp2_with (go_at_call 36;refine a.mono ?_;rintro e u⟨rfl,I⟩;subst u;clear a);go_ret2;exact⟨rfl,f.2.1▸f.2.2⟩
theorem xO(h:ew W b ts tt i O){t:Nat}(ht:t<ts.length){y:RT}(hy:tt[t]?=some y){x:ByteArray}(e1:ky ts x=(t:Int))(hk0:ts[t].key≠e0){c:Nat}(hc:c<ts[t].cols.length)(hcx:gx ts[t].cols ts[t].key=(c:Int))(kd n1:Int)(s:ByteArray)(hkd:kd≠0)(hAl:y.A.length<=100000)(hc1:ts[t].cols.length<=1000):Calls prog 87 #[.pointer (some ⟨b,0,none⟩),.string x,.agg #[.int .i64 kd,.int .i64 n1,.string s]] W fun e d=>e=.returned (.tuple #[.int .i64 ((jg y.A c (kd,n1,s)).getD 0),.bool (jg y.A c (kd,n1,s)).isSome])/\Below W.heap.size W d:=by
 have L:=aD W (.cells #[.int .i64 kd,.int .i64 n1,.string s] 32);have k1:=z7 W (.cells #[.int .i64 kd,.int .i64 n1,.string s] 32);obtain⟨z,X⟩:=ag (W.alloc (.cells #[.int .i64 kd,.int .i64 n1,.string s] 32));obtain⟨B,I⟩:=ag W.heap.size;rw[X]at L k1;rw[I]at k1;have h1:=h.later L;have q:=cJ (x:=x) h1.ut;have kc:=aA k1 0;have kl:=aC k1;have o:=h1.ok ht hy;obtain⟨⟨gs,cs,go,co,gn,cn,pc,Y,pd,Z⟩,e2,_,_,_,_,_,a⟩:=h1.reads ht hy;obtain⟨r,a0⟩:=ag ts.length;have c1:(t:Int)<(r:Int):=(by omega);have c4:t<r:=(by omega);have c5:¬ (t:Int)<0:=(by omega);have e2:i.sv=.slice (some ⟨gs,0,none⟩) ts.length cs:=e2;rw[e1,e2,a0]at q;obtain⟨T0,a1⟩:=ag (ts[t]'ht);simp only[a1]at a hk0 hc hcx hc1;have b5:=jL hk0;have E:=o.len;rw[a1]at E;obtain⟨nc,F⟩:=ag T0.cols.length;obtain⟨nd,a2⟩:=ag T0.deps.length;obtain⟨na,M⟩:=ag y.A.length;have b9:(na:Int)<=100000:=(by omega);have c6:(c:Int)<(nc:Int):=(by omega);have b6:c<nc:=(by omega);obtain⟨nm,a3⟩:=ag T0.nm;obtain⟨key,g⟩:=ag T0.key;obtain⟨pr,cr,N,_,_⟩:=o.rows.isslice;rw[M]at N
 have f:Hid (∀w,Below z.heap.size z w->w.cell? ⟨b,0,none⟩=some (.slice (some ⟨gs,0,none⟩) r cs)/\w.cell? ⟨b,1,none⟩=some (.slice (some ⟨go,0,none⟩) r co)/\w.cell? ⟨gs,t*4,none⟩=some (.string nm)/\w.cell? ⟨gs,t*4+1,none⟩=some (.slice pc nc Y)/\w.cell? ⟨gs,t*4+2,none⟩=some (.string key)/\w.cell? ⟨gs,t*4+3,none⟩=some (.slice pd nd Z)/\w.cell? ⟨go,t,none⟩=some (.slice pr na cr)/\(b<w.heap.size/\gs<w.heap.size/\go<w.heap.size)/\w.heap[B]?=some (.cells #[.int .i64 kd,.int .i64 n1,.string s] 32)):=aa (fun w P=>by
  have k:=a w P;rw[<-a0,<-a3,<-g,<-F,<-a2,<-N];exact⟨k.b0,k.b1,k.s0,k.s1,k.s2,k.s3,k.o0,⟨k.bl,k.sl,k.ol⟩,aE P k1⟩)
 have a8:Hid (∀w,Below z.heap.size z w->Calls prog 78 #[.agg #[.string nm,.slice pc nc Y,.string key,.slice pd nd Z],.string key] w fun e d=>e=.returned (.int .i64 (c:Int))/\Below w.heap.size w d):=aa (fun w P=>by
  have:=bU (x:=key) (a w P).rt
  rw[a3,F,g,a2,<-g,hcx,g]at this;exact this)
 have a9:Hid (∀k (hk:k<y.A.length),∃gr gv cv,pr=some ⟨gr,0,none⟩/\∀w,Below z.heap.size z w->w.cell? ⟨gr,k*2,none⟩=some (.int .i64 y.A[k].1)/\w.cell? ⟨gr,k*2+1,none⟩=some (.slice (some ⟨gv,0,none⟩) nc cv)/\ac w 0 32 3 (.slice (some ⟨gv,0,none⟩) nc cv) nc (cells3 y.A[k].2)/\gr<w.heap.size):=aa (fun k hk=>by
  have b7:k<y.vs.length:=(by rw[o.n];exact hk);have Q:=o.vals k hk b7;rw[E _ (z8 hk),F]at Q;obtain⟨gv,cv,r5,_,_⟩:=Q.slice (by omega);rw[r5]at Q;obtain⟨gr,c7,r1,_,_⟩:=o.rows.slice (by omega);have b2:=o.rows;rw[r1]at b2;rw[N,M]at r1;cases r1;obtain⟨q1,q2⟩:=dI o.n hk;rw[r5]at q2;refine⟨gr,gv,cv,rfl,fun w P=>?_⟩;have a4:=b2.later P;exact⟨a4.cell q1,a4.cell q2,Q.later P,(ac.lt a4 gr rfl).2⟩)
 have HW:=aa (ab X (ab I L));have HN:=aa (ab M (ab E (ab F hkd)));rw[g]at b5;have c0:(kd==0)=false:=(by simpa using hkd);obtain⟨J,x1,_,_,x2,_,_,⟨xl,xs,_⟩,_⟩:=f.out z (zb _ _);clear h h1 L k1 X I e1 e2 hy a a0 g a3 F a2 M o N a1 hk0 E hcx hAl hc1 hc ht;go_enter func87,ntmps87;go_upto_region 1 with fail;rw[HW.1,HW.2.1];go_upto_region 4 with (go_at_call 36;(with_reducible refine q.mono ?_);rintro e w2⟨rfl,hw⟩;subst w2;clear q);clear J x1 x2 xl xs kc kl;refine Par.ae 15 [.pointer (some ⟨b,0,none⟩),.pointer (some ⟨b,0,none⟩),.pointer (some ⟨b,0,none⟩),.slice (some ⟨gs,0,none⟩) r cs,.int .i64 (t:Int),.pointer (some ⟨gs,t*4,none⟩),.agg #[.string nm,.slice pc nc Y,.string key,.slice pd nd Z],.pointer (some ⟨b,0,none⟩),.pointer (some ⟨b,0,none⟩),.pointer (some ⟨b,0,none⟩),.slice (some ⟨gs,0,none⟩) r cs,.int .i64 (t:Int),.pointer (some ⟨gs,t*4,none⟩),.pointer (some ⟨gs,t*4+2,none⟩),.string key] (fun w=>Below z.heap.size z w) ?A1 ?hm1 ?hB1 ?hA1 (aF z) ?hop1 ?hT1
 case hm1=>kernel_rfl
 case hB1=>kernel_rfl
 case hA1 =>
  simp only[Par.am,Par.ai,Act.put,cy,db,bt,cp,dc,da,bu,eg,ed];rfl
 case hop1 =>
  simp only[ce,ze,Par.ah,yu];and_intros<;>intro d a<;>have HR:=aa a
  rotate_left;have zl:=(f.out d a).2.2.2.2.2.2.2.1.1;rotate_left;have zl:=(f.out d a).2.2.2.2.2.2.2.1.1;rotate_left;have J:=(f.out d a).1;rotate_left 3;have J:=(f.out d a).2.2.1;have x1:=(f.out d a).2.2.2.1;have x2:=(f.out d a).2.2.2.2.1;have x3:=(f.out d a).2.2.2.2.2.1;rotate_left 2;have zl:=(f.out d a).2.2.2.2.2.2.2.1.1;rotate_left;have zl:=(f.out d a).2.2.2.2.2.2.2.1.1;rotate_left;have J:=(f.out d a).1;rotate_left 3;have zl:=(f.out d a).2.2.2.2.2.2.2.1.2.1;rotate_left;have J:=(f.out d a).2.2.2.2.1;rotate_left
  all_goals(clear a;simp only[Par.Gives];go_simp;all_goals exact HR.out)
 intro d a;simp only[cw,ym];have HR:=aa a;have S:=a8.out d a;clear a;go_upto_region 5 with (go_at_call 78;(with_reducible refine S.mono ?_);rintro e w3⟨rfl,b3⟩;have H3:=aa (HR.out.trans (b3.mono HR.out.size));clear S b3);go_wp2_with fail;go_loopg [10] (na+1) (fun gh jv w=>∃(j:Nat),jv=.int .i64 (j:Int)/\j<=na/\na+1<=j+gh/\(∀m (hm:m<y.A.length),m<j->y.A[m].2.getD c z3≠(kd,n1,s))/\Below z.heap.size z w)
 case atStart=>exact⟨0,rfl,zh _,by omega,fun m _ h=>absurd h (yo m),H3.out⟩
 obtain⟨j,rfl,hj,hg,hx,I⟩:=hrel;obtain⟨_,x1,_,_,_,_,x2,⟨xl,_,xo⟩,_⟩:=f.out wr I;by_cases b8:j<na
 ·have a5:j<y.A.length:=(by rw[HN.1];exact b8);have c8:(j:Int)<(na:Int):=(by omega);obtain⟨gr,gv,cv,rfl,U⟩:=a9.out j a5;have hl:=HN.2.1 _ (z8 a5);rw[HN.2.2.1]at hl;have a6:c<y.A[j].2.length:=(by rw[hl];exact b6);obtain⟨u,hu⟩:=ag (y.A[j].2[c]);obtain⟨q1,q2,q3⟩:=dG y.A[j].2 c a6;rw[hu]at q1 q2 q3;obtain⟨aj,a7⟩:=ag (y.A[j].1)
  have p:Hid (∀w,Below wr.heap.size wr w->Below z.heap.size z w/\(w.cell? ⟨gr,j*2+1,none⟩=some (.slice (some ⟨gv,0,none⟩) nc cv)/\gr<w.heap.size)/\(w.cell? ⟨gv,c*3,none⟩=some (.int .i64 u.1)/\w.cell? ⟨gv,c*3+1,none⟩=some (.int .i64 u.2.1)/\w.cell? ⟨gv,c*3+2,none⟩=some (.string u.2.2))/\w.cell? ⟨gr,j*2,none⟩=some (.int .i64 aj)):=aa (fun w P=>by
   have hw:=aB I P;obtain⟨r1,r2,r3,r4⟩:=U w hw;rw[a7]at r1;exact⟨hw,⟨r2,r4⟩,⟨r3.cell q1,r3.cell q2,r3.cell q3⟩,r1⟩)
  have l:=(fun w=>kX u.1 u.2.1 u.2.2 kd n1 s w);have b4:y.A[j].2.getD c z3=u:=(by rw[zu,z6 a6,hu];rfl);have V:=aa (ab hx (ab I (ab b4 a7)));clear hx I U hl a6 hu q1 q2 q3 a7 b4;go_upto_region 8 with fail;clear x1 x2 xl xo;refine Par.ae 15 [.pointer (some ⟨b,0,none⟩),.pointer (some ⟨b,0,none⟩),.pointer (some ⟨b,1,none⟩),.slice (some ⟨go,0,none⟩) r co,.int .i64 (t:Int),.pointer (some ⟨go,t,none⟩),.slice (some ⟨gr,0,none⟩) na cr,.int .i64 (j:Int),.pointer (some ⟨gr,j*2,none⟩),.pointer (some ⟨gr,j*2+1,none⟩),.slice (some ⟨gv,0,none⟩) nc cv,.int .i64 (c:Int),.pointer (some ⟨gv,c*3,none⟩),.agg #[.int .i64 u.1,.int .i64 u.2.1,.string u.2.2],.agg #[.int .i64 kd,.int .i64 n1,.string s]] (fun w=>Below wr.heap.size wr w) ?A2 ?hm2 ?hB2 ?hA2 (aF wr) ?hop2 ?hT2
  case hm2=>kernel_rfl
  case hB2=>kernel_rfl
  case hA2 =>
   simp only[Par.am,Par.ai,Act.put,cy,db,bt,cp,dc,da,bu,eg,ed];rfl
  case hop2 =>
   simp only[ce,ze,Par.ah,yu];and_intros<;>intro d a<;>have HR:=aa a
   rotate_left;have zl:=(f.out d (p.out d a).1).2.2.2.2.2.2.2.1.1;rotate_left;have zl:=(f.out d (p.out d a).1).2.2.2.2.2.2.2.1.1;rotate_left;have J:=(f.out d (p.out d a).1).2.1;rotate_left 3;have J:=(f.out d (p.out d a).1).2.2.2.2.2.2.1;rotate_left 3;have zl:=(p.out d a).2.1.2;rotate_left;have J:=(p.out d a).2.1.1;rotate_left 3;have J:=(p.out d a).2.2.1.1;have x1:=(p.out d a).2.2.1.2.1;have x2:=(p.out d a).2.2.1.2.2;rotate_left;have J:=aA (f.out d (p.out d a).1).2.2.2.2.2.2.2.2 0;have x1:=aA (f.out d (p.out d a).1).2.2.2.2.2.2.2.2 1;have x2:=aA (f.out d (p.out d a).1).2.2.2.2.2.2.2.2 2;rotate_left
   all_goals(clear a;simp only[Par.Gives];go_simp;all_goals exact HR.out)
  intro d a;simp only[cw,ym];have R:=aa a;have l:=l d;clear a;have G:AF u.1 u.2.1 u.2.2 kd n1 s=decide (u=(kd,n1,s)):=Ku u kd n1 s;rw[G]at l;by_cases he:u=(kd,n1,s)
  ·rw[xd he]at l;have HE:=aa he;clear G he;go_upto_region 9 with (go_at_call 86;(with_reducible refine l.mono ?_);rintro e w4⟨rfl,H⟩;have H4:=aa (R.out.trans (H.mono R.out.size));obtain⟨_,x1,_,_,_,_,x2,⟨xl,_,xo⟩,_⟩:=f.out w4 (p.out w4 H4.out).1;obtain⟨_,⟨_,x3⟩,_,x4⟩:=p.out w4 H4.out;clear l H);go_wp2_with fail;go_ret2;have hs:=nM (k:=c) (v:=(kd,n1,s)) a5 (V.2.2.1.trans HE.out) V.1;rw[hs];exact⟨by rw[V.2.2.2];rfl,aB HW.2.2 (p.out w4 H4.out).1⟩
  rw[yw he]at l;have HE:=aa he;clear G he;go_wp2_with (go_at_call 86;refine l.mono ?_;rintro e w4⟨rfl,H⟩;have H4:=aa (R.out.trans (H.mono R.out.size));clear l H);go_roundg (na-j)
  case measure=>omega
  case rel=>exact⟨j+1,rfl,by omega,by omega,fun m hm d0=>(by
   by_cases em:m=j
   ·subst em;rw[V.2.2.1];exact HE.out
   exact V.1 m hm (by omega)),(p.out w4 H4.out).1⟩
 obtain rfl:j=na:=(by omega);have V:=aa (ab hx I);clear hx I;go_wp2_with fail;go_ret2;have hs:=nL (A:=y.A) (k:=c) (v:=(kd,n1,s)) (fun m hm=>V.1 m hm (by rw[<-HN.1];exact hm));rw[hs];exact⟨rfl,aB HW.2.2 V.2⟩
end
