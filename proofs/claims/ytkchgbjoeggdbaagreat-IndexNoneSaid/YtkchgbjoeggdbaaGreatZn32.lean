import Derived.Test.YtkchgbjoeggdbaaGreatZn26
import Derived.Test.YtkchgbjoeggdbaaGreatZn30
import Derived.Test.YtkchgbjoeggdbaaGreatZn31
set_option maxHeartbeats 8000000
set_option maxRecDepth 100000
namespace Go.Proofs.YtkchgbjoeggdbaaGreat
open Go.Proofs.Tryz
open Go Go.RowKit Go.Proofs Co Co.S
section
variable{W w:World}{b:Nat}{ts:List T}{tt:List RT}{i:NI}{O:Nat->Nat}{t:Nat}{y:RT}
end
structure EJ (W0:World) (E:Nat->Value) (k m:Nat) (xs ys:List Value) (l:Nat->Bool) (vs:Nat->Value) (w:World):Prop where
 bl:Below W0.heap.size W0 w
 ev:∀j,j≠14->j≠24->j≠25->l j=true->vs j=E j
 f14:l 14=true->l 25=false->ac w W0.heap.size 161 2 (vs 14) k xs
 f24:l 24=true->∃q d,vs 24=.slice q m d/\(0<m->∃b off,q=some ⟨b,off,none⟩/\∀j u,ys[j]?=some u->W0.cell? ⟨b,off+j,none⟩=some u)
 f25:l 25=true->ac w W0.heap.size 161 2 (vs 25) (k+m) (xs++ys)
section
open Par
variable{W0 w w':World}{E:Nat->Value}{k m:Nat}{xs ys:List Value}{l:Nat->Bool}{vs:Nat->Value}
end
section
variable{W:World}{b:Nat}{ts:List T}{tt:List RT}{i:NI}{O:Nat->Nat}{t:Nat}{y:RT}
end
section
variable{A:List R1}
end
section
variable{W w:World}{b:Nat}{ts:List T}{tt:List RT}{i:NI}{O:Nat->Nat}{t:Nat}{y:RT}
end
section
variable{W w:World}{b:Nat}{ts:List T}{tt:List RT}{i:NI}{O:Nat->Nat}{t:Nat}{y:RT}
theorem vW{fs:List (Value×Value)}{ts:List T}(h:fs.length=ts.length):(fp fs ts).length=ts.length*4:=by
 unfold fp
 induction fs generalizing ts with
 | nil=>cases ts with
  | nil=>rfl
  | cons t ts=>cases h
 | cons f fs ih =>
  cases ts with
  | nil=>cases h
  | cons t ts =>
   simp only[List.zip_cons_cons,wv,y6,xa,vc];rw[ih (by simpa using h)];omega
theorem im.um(h:im W b ts tt i O):iq W i.sv ts:=by
 obtain⟨p,d,e,l,m⟩:=h.form.isslice;refine⟨p,d,fp i.fs ts,e,l,m,fun n=>?_,vW h.fn,fun j a=>?_⟩
 ·obtain⟨g,c,k,_,_⟩:=h.form.slice n;rw[e]at k;cases k;have f:=h.form;rw[e]at f;exact⟨g,0,rfl,(ac.lt f g rfl).2,fun j u a=>by rw[xj];exact f.cell a⟩
 obtain⟨c0,c1,c2,c3⟩:=oP h.fn a;exact⟨_,_,c0,c1,c2,c3,h.rd j a (by rw[h.fn];exact a)⟩
end
theorem Ek(u:T3)(k n:Int)(s:ByteArray):Al u.1 u.2.1 u.2.2 k n s=decide (u=(k,n,s)):=by
 obtain⟨a,b,c⟩:=u;unfold Al
 simp
def jj(A:List R1)(k:Nat)(v:T3):Option Int:=(A.find? fun a=>decide (a.2.getD k z3=v)).map (·.1)
theorem mX{A:List R1}{k:Nat}{v:T3}(h:∀j (b:j<A.length),A[j].2.getD k z3≠v):jj A k v=none:=by
 unfold jj
 rw[List.find?_eq_none.2 (fun a c=>by
  obtain⟨j,b,rfl⟩:=xp c;simpa using h j b)]
 rfl
theorem mY{A:List R1}{k:Nat}{v:T3}{j:Nat}(hj:j<A.length)(h1:A[j].2.getD k z3=v)(h:∀m (b:m<A.length),m<j->A[m].2.getD k z3≠v):jj A k v=some A[j].1:=by
 unfold jj
 have e:A.find? (fun a=>decide (a.2.getD k z3=v))=some A[j]:=by
  rw[List.find?_eq_some_iff_getElem];exact⟨by simpa using h1,j,hj,rfl,fun m b=>by simpa using h m (by omega) b⟩
 rw[e];rfl
theorem iW{key:ByteArray}(h:key≠e0):key.toList.isEmpty=false:=by
 cases a:key.toList.isEmpty with
 | false=>rfl
 | true =>
  rw[List.isEmpty_iff,wj]at a;exact absurd (cY (a.trans rfl)) h
def bi(ts:List T)(As:List (List R1))(x:ByteArray)(v:T3):Option Int:=
 match ts[(jz ts x).toNat]?,As[(jz ts x).toNat]? with
 | some t,some A=>if jz ts x<0 then none else if t.key=e0 then none else if v.1=0 then none else jj A (fx t.cols t.key).toNat v
 | _,_=>none
section
variable{W:World}{b:Nat}{ts:List T}{tt:List RT}{i:NI}{O:Nat->Nat}
theorem jP(h:im W b ts tt i O)(x:ByteArray)(kd n1:Int)(s:ByteArray)(m:jz ts x<0∨∃t,∃q:t<ts.length,jz ts x=(t:Int)/\(ts[t].key=e0∨kd=0)):Calls prog 211 #[.pointer (some ⟨b,0,none⟩),.string x,.agg #[.int .i64 kd,.int .i64 n1,.string s]] W fun e w'=>e=.returned (.tuple #[.int .i64 0,.bool false])/\Below W.heap.size W w':=by
 have c:=aD W (.cells #[.int .i64 kd,.int .i64 n1,.string s] 32);have n:=z7 W (.cells #[.int .i64 kd,.int .i64 n1,.string s] 32);obtain⟨w,g⟩:=ae (W.alloc (.cells #[.int .i64 kd,.int .i64 n1,.string s] 32));obtain⟨B,r⟩:=ae W.heap.size;rw[g]at c n;rw[r]at n;have d:=h.later c;have a:=cW (x:=x) d.um;have J:w.cell? ⟨b,0,none⟩=some i.sv:=aA d.box 0;have S:=aB d.box;have kc:=aA n 0;have U:=aB n;have f:=aa (ab g (ab r c));rcases m with m|⟨t,q,A,z⟩
 ·obtain⟨j,H⟩:=ae (jz ts x);rw[H]at a m;clear h d c n g r H;go_enter func211,ntmps211;go_upto_region 1 with fail;rw[f.1,f.2.1];go_wp2_with (go_at_call 56;refine a.mono ?_;rintro e u⟨rfl,I⟩;subst u;clear a);go_ret2;exact⟨rfl,f.2.1▸f.2.2⟩
 obtain⟨y,E,_⟩:=d.at q;obtain⟨⟨gs,cs,go,co,gn,cn,pc,L,pd,M⟩,o,_,_,_,_,_,p⟩:=d.reads q E;have p:=p w (zg _ _);obtain⟨v,l⟩:=ae ts.length;have N:(t:Int)<(v:Int):=(by omega);have P:t<v:=(by omega);have Q:¬ (t:Int)<0:=(by omega);have o:i.sv=.slice (some ⟨gs,0,none⟩) ts.length cs:=o;rw[o,l]at J;rw[A]at a;rw[o,l]at a;have s2:w.cell? ⟨gs,t*4+2,none⟩=some (.string (ts[t]'q).key):=p.s2;have sl:gs<w.heap.size:=p.sl;obtain⟨key,k⟩:=ae ((ts[t]'q).key);rw[k]at s2 z;by_cases F:key=e0
 ·subst F;clear h d c n g r A o E p l k z;go_enter func211,ntmps211;go_upto_region 1 with fail;rw[f.1,f.2.1];go_wp2_with (go_at_call 56;refine a.mono ?_;rintro e u⟨rfl,I⟩;subst u;clear a);go_ret2;exact⟨rfl,f.2.1▸f.2.2⟩
 have G:kd=0:=by
  rcases z with d|d
  ·exact absurd d F
  exact d
 subst G;have R:=iW F;clear h d c n g r A o E p l k z;go_enter func211,ntmps211;go_upto_region 1 with fail;rw[f.1,f.2.1];go_wp2_with (go_at_call 56;refine a.mono ?_;rintro e u⟨rfl,I⟩;subst u;clear a);go_ret2;exact⟨rfl,f.2.1▸f.2.2⟩
theorem vX(h:im W b ts tt i O){t:Nat}(ht:t<ts.length){y:RT}(hy:tt[t]?=some y){x:ByteArray}(e1:jz ts x=(t:Int))(hk0:ts[t].key≠e0){c:Nat}(hc:c<ts[t].cols.length)(hcx:fx ts[t].cols ts[t].key=(c:Int))(kd n1:Int)(s:ByteArray)(hkd:kd≠0)(hAl:y.A.length<=100000)(hc1:ts[t].cols.length<=1000):Calls prog 211 #[.pointer (some ⟨b,0,none⟩),.string x,.agg #[.int .i64 kd,.int .i64 n1,.string s]] W fun e w'=>e=.returned (.tuple #[.int .i64 ((jj y.A c (kd,n1,s)).getD 0),.bool (jj y.A c (kd,n1,s)).isSome])/\Below W.heap.size W w':=by
 have J:=aD W (.cells #[.int .i64 kd,.int .i64 n1,.string s] 32);have k1:=z7 W (.cells #[.int .i64 kd,.int .i64 n1,.string s] 32);obtain⟨r,V⟩:=ae (W.alloc (.cells #[.int .i64 kd,.int .i64 n1,.string s] 32));obtain⟨B,H⟩:=ae W.heap.size;rw[V]at J k1;rw[H]at k1;have h1:=h.later J;have p:=cW (x:=x) h1.um;have kc:=aA k1 0;have kl:=aB k1;have l:=h1.ok ht hy;obtain⟨⟨gs,cs,go,co,gn,cn,pc,X,pd,Y⟩,e2,_,_,_,_,_,a⟩:=h1.reads ht hy;obtain⟨q,Z⟩:=ae ts.length;have c0:(t:Int)<(q:Int):=(by omega);have c1:t<q:=(by omega);have c2:¬ (t:Int)<0:=(by omega);have e2:i.sv=.slice (some ⟨gs,0,none⟩) ts.length cs:=e2;rw[e1,e2,Z]at p;obtain⟨T0,a0⟩:=ae (ts[t]'ht);simp only[a0]at a hk0 hc hcx hc1;have b4:=iW hk0;have z:=l.len;rw[a0]at z;obtain⟨nc,E⟩:=ae T0.cols.length;obtain⟨nd,a1⟩:=ae T0.deps.length;obtain⟨na,L⟩:=ae y.A.length;have b8:(na:Int)<=100000:=(by omega);have c3:(c:Int)<(nc:Int):=(by omega);have b5:c<nc:=(by omega);obtain⟨nm,a2⟩:=ae T0.nm;obtain⟨key,f⟩:=ae T0.key;obtain⟨pr,cr,M,_,_⟩:=l.rows.isslice;rw[L]at M
 have d:Hid (∀w,Below r.heap.size r w->w.cell? ⟨b,0,none⟩=some (.slice (some ⟨gs,0,none⟩) q cs)/\w.cell? ⟨b,1,none⟩=some (.slice (some ⟨go,0,none⟩) q co)/\w.cell? ⟨gs,t*4,none⟩=some (.string nm)/\w.cell? ⟨gs,t*4+1,none⟩=some (.slice pc nc X)/\w.cell? ⟨gs,t*4+2,none⟩=some (.string key)/\w.cell? ⟨gs,t*4+3,none⟩=some (.slice pd nd Y)/\w.cell? ⟨go,t,none⟩=some (.slice pr na cr)/\(b<w.heap.size/\gs<w.heap.size/\go<w.heap.size)/\w.heap[B]?=some (.cells #[.int .i64 kd,.int .i64 n1,.string s] 32)):=aa (fun w N=>by
  have k:=a w N;rw[<-Z,<-a2,<-f,<-E,<-a1,<-M];exact⟨k.b0,k.b1,k.s0,k.s1,k.s2,k.s3,k.o0,⟨k.bl,k.sl,k.ol⟩,aE N k1⟩)
 have a7:Hid (∀w,Below r.heap.size r w->Calls prog 97 #[.agg #[.string nm,.slice pc nc X,.string key,.slice pd nd Y],.string key] w fun e w'=>e=.returned (.int .i64 (c:Int))/\Below w.heap.size w w'):=aa (fun w N=>by
  have:=bT (x:=key) (a w N).rt
  rw[a2,E,f,a1,<-f,hcx,f]at this;exact this)
 have a8:Hid (∀k (hk:k<y.A.length),∃gr gv cv,pr=some ⟨gr,0,none⟩/\∀w,Below r.heap.size r w->w.cell? ⟨gr,k*2,none⟩=some (.int .i64 y.A[k].1)/\w.cell? ⟨gr,k*2+1,none⟩=some (.slice (some ⟨gv,0,none⟩) nc cv)/\ac w 0 32 3 (.slice (some ⟨gv,0,none⟩) nc cv) nc (cells3 y.A[k].2)/\gr<w.heap.size):=aa (fun k hk=>by
  have b6:k<y.vs.length:=(by rw[l.n];exact hk);have P:=l.vals k hk b6;rw[z _ (z8 hk),E]at P;obtain⟨gv,cv,r5,_,_⟩:=P.slice (by omega);rw[r5]at P;obtain⟨gr,c4,r1,_,_⟩:=l.rows.slice (by omega);have a9:=l.rows;rw[r1]at a9;rw[M,L]at r1;cases r1;obtain⟨q1,q2⟩:=oO l.n hk;rw[r5]at q2;refine⟨gr,gv,cv,rfl,fun w N=>?_⟩;have a3:=a9.later N;exact⟨a3.cell q1,a3.cell q2,P.later N,(ac.lt a3 gr rfl).2⟩)
 have HW:=aa (ab V (ab H J));have HN:=aa (ab L (ab z (ab E hkd)));rw[f]at b4;have b9:(kd==0)=false:=(by simpa using hkd);obtain⟨I,x1,_,_,x2,_,_,⟨xl,xs,_⟩,_⟩:=d.out r (zg _ _);clear h h1 J k1 V H e1 e2 hy a Z f a2 E a1 L l M a0 hk0 z hcx hAl hc1 hc ht;go_enter func211,ntmps211;go_upto_region 1 with fail;rw[HW.1,HW.2.1];go_upto_region 4 with (go_at_call 56;(with_reducible refine p.mono ?_);rintro e w2⟨rfl,hw⟩;subst w2;clear p);clear I x1 x2 xl xs kc kl;refine Par.ag 15 [.pointer (some ⟨b,0,none⟩),.pointer (some ⟨b,0,none⟩),.pointer (some ⟨b,0,none⟩),.slice (some ⟨gs,0,none⟩) q cs,.int .i64 (t:Int),.pointer (some ⟨gs,t*4,none⟩),.agg #[.string nm,.slice pc nc X,.string key,.slice pd nd Y],.pointer (some ⟨b,0,none⟩),.pointer (some ⟨b,0,none⟩),.pointer (some ⟨b,0,none⟩),.slice (some ⟨gs,0,none⟩) q cs,.int .i64 (t:Int),.pointer (some ⟨gs,t*4,none⟩),.pointer (some ⟨gs,t*4+2,none⟩),.string key] (fun w=>Below r.heap.size r w) ?A1 ?hm1 ?hB1 ?hA1 (aG r) ?hop1 ?hT1
 case hm1=>kernel_rfl
 case hB1=>kernel_rfl
 case hA1 =>
  simp only[Par.am,Par.ai,Act.put,eh,ez,dz,eo,ew,ey,ed,ic,gy];rfl
 case hop1 =>
  simp only[en,zh,Par.ah,yo];and_intros<;>intro w' a<;>have HR:=aa a
  rotate_left;have zl:=(d.out w' a).2.2.2.2.2.2.2.1.1;rotate_left;have zl:=(d.out w' a).2.2.2.2.2.2.2.1.1;rotate_left;have I:=(d.out w' a).1;rotate_left 3;have I:=(d.out w' a).2.2.1;have x1:=(d.out w' a).2.2.2.1;have x2:=(d.out w' a).2.2.2.2.1;have x3:=(d.out w' a).2.2.2.2.2.1;rotate_left 2;have zl:=(d.out w' a).2.2.2.2.2.2.2.1.1;rotate_left;have zl:=(d.out w' a).2.2.2.2.2.2.2.1.1;rotate_left;have I:=(d.out w' a).1;rotate_left 3;have zl:=(d.out w' a).2.2.2.2.2.2.2.1.2.1;rotate_left;have I:=(d.out w' a).2.2.2.2.1;rotate_left
  all_goals(clear a;simp only[Par.Gives];go_simp;all_goals exact HR.out)
 intro w' a;simp only[ex,ye];have HR:=aa a;have R:=a7.out w' a;clear a;go_upto_region 5 with (go_at_call 97;(with_reducible refine R.mono ?_);rintro e w3⟨rfl,b2⟩;have H3:=aa (HR.out.trans (b2.mono HR.out.size));clear R b2);go_wp2_with fail;go_loopg [10] (na+1) (fun gh jv w=>∃(j:Nat),jv=.int .i64 (j:Int)/\j<=na/\na+1<=j+gh/\(∀m (hm:m<y.A.length),m<j->y.A[m].2.getD c z3≠(kd,n1,s))/\Below r.heap.size r w)
 case atStart=>exact⟨0,rfl,zj _,by omega,fun m _ h=>absurd h (yh m),H3.out⟩
 obtain⟨j,rfl,hj,hg,hx,H⟩:=hrel;obtain⟨_,x1,_,_,_,_,x2,⟨xl,_,xo⟩,_⟩:=d.out wr H;by_cases b7:j<na
 ·have a4:j<y.A.length:=(by rw[HN.1];exact b7);have c5:(j:Int)<(na:Int):=(by omega);obtain⟨gr,gv,cv,rfl,S⟩:=a8.out j a4;have hl:=HN.2.1 _ (z8 a4);rw[HN.2.2.1]at hl;have a5:c<y.A[j].2.length:=(by rw[hl];exact b5);obtain⟨u,hu⟩:=ae (y.A[j].2[c]);obtain⟨q1,q2,q3⟩:=cQ y.A[j].2 c a5;rw[hu]at q1 q2 q3;obtain⟨aj,a6⟩:=ae (y.A[j].1)
  have o:Hid (∀w,Below wr.heap.size wr w->Below r.heap.size r w/\(w.cell? ⟨gr,j*2+1,none⟩=some (.slice (some ⟨gv,0,none⟩) nc cv)/\gr<w.heap.size)/\(w.cell? ⟨gv,c*3,none⟩=some (.int .i64 u.1)/\w.cell? ⟨gv,c*3+1,none⟩=some (.int .i64 u.2.1)/\w.cell? ⟨gv,c*3+2,none⟩=some (.string u.2.2))/\w.cell? ⟨gr,j*2,none⟩=some (.int .i64 aj)):=aa (fun w N=>by
   have hw:=aC H N;obtain⟨r1,r2,r3,r4⟩:=S w hw;rw[a6]at r1;exact⟨hw,⟨r2,r4⟩,⟨r3.cell q1,r3.cell q2,r3.cell q3⟩,r1⟩)
  have g:=(fun w=>jX u.1 u.2.1 u.2.2 kd n1 s w);have b3:y.A[j].2.getD c z3=u:=(by rw[zv,z6 a5,hu];rfl);have U:=aa (ab hx (ab H (ab b3 a6)));clear hx H S hl a5 hu q1 q2 q3 a6 b3;go_upto_region 8 with fail;clear x1 x2 xl xo;refine Par.ag 15 [.pointer (some ⟨b,0,none⟩),.pointer (some ⟨b,0,none⟩),.pointer (some ⟨b,1,none⟩),.slice (some ⟨go,0,none⟩) q co,.int .i64 (t:Int),.pointer (some ⟨go,t,none⟩),.slice (some ⟨gr,0,none⟩) na cr,.int .i64 (j:Int),.pointer (some ⟨gr,j*2,none⟩),.pointer (some ⟨gr,j*2+1,none⟩),.slice (some ⟨gv,0,none⟩) nc cv,.int .i64 (c:Int),.pointer (some ⟨gv,c*3,none⟩),.agg #[.int .i64 u.1,.int .i64 u.2.1,.string u.2.2],.agg #[.int .i64 kd,.int .i64 n1,.string s]] (fun w=>Below wr.heap.size wr w) ?A2 ?hm2 ?hB2 ?hA2 (aG wr) ?hop2 ?hT2
  case hm2=>kernel_rfl
  case hB2=>kernel_rfl
  case hA2 =>
   simp only[Par.am,Par.ai,Act.put,eh,ez,dz,eo,ew,ey,ed,ic,gy];rfl
  case hop2 =>
   simp only[en,zh,Par.ah,yo];and_intros<;>intro w' a<;>have HR:=aa a
   rotate_left;have zl:=(d.out w' (o.out w' a).1).2.2.2.2.2.2.2.1.1;rotate_left;have zl:=(d.out w' (o.out w' a).1).2.2.2.2.2.2.2.1.1;rotate_left;have I:=(d.out w' (o.out w' a).1).2.1;rotate_left 3;have I:=(d.out w' (o.out w' a).1).2.2.2.2.2.2.1;rotate_left 3;have zl:=(o.out w' a).2.1.2;rotate_left;have I:=(o.out w' a).2.1.1;rotate_left 3;have I:=(o.out w' a).2.2.1.1;have x1:=(o.out w' a).2.2.1.2.1;have x2:=(o.out w' a).2.2.1.2.2;rotate_left;have I:=aA (d.out w' (o.out w' a).1).2.2.2.2.2.2.2.2 0;have x1:=aA (d.out w' (o.out w' a).1).2.2.2.2.2.2.2.2 1;have x2:=aA (d.out w' (o.out w' a).1).2.2.2.2.2.2.2.2 2;rotate_left
   all_goals(clear a;simp only[Par.Gives];go_simp;all_goals exact HR.out)
  intro w' a;simp only[ex,ye];have Q:=aa a;have g:=g w';clear a;have F:Al u.1 u.2.1 u.2.2 kd n1 s=decide (u=(kd,n1,s)):=Ek u kd n1 s;rw[F]at g;by_cases he:u=(kd,n1,s)
  ·rw[yy he]at g;have HE:=aa he;clear F he;go_upto_region 9 with (go_at_call 210;(with_reducible refine g.mono ?_);rintro e w4⟨rfl,G⟩;have H4:=aa (Q.out.trans (G.mono Q.out.size));obtain⟨_,x1,_,_,_,_,x2,⟨xl,_,xo⟩,_⟩:=d.out w4 (o.out w4 H4.out).1;obtain⟨_,⟨_,x3⟩,_,x4⟩:=o.out w4 H4.out;clear g G);go_wp2_with fail;go_ret2;have hs:=mY (k:=c) (v:=(kd,n1,s)) a4 (U.2.2.1.trans HE.out) U.1;rw[hs];exact⟨by rw[U.2.2.2];rfl,aC HW.2.2 (o.out w4 H4.out).1⟩
  rw[yp he]at g;have HE:=aa he;clear F he;go_wp2_with (go_at_call 210;refine g.mono ?_;rintro e w4⟨rfl,G⟩;have H4:=aa (Q.out.trans (G.mono Q.out.size));clear g G);go_roundg (na-j)
  case measure=>omega
  case rel=>exact⟨j+1,rfl,by omega,by omega,fun m hm c6=>(by
   by_cases em:m=j
   ·subst em;rw[U.2.2.1];exact HE.out
   exact U.1 m hm (by omega)),(o.out w4 H4.out).1⟩
 obtain rfl:j=na:=(by omega);have U:=aa (ab hx H);clear hx H;go_wp2_with fail;go_ret2;have hs:=mX (A:=y.A) (k:=c) (v:=(kd,n1,s)) (fun m hm=>U.1 m hm (by rw[<-HN.1];exact hm));rw[hs];exact⟨rfl,aC HW.2.2 U.2⟩
end
section
variable{W W':World}{d:Nat}{ts:List T}{st:List DT}{O O':Nat->Nat}{S:Nat->Prop}{t:T}{cv dv:Value}
theorem lE{ts:List T}{x:ByteArray}(h:fe ts x=false){j:Nat}(hj:j<ts.length):ts[j].nm≠x:=fun e=>by
 unfold fe at h;have a:=List.any_eq_false.1 h ts[j] (z8 hj);unfold qb ip at a;rw[e]at a;simp at a
theorem Fv{ts:List T}{x:ByteArray}(h:fe ts x=false):bg ts x=none:=by
 unfold bg;rw[vz];unfold fe at h;intro a b;simpa using List.any_eq_false.1 h a b
theorem tC(t:T):qb t.nm (bj t)=true:=by unfold qb ip bj;simp
theorem vY{ts:List T}{t:T}(h:fe ts t.nm=false):bg (ts++[bj t]) t.nm=some (bj t):=by
 have a:=Fv h;unfold bg at a ⊢;rw[List.find?_append,a];simp[tC]
theorem DK{ts:List T}{t:T}{x:ByteArray}(h:fe (ts++[bj t]) x=false):fe ts x=false/\t.nm≠x:=by
 unfold fe at h ⊢;rw[List.any_append,Bool.or_eq_false_iff]at h;refine⟨h.1,fun e=>?_⟩;have a:=h.2;simp only[List.any_cons,List.any_nil,Bool.or_false]at a;rw[<-e,tC]at a;cases a
theorem tD(h:Few t):Few (bj t):=⟨by unfold bj;simpa using h.1,h.2.1,h.2.2⟩
theorem GK(h:db t.cols=true):∀c∈(bj t).cols,c.kd=1∨c.kd=2:=fun c d=>by
 unfold bj at d;obtain⟨c0,a,rfl⟩:=List.mem_map.1 d;obtain⟨j,e,rfl⟩:=xp a;unfold db at h;have b:=List.all_eq_true.1 h j (List.mem_range.2 e);unfold oo at b;rw[z6 e]at b;exact wf b
theorem ET(h:dg ts t=0):fe ts t.nm=false:=by
 obtain⟨_,a,_⟩:=fT h;unfold aq free at a;simp only[zy,Bool.not_eq_true']at a;exact a.1.2
theorem IL(h:Dd W d ts st O)(hT:dw W cv dv t)(hsm:t6 t)(hno:dg ts t≠0):Calls prog 54 #[.pointer (some ⟨d,0,none⟩),.agg #[.string t.nm,cv,.string t.key,dv]] W fun e w'=>e=.returned (.int .i64 (dg ts t))/\Dd w' d ts st O/\Tn (fun q=>O q=1) W w':=by
 obtain⟨pc,kc,rfl,_,_⟩:=hT.1.slice;obtain⟨pd,kd,rfl,_,_⟩:=hT.2.slice;obtain⟨nc,o⟩:=ae t.cols.length;obtain⟨nd,p⟩:=ae t.deps.length;obtain⟨nm,s⟩:=ae t.nm;obtain⟨key,k⟩:=ae t.key;have i:=aD W (.cells #[.string nm,.slice pc nc kc,.string key,.slice pd nd kd] 60);have J:=z7 W (.cells #[.string nm,.slice pc nc kc,.string key,.slice pd nd kd] 60);have u:=hT.kp (Tn.of_below (S:=fun _=>False) i).qu;have B:=h.later i;obtain⟨A,v⟩:=ae (W.alloc (.cells #[.string nm,.slice pc nc kc,.string key,.slice pd nd kd] 60));obtain⟨V,x⟩:=ae W.heap.size;rw[v]at i J u B;rw[x]at J;obtain⟨r,L⟩:=ae (dg ts t)
 have g:∀w,Below A.heap.size A w->Calls prog 89 #[.pointer (some ⟨d,0,none⟩),.agg #[.string nm,.slice pc nc kc,.string key,.slice pd nd kd]] w fun e w'=>e=.returned (.int .i64 r)/\Dd w' d ts st O/\Tn (fun b=>b=d) w w':=fun w hw=>by
  have y:=B.later hw;obtain⟨mv,f,n,N,P,k3,k4,k5⟩:=y.own
  have:=tB (u.kp (Tn.of_below (S:=fun _=>False) hw).qu) N hsm
  rw[s,k,o,p,L]at this;refine this.mono ?_;rintro e w'⟨rfl,E,M⟩;have E:Sch mv w' d ts:=by unfold si at E;rw[zu hno]at E;exact E
  have m:Tn (fun q=>q=d) w w':=Tn.bt M (fun q _ z=>by
   obtain⟨_,xs,rest,Q,_⟩:=N;exact .inl (by rw[z];exact⟨_,66,Q,rfl⟩))
  refine⟨rfl,?_,m⟩;refine⟨⟨mv,f,n,E,P.of (fun b F=>m.chg.block b (P.lt b F) (fun e=>?_)),k3,k4,k5⟩,y.len,y.nd,y.od,fun j a c=>?_,fun q z=>z9 (y.lt q z) m.size⟩
  ·have e:b=d:=e;subst e;rcases P with ⟨rfl,_⟩ | ⟨b',rfl,R⟩
   ·cases F
   cases F;obtain⟨es,ck,Q⟩:=R.isMap;obtain⟨_,xs,rest,e2,_⟩:=N;rw[Q]at e2;cases e2
  obtain⟨U,q1,q2⟩:=y.tab j a c;exact⟨U,q1.tn m (fun q z=>Classical.byContradiction fun hn=>by have:=q2 q hn;rw[z,y.od]at this;omega),q2⟩
 have G:=B.lt d (by rw[B.od];decide);have HA:=aa g;have H:=aa (ab J (ab i G));have HW:=aa (ab v x);have X:=h.od;have Y:¬ r=0:=(by rw[<-L];exact hno);have Z:Below W.heap.size W A:=i;rw[L,s,k,o,p];clear h B hT u hsm J i g hno v x L s k o p G;go_enter func54,ntmps54;go_upto_region 1 with fail;rw[HW.1,HW.2];refine Par.ag 3 [.pointer (some ⟨d,0,none⟩),.pointer (some ⟨d,0,none⟩),.agg #[.string nm,.slice pc nc kc,.string key,.slice pd nd kd]] (fun w=>Below A.heap.size A w) ?A1 ?hm1 ?hB1 ?hA1 (aG A) ?hop1 ?hT1
 case hm1=>kernel_rfl
 case hB1=>kernel_rfl
 case hA1 =>
  simp only[Par.am,Par.ai,Act.put,eh,ez,dz,eo,ew,ey,ed,ic,gy];rfl
 case hop1 =>
  simp only[en,zh,Par.ah,yo];and_intros<;>intro w' l<;>have I:=aa l
  rotate_left
  ·clear l;simp only[Par.Gives];go_simp;exact(aY (z9 H.2.2 I.out.size)).mono (fun e a1⟨he,F⟩=>⟨he,(F▸I.out)⟩)
  have x0:=aA (aE l H.1) 0;have x1:=aA (aE l H.1) 1;have x2:=aA (aE l H.1) 2;have x3:=aA (aE l H.1) 3;rotate_left
  all_goals(clear l;simp only[Par.Gives];go_simp;all_goals exact I.out)
 intro w' l;simp only[ex,ye];have I:=aa l;have g:=HA.out w' l;clear l;have a0:(r==0)=false:=(by simpa using Y);go_wp2_with (go_at_call 89;refine g.mono ?_;rintro e w4⟨rfl,hD,M⟩;have H4:=aa (ab hD M);clear g hD M);go_ret;exact⟨rfl,H4.1,(Tn.of_below (S:=fun q=>O q=1) (aC Z I.out)).trans H4.2 (fun _ _ h=>h) (fun q _ z=>by have e:q=d:=z;rw[e];exact X)⟩
theorem GL(h:Dd W d ts st O)(hT:dw W cv dv t)(hsm:t6 t)(hyes:dg ts t=0)(hfew:bs ts):Calls prog 54 #[.pointer (some ⟨d,0,none⟩),.agg #[.string t.nm,cv,.string t.key,dv]] W fun e w'=>e=.returned (.int .i64 0)/\∃tb O',Dd w' d (ts++[bj t]) (st++[(tb,0,[])]) O'/\Ext W O O'/\Tn (fun q=>O q=1) W w':=by
 obtain⟨pc,kc,rfl,_,_⟩:=hT.1.slice;obtain⟨pd,kd,rfl,_,_⟩:=hT.2.slice;obtain⟨nc,P⟩:=ae t.cols.length;obtain⟨nd,Q⟩:=ae t.deps.length;obtain⟨nm,a⟩:=ae t.nm;obtain⟨key,s⟩:=ae t.key;have i:=ET hyes;rw[a]at i;have v:=aD W (.cells #[.string nm,.slice pc nc kc,.string key,.slice pd nd kd] 60);have hV:=z7 W (.cells #[.string nm,.slice pc nc kc,.string key,.slice pd nd kd] 60);have R:=hT.kp (Tn.of_below (S:=fun _=>False) v).qu;have r:=h.later v;obtain⟨w1,U⟩:=ae (W.alloc (.cells #[.string nm,.slice pc nc kc,.string key,.slice pd nd kd] 60));obtain⟨V,X⟩:=ae W.heap.size;rw[U]at v hV R r;rw[X]at hV
 have h8:ts.length<=8:=by
  obtain⟨mv,f,n,H,_⟩:=h.own;exact H.1
 have l:∀w,Below w1.heap.size w1 w->Calls prog 89 #[.pointer (some ⟨d,0,none⟩),.agg #[.string nm,.slice pc nc kc,.string key,.slice pd nd kd]] w fun e w'=>e=.returned (.int .i64 0)/\Tn (fun b=>b=d) w w'/\∃mv f n,Sch mv w' d (ts++[bj t])/\sf w' mv f n ts.length/\(∀j (h:j<ts.length) (h':j<st.length),f ts[j].nm=some st[j].1)/\(∀x,fe ts x=false->f x=none)/\∀b,mblk mv=some b->O b=1:=fun w hw=>by
  have h2:=r.later hw;obtain⟨mv,f,n,H,I,k3,Y,Z⟩:=h2.own
  have:=tB (R.kp (Tn.of_below (S:=fun _=>False) hw).qu) H hsm
  rw[a,s,P,Q,hyes]at this;refine this.mono ?_;rintro e w'⟨rfl,hS,z⟩;have hS:Sch mv w' d (ts++[bj t]):=by unfold si at hS;rw[zw hyes]at hS;exact hS
  have o:Tn (fun q=>q=d) w w':=Tn.bt z (fun q _ c=>by
   obtain⟨_,xs,rest,e1,_⟩:=H;exact .inl (by rw[c];exact⟨_,66,e1,rfl⟩))
  refine⟨rfl,o,mv,f,n,hS,I.of (fun b hb=>o.chg.block b (I.lt b hb) (fun e=>?_)),k3,Y,Z⟩;have e:b=d:=e;subst e;rcases I with ⟨rfl,_⟩ | ⟨b',rfl,a0⟩
  ·cases hb
  cases hb;obtain⟨es,ck,e1⟩:=a0.isMap;obtain⟨_,xs,rest,A,_⟩:=H;rw[e1]at A;cases A
 have a5:=r.lt d (by rw[r.od];decide);have J:nm.size<=maxLen:=(by rw[<-a];exact hsm.1);have p:=vY (ts:=ts) (t:=t) (by rw[a];exact i)
 have a1:fe (ts++[bj t]) nm=true:=by
  rw[cU,<-a,p];rfl
 rw[a]at p
 have a2:bs (ts++[bj t]):=fun u hu=>by
  rcases List.mem_append.1 hu with h|h
  ·exact hfew u h
  rw[List.mem_singleton.1 h];exact tD (CJ hyes)
 have a3:=GK (fT hyes).2.2.1;have a6:d≠V:=(by have:=h.lt d (by rw[h.od];decide);omega);have HA:=aa l;have E:=aa (ab hV (ab v (ab a5 a6)));have HW:=aa (ab U X);have L:=aa (ab h (ab i (ab p (ab a1 (ab a2 (ab a3 (ab a (ab h8 J))))))));rw[a,s,P,Q];clear h r hT R hsm hV v l hyes U X a s P Q a5 i p a1 a2 a3 a6 h8 hfew;go_enter func54,ntmps54;go_upto_region 1 with fail;rw[HW.1,HW.2];refine Par.ag 3 [.pointer (some ⟨d,0,none⟩),.pointer (some ⟨d,0,none⟩),.agg #[.string nm,.slice pc nc kc,.string key,.slice pd nd kd]] (fun w=>Below w1.heap.size w1 w) ?A2 ?hm2 ?hB2 ?hA2 (aG w1) ?hop2 ?hT2
 case hm2=>kernel_rfl
 case hB2=>kernel_rfl
 case hA2 =>
  simp only[Par.am,Par.ai,Act.put,eh,ez,dz,eo,ew,ey,ed,ic,gy];rfl
 case hop2 =>
  simp only[en,zh,Par.ah,yo];and_intros<;>intro w' y<;>have HR:=aa y
  rotate_left
  ·clear y;simp only[Par.Gives];go_simp;exact(aY (z9 E.2.2.1 HR.out.size)).mono (fun e a8⟨he,hb⟩=>⟨he,(hb▸HR.out)⟩)
  have x0:=aA (aE y E.1) 0;have x1:=aA (aE y E.1) 1;have x2:=aA (aE y E.1) 2;have x3:=aA (aE y E.1) 3;rotate_left
  all_goals(clear y;simp only[Par.Gives];go_simp;all_goals exact HR.out)
 intro w' y;simp only[ex,ye];have HR:=aa y;have l:=HA.out w' y;clear y;go_upto_region 3 with (go_at_call 89;(with_reducible refine l.mono ?_);rintro e w4⟨rfl,z,hD⟩;have H4:=aa (ab z hD);clear l z hD);obtain⟨z,mv,f,n,H,I,k3,Y,Z⟩:=H4.out;have a4:w4.heap[V]?=some (.cells #[.string nm,.slice pc nc kc,.string key,.slice pd nd kd] 60):=(z.chg.block V (aB (aE HR.out E.1)) (fun e=>E.2.2.2 e.symm)).trans (aE HR.out E.1);have v0:=aA a4 0;have vl:=aB a4;have M:=vV H I L.2.2.2.2.2.2.2.2 (Y nm L.2.1) L.2.2.2.1 L.2.2.2.2.1 (by rw[L.2.2.1];exact L.2.2.2.2.2.1) (by have:=L.2.2.2.2.2.2.2.1;omega);have HK:=aa (ab z (ab I (ab k3 (ab Y Z))));clear z H I k3 Y Z a4;go_wp2_with (go_at_call 14;refine M.mono ?_;rintro e w5⟨tb,b,m,rfl,hN⟩;have HN:=aa hN;clear M hN);go_ret;obtain⟨q1,q2,q3,q4,q5,q6⟩:=HN.out;obtain⟨z,I,k3,Y,Z⟩:=HK.out;obtain⟨h,i,p,a1,a2,a3,a,h8,J⟩:=L.out;rw[p]at q3;have q3:Tb w5 tb (bj t) 0 [] m:=q3;have a7:Below W.heap.size W w':=aC E.2.1 HR.out;have N:Tn (fun q=>O q=1) W w4:=(Tn.of_below (S:=fun q=>O q=1) a7).trans z (fun _ _ h=>h) (fun q _ c=>by have e:q=d:=c;show O q=1;rw[e];exact h.od);have a9:W.heap.size<=w4.heap.size:=N.size
 have o:Tn (fun q=>O q=1) W w5:=N.trans q6 (fun _ _ h=>h) (fun q _ c=>by
  rcases c with c|c
  ·show O q=1;rw[c];exact h.od
  exact Z q c)
 have hE:∀q,q<W.heap.size->(if q<W.heap.size then O q else if q=b then 1 else if m q≠0 then ts.length+2 else 0)=O q:=(fun q c=>zw c);have g:=h.len;refine⟨rfl,tb,fun q=>if q<W.heap.size then O q else if q=b then 1 else if m q≠0 then ts.length+2 else 0,⟨⟨.map (some b),_,_,q1,.inr ⟨b,rfl,by rw[y6];exact q2⟩,fun j B F=>?_,fun x hx=>?_,fun b' a0=>?_⟩,by simp[g],fun j k B hk e=>?_,(hE d (h.lt d (by rw[h.od];decide))).trans h.od,fun j B F=>?_,fun q c=>?_⟩,hE,o⟩
 ·unfold uq;by_cases e:j<ts.length
  ·rw[yx e,yx (by rw[g];exact e),zu (lE i e)];exact k3 j e (by rw[g];exact e)
  have A:j=ts.length:=(by simp at B;omega);subst A;have e3:(ts++[bj t])[ts.length]'B=bj t:=(by simp);have e4:(st++[((tb,0,[]):DT)])[ts.length]'F=(tb,0,[]):=(by simp[<-g]);rw[e3,e4,zw (show(bj t).nm=nm from a)]
 ·obtain⟨r,h2⟩:=DK hx;unfold uq;rw[zu (fun e=>h2 (a.trans e.symm))];exact Y x r
 ·cases a0;show(if b<W.heap.size then O b else if b=b then 1 else _)=1;rcases q5 with r|r
  ·by_cases G:b<W.heap.size
   ·rw[zw G];exact Z b r
   rw[zu G,zw rfl]
  rw[zu (by omega),zw rfl]
 ·by_cases ej:j<ts.length <;> by_cases ek:k<ts.length
  ·rw[yx ej,yx ek]at e;exact h.nd j k ej ek e
  ·have A:k=ts.length:=(by simp at hk;omega);subst A;rw[yx ej]at e;have e3:(ts++[bj t])[ts.length]'hk=bj t:=(by simp);rw[e3]at e;exact absurd (e.trans a) (lE i ej)
  ·have A:j=ts.length:=(by simp at B;omega);subst A;rw[yx ek]at e;have e3:(ts++[bj t])[ts.length]'B=bj t:=(by simp);rw[e3]at e;exact absurd (e.symm.trans a) (lE i ek)
  simp at B hk;omega
 ·by_cases e:j<ts.length
  ·have e1:(ts++[bj t])[j]'B=ts[j]:=yx e;have es:j<st.length:=(by rw[g];exact e);have A:(st++[((tb,0,[]):DT)])[j]'F=st[j]:=yx es;rw[e1,A];obtain⟨lm,m1,m2⟩:=h.tab j e es;exact⟨lm,m1.tn o (fun q c=>Classical.byContradiction fun hn=>by have r:=m2 q hn;have h2:O q=1:=c;omega),fun q c=>(hE q (m1.lt q c)).trans (m2 q c)⟩
  have e0:j=ts.length:=(by simp at B;omega);subst e0;have e3:(ts++[bj t])[ts.length]'B=bj t:=(by simp);have e4:(st++[((tb,0,[]):DT)])[ts.length]'F=(tb,0,[]):=(by simp[<-g]);rw[e3,e4];refine⟨m,q3,fun q c=>?_⟩;obtain⟨r,h2⟩:=q4 q c;show(if q<W.heap.size then O q else if q=b then 1 else if m q≠0 then ts.length+2 else 0)=ts.length+2;rw[zu (by omega),zu h2,zw c]
 have c:(if q<W.heap.size then O q else if q=b then 1 else if m q≠0 then ts.length+2 else 0)≠0:=c;by_cases G:q<W.heap.size
 ·have:=o.size;omega
 rw[zu G]at c;by_cases e:q=b
 ·rw[e];exact q2.lt
 rw[zu e]at c;by_cases hl:m q≠0
 ·exact q3.lt q hl
 rw[zu hl]at c;exact absurd rfl c
end
def ou(ts:List T)(x y:ByteArray):ByteArray:=(sg (dt (dq ts x) y)).tgt
def jb(ts:List T)(As:List (List R1))(x:ByteArray):List R1:=(As[(jz ts x).toNat]?).getD []
def oy(A:List R1)(k:Nat)(id:Int):T3:=((A.find? fun a=>decide (a.1=id)).map fun a=>a.2.getD k z3).getD z3
def di(A:List R1)(id:Int):Bool:=A.any fun a=>decide (a.1=id)
def cellP(ts:List T)(As:List (List R1))(x:ByteArray)(id:Int)(y:ByteArray):T3:=oy (jb ts As x) (fx (dq ts x) y).toNat id
def oh(ts:List T)(As:List (List R1)):ByteArray->Int->List ByteArray->T3
 | _,_,[]=>z3
 | x,id,y::r=>if r.isEmpty=true then cellP ts As x id y else match bi ts As (ou ts x y) (cellP ts As x id y)with
  | none=>z3
  | some i=>oh ts As (ou ts x y) i r
def ay(ts:List T)(As:List (List R1))(x:ByteArray)(id:Int)(p:List ByteArray):T3×Bool:=
 if (et ts x p).2.2=0/\di (jb ts As x) id=true then(oh ts As x id p,true)else(z3,false)
section
variable{ts:List T}{As:List (List R1)}{x y:ByteArray}{id:Int}{p:List ByteArray}{j:Nat}
theorem jQ(p:List ByteArray){j:Nat}(hj:j<p.length):(p.drop (j+1)).isEmpty=true↔j+1=p.length:=by
 constructor
 ·intro h;rw[List.isEmpty_iff]at h
  have:=congrArg List.length h
  simp only[vt,vc]at this;omega
 intro h;rw[List.drop_of_length_le (by omega)];rfl
theorem Gb(hj:j<p.length)(h:j+1=p.length):oh ts As x id (p.drop j)=cellP ts As x id p[j]:=by
 rw[vh hj,oh,zw ((jQ p hj).2 h)]
theorem FU(hj:j<p.length)(h:j+1≠p.length)(hb:bi ts As (ou ts x p[j]) (cellP ts As x id p[j])=none):oh ts As x id (p.drop j)=z3:=by
 rw[vh hj,oh,zu (fun e=>h ((jQ p hj).1 e)),hb]
theorem GD(hj:j<p.length)(h:j+1≠p.length){i:Int}(hb:bi ts As (ou ts x p[j]) (cellP ts As x id p[j])=some i):oh ts As x id (p.drop j)=oh ts As (ou ts x p[j]) i (p.drop (j+1)):=by
 rw[vh hj,oh,zu (fun e=>h ((jQ p hj).1 e)),hb]
theorem yH(hj:j<p.length)(h:(pcol ts x (p.drop j)).2.2=0):cp (dq ts x) p[j]=true/\(j+1≠p.length->(pcol ts (ou ts x p[j]) (p.drop (j+1))).2.2=0):=by
 rw[yG ts x p hj]at h;split at h
 ·rename_i b;refine⟨b,fun a=>?_⟩;rw[zu a]at h;split at h
  ·exact absurd h (by decide)
  exact h
 exact absurd h (by decide)
theorem Hz(h:cp (dq ts x) y=true):∃(j:Nat) (c:j<ts.length),ts[j].nm=x/\jz ts x=(j:Int)/\bg ts x=some ts[j]/\dq ts x=ts[j].cols/\∃k,k<ts[j].cols.length/\fx ts[j].cols y=(k:Int):=by
 rcases bW ts x with ⟨_,_,a⟩ | ⟨j,c,d,_,a⟩
 ·rw[dq,a]at h;simp[cp,nu,ot]at h
 have e:dq ts x=ts[j].cols:=(by rw[dq,a];rfl);rw[e]at h;rcases cD ts[j].cols y with ⟨_,b,_⟩ | ⟨k,f,b,_⟩
 ·rw[b]at h;cases h
 have g:ts[j].nm=x:=by
  have:=List.find?_some (l:=ts) (p:=qb x) a
  exact cY (by simpa [qb,ip]using this)
 exact⟨j,c,g,d,a,e,k,f,b⟩
theorem DI{A:List R1}{k:Nat}{v:T3}{i:Int}(h:jj A k v=some i):di A i=true:=by
 unfold jj at h;cases b:A.find? (fun a=>decide (a.2.getD k z3=v))with
 | none=>rw[b]at h;cases h
 | some a =>
  rw[b]at h;simp only[Option.map_some,Option.some.injEq]at h;unfold di;rw[vd];exact⟨a,List.mem_of_find?_eq_some b,by simpa using h⟩
theorem vZ{v:T3}{i:Int}(h:bi ts As x v=some i):di (jb ts As x) i=true:=by
 unfold bi at h;split at h
 ·rename_i t A b a;rw[jb,a];split at h
  ·cases h
  split at h
  ·cases h
  split at h
  ·cases h
  exact DI h
 cases h
theorem oU{A:List R1}{i:Int}:di A i=true↔∃a∈A,a.1=i:=by
 unfold di;rw[vd]
 simp
theorem tE{A:List R1}{i:Int}:di A i=false↔∀a∈A,a.1≠i:=by
 unfold di;rw[v6]
 simp
theorem D2{A:List R1}{i:Int}(h:di A i=true):∃a∈A,a.1=i/\∀k,oy A k i=a.2.getD k z3:=by
 unfold di at h;have c:(A.find? fun a=>decide (a.1=i)).isSome=true:=List.find?_isSome.2 (List.any_eq_true.1 h);obtain⟨a,b⟩:=Option.isSome_iff_exists.1 c;refine⟨a,List.mem_of_find?_eq_some b,by simpa using List.find?_some b,fun k=>?_⟩;unfold oy;rw[b];rfl
theorem Eh{A:List R1}{i:Int}(h:di A i=false)(k:Nat):oy A k i=z3:=by
 have:A.find? (fun a=>decide (a.1=i))=none:=by
  rw[vz];unfold di at h;rw[v6]at h;exact h
 unfold oy;rw[this];rfl
end
theorem G4{dv pv v mv:Value}{ts:List T}{x:ByteArray}{p:List ByteArray}{id:Int}{W:World}(hd:∀w,Below W.heap.size W w->Calls prog 37 #[dv] w fun e w'=>e=.returned pv/\w'=w)(h:mh mv W pv ts)(hp:Wd W v p)(hno:(et ts x p).2.2≠0):Calls prog 17 #[dv,.string x,.int .i64 id,v] W fun e w'=>e=.returned (.tuple #[.agg #[.int .i64 0,.int .i64 0,.string e0],.bool false])/\Below W.heap.size W w':=by
 have b:=aD W (.cells #[.int .i64 0,.int .i64 0,.string e0] 32);have o:=z7 W (.cells #[.int .i64 0,.int .i64 0,.string e0] 32);obtain⟨y,f⟩:=ae (W.alloc (.cells #[.int .i64 0,.int .i64 0,.string e0] 32));obtain⟨B,q⟩:=ae W.heap.size;rw[f]at b o;have s:=hd y b;have k:=fE (tb:=x) (h.later b) (hp.later b);obtain⟨err,d⟩:=ae ((et ts x p).2.2);obtain⟨s2,l⟩:=ae ((et ts x p).2.1);obtain⟨z,r⟩:=ae ((et ts x p).1);rw[d]at k hno;rw[l,r]at k;obtain⟨nm,kd,mu,tg⟩:=z;rw[show dy ⟨nm,kd,mu,tg⟩=.agg #[.string nm,.int .i64 kd,.bool mu,.string tg]from rfl]at k;rw[q]at o;have m:=aa (ab f (ab q (ab b o)));clear f q b o hd h hp d l;go_enter func17,ntmps17;go_upto_region 1 with fail;rw[m.1,m.2.1]
 go_wp2_with (first|(go_at_call 37;refine s.mono ?_;rintro e A⟨rfl,H⟩;subst A;clear s)|(go_at_call 44;refine k.mono ?_;rintro e t⟨rfl,g⟩;have j:=aD t (.cells #[.string nm,.int .i64 kd,.bool mu,.string tg] 107);have a:=aE j (aE g m.2.2.2);have I:=aA a 0;have J:=aA a 1;have L:=aA a 2;have M:=fun i=>zq (t.alloc (.cells #[.string nm,.int .i64 kd,.bool mu,.string tg] 107)) B i _ _ a;have N:=aB a;have u:=aa (ab (aC (aC m.2.2.1 g) j) a);clear k g j a))
 have c:=gD u.2 (.int .i64 0) (.int .i64 0) (.string e0);have n:=bD u.1 (xn m.2.1) (.int .i64 0) (.int .i64 0) (.string e0);generalize ((World.setCell _ _ _).setCell _ _).setCell _ _=wz at c n ⊢;have E:=aA c 0;have F:=aA c 1;have G:=aA c 2;refine y8 (v:=.tuple #[.agg #[.int .i64 0,.int .i64 0,.string e0],.bool false]) (by simp[results,results17,go_sem,E,F,G]) rfl ?_;exact⟨rfl,n⟩
theorem yI{w:World}{a b:Nat}{x y u v:Value}{t1 t2:TypeId}(h1:w.heap[a]?=some (.cells #[x] t1))(h2:w.heap[b]?=some (.cells #[y] t2))(hne:a≠b):((w.setCell ⟨a,0,none⟩ u).setCell ⟨b,0,none⟩ v).cell? ⟨a,0,none⟩=some u/\((w.setCell ⟨a,0,none⟩ u).setCell ⟨b,0,none⟩ v).cell? ⟨b,0,none⟩=some v:=by
 have c:=y7 w a 0 #[x] t1 u h1;have d:(w.setCell ⟨a,0,none⟩ u).heap[b]?=some (.cells #[y] t2):=(y9 w ⟨a,0,none⟩ b u (fun e=>hne e.symm)).trans h2;have f:=y7 (w.setCell ⟨a,0,none⟩ u) b 0 #[y] t2 v d;have g:((w.setCell ⟨a,0,none⟩ u).setCell ⟨b,0,none⟩ v).heap[a]?=_:=(y9 (w.setCell ⟨a,0,none⟩ u) ⟨b,0,none⟩ a v hne).trans c;exact⟨aA g 0,aA f 0⟩
theorem jR{dv pv mv:Value}{ts:List T}{x:ByteArray}{u:T3}{W:World}(hd:∀w,Below W.heap.size W w->Calls prog 37 #[dv] w fun e w'=>e=.returned pv/\w'=w)(h:mh mv W pv ts)(hfew:bs ts)(hno:(nu (bg ts x)).key=e0∨u.1=0):Calls prog 47 #[dv,.string x,.agg #[.int .i64 u.1,.int .i64 u.2.1,.string u.2.2]] W fun e w'=>e=.returned (.tuple #[.int .i64 0,.bool false])/\Below W.heap.size W w':=by
 have o:=aD W (.cells #[.int .i64 u.1,.int .i64 u.2.1,.string u.2.2] 32);have n:=z7 W (.cells #[.int .i64 u.1,.int .i64 u.2.1,.string u.2.2] 32);have k:=aD (W.alloc (.cells #[.int .i64 u.1,.int .i64 u.2.1,.string u.2.2] 32)) (.cells #[.int .i64 0] 3);have l:=z7 (W.alloc (.cells #[.int .i64 u.1,.int .i64 u.2.1,.string u.2.2] 32)) (.cells #[.int .i64 0] 3);have a:=aD ((W.alloc (.cells #[.int .i64 u.1,.int .i64 u.2.1,.string u.2.2] 32)).alloc (.cells #[.int .i64 0] 3)) (.cells #[.bool false] 4);have q:=z7 ((W.alloc (.cells #[.int .i64 u.1,.int .i64 u.2.1,.string u.2.2] 32)).alloc (.cells #[.int .i64 0] 3)) (.cells #[.bool false] 4);have n:=aE a (aE k n);have l:=aE a l;have a:=aC (aC o k) a;obtain⟨S,m⟩:=ae (((W.alloc (.cells #[.int .i64 u.1,.int .i64 u.2.1,.string u.2.2] 32)).alloc (.cells #[.int .i64 0] 3)).alloc (.cells #[.bool false] 4));obtain⟨B,z⟩:=ae W.heap.size;simp only[zm]at l q;rw[m]at a n l q;rw[z]at n l q;have I:=hd S a;have g:=dZ (x:=x) (h.later a) hfew;generalize nu (bg ts x)=t at g hno;generalize fe ts x=ok at g;have j:=aa (ab m (ab z (ab a (ab n (ab l q)))));clear m z o k a n l q hd h hfew;have X:∃b:Bool,b=decide (t.key=e0):=⟨_,rfl⟩;go_enter func47,ntmps47;go_upto_region 1 with fail;rw[j.1,j.2.1]
 go_upto_region 2 with (first|(go_at_call 37;(with_reducible refine I.mono ?_);rintro e U⟨rfl,Y⟩;subst U;clear I)|(go_at_call 38;(with_reducible refine g.mono ?_);rintro e A⟨J,L,c1,M,N,c2,rfl,_,d⟩;have f:=aD A (.cells #[.string t.nm,.slice J L c1,.string t.key,.slice M N c2] 60);have O:=z7 A (.cells #[.string t.nm,.slice J L c1,.string t.key,.slice M N c2] 60);have P:=aa (ab (aC j.2.2.1 (aC d f)) (ab (aE f (aE d j.2.2.2.1)) (ab (aE f (aE d j.2.2.2.2.1)) (ab (aE f (aE d j.2.2.2.2.2)) O))));clear g d f O))
 generalize A.alloc _=w4 at P ⊢;obtain⟨Q,E,r,s,F⟩:=P.out;have Z:=aA F 2;have v0:=aA E 0;have r0:=aA r 0;have r1:=aA s 0;have f0:=(fun i=>zq w4 (B+1) i _ _ r);have f1:=(fun i=>zq w4 (B+1+1) i _ _ s);have l0:=aB r;have l1:=aB s;have l2:=aB F;have l3:=aB E;have y:=yI (u:=.int .i64 0) (v:=.bool false) r s (by omega);have c:Below B W ((w4.setCell ⟨B+1,0,none⟩ (.int .i64 0)).setCell ⟨B+1+1,0,none⟩ (.bool false)):=((j.2.1▸Q).setCell (p:=⟨B+1,0,none⟩) (by show B<=B+1;omega) _).setCell (p:=⟨B+1+1,0,none⟩) (by show B<=B+1+1;omega) _;have R:=aa (ab y c);clear Q E r s F y c;by_cases V:t.key=e0
 ·go_upto_region 3 with fail
  all_goals (go_wp2_with fail)
  all_goals
   obtain⟨⟨G,H⟩,c⟩:=R.out;refine y8 (v:=.tuple #[.int .i64 0,.bool false]) (by simp[results,results47,go_sem,G,H]) rfl ?_;exact⟨rfl,j.2.1▸c⟩
 obtain hu:u.1=0:=hno.resolve_left V;go_upto_region 3 with fail
 all_goals (go_wp2_with fail)
 all_goals
  obtain⟨⟨G,H⟩,c⟩:=R.out;refine y8 (v:=.tuple #[.int .i64 0,.bool false]) (by simp[results,results47,go_sem,G,H]) rfl ?_;exact⟨rfl,j.2.1▸c⟩
def BU(x:T3):T3:=(x.1,x.2.1,AS 20 x.2.2)
def BT(N:Nat)(xs:List T3):List T3:=(xs.map BU).take N
structure jt where
 dO:Int
 tbl:ByteArray
 id:Int
 col:ByteArray
 vals:List T3
def opC(u:jt)(v:Value):List Value:=[.int .i64 u.dO,.string u.tbl,.int .i64 u.id,.string u.col,v]
def mx(L:List jt)(vs:List Value):List Value:=(L.zip vs).flatMap fun p=>opC p.1 p.2
def CK(u:jt):jt:=⟨u.dO,AS 20 u.tbl,u.id,AS 20 u.col,BT 7 u.vals⟩
def D6(W:World)(p:Option Addr)(L:List jt):Prop:=∀j (hj:j<L.length),∃(b off:Nat) (vv:Value),p=some ⟨b,off,none⟩/\b<W.heap.size/\W.cell? ⟨b,off+j*5,none⟩=some (.int .i64 L[j].dO)/\W.cell? ⟨b,off+j*5+1,none⟩=some (.string L[j].tbl)/\W.cell? ⟨b,off+j*5+2,none⟩=some (.int .i64 L[j].id)/\W.cell? ⟨b,off+j*5+3,none⟩=some (.string L[j].col)/\W.cell? ⟨b,off+j*5+4,none⟩=some vv/\fk (fun q=>q<W.heap.size) W vv L[j].vals/\L[j].tbl.size<=maxLen/\L[j].col.size<=maxLen/\∀x∈L[j].vals,x.2.2.size<=maxLen
def qv(w:World)(base:Nat)(tv:Value)(L:List jt):Prop:=∃sv:List Value,sv.length=L.length/\ac w base 73 5 tv L.length (mx L sv)/\∀j (hj:j<L.length),∃v,sv[j]?=some v/\ac w base 32 3 v L[j].vals.length (cells3 L[j].vals)
structure OJ (W0:World) (base:Nat) (E:Nat->Value) (rv:Value) (n:Nat) (xs:List Value) (u:jt) (l:Nat->Bool) (vs:Nat->Value) (w:World):Prop where
 gb:W0.grownBy w rv.ownBlock
 f0:l 16=false->Below W0.heap.size W0 w
 ev:∀j,j<13->l j=true->vs j=E j
 f13:l 13=true->∃p c,vs 13=.slice p u.vals.length c/\ac w base 32 3 (vs 13) u.vals.length (cells3 u.vals)
 f14:l 14=true->vs 14=.agg #[.int .i64 u.dO,.string u.tbl,.int .i64 u.id,.string u.col,vs 13]
 f15:l 15=true->l 16=false->∃y,w=y.alloc (.cells #[.int .i64 u.dO,.string u.tbl,.int .i64 u.id,.string u.col,vs 13] 73)/\vs 15=.slice (some ⟨y.heap.size,0,none⟩) 1 1/\Below W0.heap.size W0 y/\∀q,(vs 13).ownBlock=some q->q<y.heap.size
 f16:l 16=true->∃g cap,vs 16=.slice (some ⟨g,0,none⟩) (n+1) cap/\ac w base 73 5 (.slice (some ⟨g,0,none⟩) (n+1) cap) (n+1) (xs++opC u (vs 13))/\(rv.ownBlock=some g∨W0.heap.size<=g)
section
open Par
variable{W0 w w':World}{base:Nat}{E:Nat->Value}{rv:Value}{n:Nat}{xs:List Value}{u:jt}{l:Nat->Bool}{vs:Nat->Value}
end
