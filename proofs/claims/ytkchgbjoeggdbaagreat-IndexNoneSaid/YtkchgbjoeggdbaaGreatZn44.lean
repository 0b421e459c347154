import Derived.Test.YtkchgbjoeggdbaaGreatZn39
set_option maxHeartbeats 8000000
set_option maxRecDepth 100000
namespace Go.Proofs.YtkchgbjoeggdbaaGreat
open Go.Proofs.Tryz
open Go Go.RowKit Go.Proofs Co Co.S
abbrev TT:Nat->Prop:=fun _=>True
theorem wN{c:C}{x:ByteArray}{b:Nat}{w:World}(h:w.cell? ⟨b,0,none⟩=some (.string x)):Calls prog 227 #[tq c,.pointer (some ⟨b,0,none⟩)] w fun e d=>e=.returned (.bool (mw x c))/\Below w.heap.size w d:=by
 have f:b<w.heap.size:=xh w ⟨b,0,none⟩ h;have a:(c.nm.toList==x.toList)=mw x c:=(by rw[aQ];rfl);generalize mw x c=r at a ⊢;unfold tq;go_enter func227,ntmps227
 go_wp2
 go_ret;exact⟨rfl,aD w _⟩
theorem CW{l:List C}{v:Value}{x:ByteArray}{b:Nat}{W:World}(h:fj W v l)(hb:W.cell? ⟨b,0,none⟩=some (.string x)):Calls prog 113 #[v,.func (.func 227) #[] #[.pointer (some ⟨b,0,none⟩)]] W fun e H=>e=.returned (.int .i64 (fx l x))/\Below W.heap.size W H:=by
 obtain⟨pc,cc,p,I,J⟩:=h.slice;obtain⟨n,u⟩:=ae l.length;unfold maxLen at J;rw[u]at p I;subst p;have q:b<W.heap.size:=xh W ⟨b,0,none⟩ hb;have y:=aa u;have z:=aa (ab h (ab hb q));have F:=enters_of func227 (by kernel_rfl) rfl;clear h hb u q;go_enter func113,ntmps113;go_wp2_with fail;go_loopg [8] (n+1) (fun L M w=>∃(j:Nat),M=.int .i64 (j:Int)/\j<=n/\n+1<=j+L/\(∀i (h:i<l.length),i<j->mw x l[i]=false)/\Below W.heap.size W w)
 case atStart=>exact⟨0,rfl,zj _,by omega,fun i _ k=>by omega,zg _ _⟩
 obtain⟨j,rfl,S,U,r,t⟩:=hrel;have m:=aa (ab r t);by_cases s:j<n
 ·have A:j<l.length:=(by rw[y.out];exact s);obtain⟨bc,N,rfl,O,c0,c1,c2,c3⟩:=fj.col (z.1.later t) A;have d:wr.cell? ⟨b,0,none⟩=some (.string x):=(ze (w:=W) (t.block b z.2.2)).trans z.2.1;have a:=wN (c:=l[j]) d;obtain⟨c,f⟩:=ae (l[j]);rw[f]at c0 c1 c2 c3 a;have G:=aa f;have P:(j:Int)<(n:Int):=(by omega);clear f r t d;unfold tq at a;cases o:mw x c
  ·have B:=aa o;rw[o]at a;clear o;go_wp2_with (go_at_call 227;refine a.mono ?_;rintro e Q⟨rfl,g⟩);have E:=aa g;go_roundg (n-j)
   case measure=>omega
   refine⟨j+1,by go_num,by omega,by omega,fun i k R=>?_,aC m.2 E.out⟩;by_cases e:i=j
   ·subst e;rw[G.out];exact B.out
   exact m.1 i k (by omega)
  have B:=aa o;rw[o]at a;clear o;go_wp2_with (go_at_call 227;refine a.mono ?_;rintro e Q⟨rfl,g⟩);go_ret;exact⟨aP (vH j (by rw[y.out];exact s) (by rw[G.out];exact B.out) (fun i k=>m.1 i _ k)).symm,aC m.2 g⟩
 go_wp2_with fail;go_ret;exact⟨aP (mF (fun i k=>m.1 i k (by have:=y.out;omega))).symm,m.2⟩
theorem fk.cells{w:World}{p:Option Addr}{n c k:Nat}{A:List T3}(h:fk TT w (.slice p n c) A)(hk:k<A.length):∃b a,p=some ⟨b,a,none⟩/\∀d,Below w.heap.size w d->d.cell? ⟨b,a+k*3,none⟩=some (.int .i64 (A.getD k z3).1)/\d.cell? ⟨b,a+k*3+1,none⟩=some (.int .i64 (A.getD k z3).2.1)/\d.cell? ⟨b,a+k*3+2,none⟩=some (.string (A.getD k z3).2.2)/\b<d.heap.size:=by
 obtain⟨b,a,rfl,_,_⟩:=fk.val h hk;have e:A[k]=A.getD k z3:=(by rw[zv,z6 hk];rfl);refine⟨b,a,rfl,fun d j=>?_⟩;obtain⟨o,q,l,m,f,g,i⟩:=fk.val (h.later j) hk;cases l;rw[e]at f g i;exact⟨f,g,i,m⟩
theorem nM{w:World}{cv dv va vb:Value}{t:T}{nm key x:ByteArray}{k:Nat}{A B:List T3}(hT:dw w cv dv t)(hx:fx t.cols x=(k:Int))(ha:fk TT w va A)(E:fk TT w vb B)(hA:k<A.length)(hB:k<B.length)(hl:A.length<=1000/\B.length<=1000):Calls prog 222 #[.agg #[.string nm,cv,.string key,dv],.string x,va,vb] w fun e f=>e=.returned (.bool (decide (A.getD k z3=B.getD k z3)))/\Below w.heap.size w f:=by
 obtain⟨pc,cc,rfl,_,_⟩:=hT.c.slice;obtain⟨pd,cd,rfl,_,_⟩:=hT.d.slice;obtain⟨pa,Y,rfl,_,_⟩:=ha.slice;obtain⟨pb,cb,rfl,_,_⟩:=E.slice;obtain⟨Q,R,rfl,m⟩:=ha.cells hA;obtain⟨gb,S,rfl,n⟩:=E.cells hB;obtain⟨u,I⟩:=ae (A.getD k z3);obtain⟨v,J⟩:=ae (B.getD k z3);rw[I]at m;rw[J]at n;rw[I,J];have b1:=aD w (.cells #[.string nm,.slice pc t.cols.length cc,.string key,.slice pd t.deps.length cd] 60);have l:=z7 w (.cells #[.string nm,.slice pc t.cols.length cc,.string key,.slice pd t.deps.length cd] 60);have b2:=aD (w.alloc (.cells #[.string nm,.slice pc t.cols.length cc,.string key,.slice pd t.deps.length cd] 60)) (.cells #[.string x] 9);have s:=z7 (w.alloc (.cells #[.string nm,.slice pc t.cols.length cc,.string key,.slice pd t.deps.length cd] 60)) (.cells #[.string x] 9);have l:=aE b2 l;rw[zm]at s;have b2:=aC b1 b2;obtain⟨w1,g⟩:=ae ((w.alloc (.cells #[.string nm,.slice pc t.cols.length cc,.string key,.slice pd t.deps.length cd] 60)).alloc (.cells #[.string x] 9));obtain⟨F,L⟩:=ae w.heap.size;rw[g]at l s b2;rw[L]at l s;have a:=CW (x:=x) (hT.c.later b2) (aA s 0);rw[hx]at a;obtain⟨nc,h⟩:=ae t.cols.length;obtain⟨nd,o⟩:=ae t.deps.length;obtain⟨na,i⟩:=ae A.length;obtain⟨nb,j⟩:=ae B.length;rw[h,o]at g l;rw[h]at a;rw[i,j]at hl;rw[i]at hA;rw[j]at hB;rw[h,o,i,j];have Z:(k:Int)<(na:Int):=(by omega);have a0:(k:Int)<(nb:Int):=(by omega);have x1:=aA l 1;have xl:=aB l;have yl:=aB s;have M:=aa (ab g (ab L b2));have z:=aa (ab m n);have p:=(fun y=>xZ u v y);obtain⟨r,U⟩:=ae (decide (u=v));rw[U]at p ⊢;have N:=aa p;have V:(na:Int)<=1000:=(by omega);have W:(nb:Int)<=1000:=(by omega);have X:=enters_of func227 (by kernel_rfl) rfl;clear hT ha E m n I J b1 b2 l s g L hx h o i j hA hB hl U p;go_enter func222,ntmps222;go_upto_region 1 with fail;rw[M.1,M.2.1];go_upto_region 2 with (go_at_call 113;(with_reducible refine a.mono ?_);rintro e O⟨rfl,G⟩;have q:=aa (aC M.2.2 G);clear a G);clear x1 xl yl;refine Par.ag 10 [.slice (some ⟨Q,R,none⟩) na Y,.int .i64 (k:Int),.pointer (some ⟨Q,R+k*3,none⟩),.agg #[.int .i64 u.1,.int .i64 u.2.1,.string u.2.2],.slice (some ⟨gb,S,none⟩) nb cb,.int .i64 (k:Int),.pointer (some ⟨gb,S+k*3,none⟩),.agg #[.int .i64 v.1,.int .i64 v.2.1,.string v.2.2],.bool r,.bool r] (fun y=>Below O.heap.size O y) ?A1 ?hm1 ?hB1 ?hA1 (aG O) ?hop1 ?hT1
 case hm1=>kernel_rfl
 case hB1=>kernel_rfl
 case hA1 =>
  simp only[Par.am,Par.ai,Act.put,eh,ez,dz,eo,ew,ey,ed,ic,gy];rfl
 case hop1 =>
  simp only[en,zh,Par.ah,yo];and_intros<;>intro f b<;>have H:=aa b
  rotate_left 3;have z1:=(z.1 f (aC q.out b)).1;have z2:=(z.1 f (aC q.out b)).2.1;have P:=(z.1 f (aC q.out b)).2.2.1;rotate_left 4;have z1:=(z.2 f (aC q.out b)).1;have z2:=(z.2 f (aC q.out b)).2.1;have P:=(z.2 f (aC q.out b)).2.2.1;rotate_left
  ·clear b;simp only[Par.Gives];go_simp;exact(N.out f).mono (fun e a1⟨he,E⟩=>⟨he,aC H.out E⟩)
  rotate_left
  all_goals(clear b;simp only[Par.Gives];go_simp;all_goals exact H.out)
 intro f b;simp only[ex,ym];have H:=aa (aC q.out b);clear b;go_wp2_with fail;go_ret;exact⟨rfl,H.out⟩
def re(t:T)(x:ByteArray):Prop:=∃k:Nat,fx t.cols x=(k:Int)/\k<t.cols.length
theorem qS{w:World}{cv dv va vb lv:Value}{t:T}{nm key rt:ByteArray}{left:List ByteArray}{A B:List T3}(hT:dw w cv dv t)(hL:kh w lv left)(hd:∀x∈left,re t x)(ha:fk TT w va A)(hb:fk TT w vb B)(hA:A.length=t.cols.length)(o:B.length=t.cols.length)(hc:t.cols.length<=1000)(hn:left.length<=1000):Calls prog 224 #[.agg #[.string nm,cv,.string key,dv],.agg #[lv,.string rt],va,vb] w fun e O=>e=.returned (.bool (left.all fun x=>bf t x A B))/\Below w.heap.size w O:=by
 obtain⟨pc,cc,rfl,_,_⟩:=hT.c.slice;obtain⟨pd,cd,rfl,_,_⟩:=hT.d.slice;obtain⟨Y,Z,rfl,_,_⟩:=ha.slice;obtain⟨pb,cb,rfl,_,_⟩:=hb.slice;obtain⟨pl,cl,rfl,_,_⟩:=hL.slice;have b1:=aD w (.cells #[.string nm,.slice pc t.cols.length cc,.string key,.slice pd t.deps.length cd] 60);have u:=z7 w (.cells #[.string nm,.slice pc t.cols.length cc,.string key,.slice pd t.deps.length cd] 60);have b2:=aD (w.alloc (.cells #[.string nm,.slice pc t.cols.length cc,.string key,.slice pd t.deps.length cd] 60)) (.cells #[.slice pl left.length cl,.string rt] 155);have v:=z7 (w.alloc (.cells #[.string nm,.slice pc t.cols.length cc,.string key,.slice pd t.deps.length cd] 60)) (.cells #[.slice pl left.length cl,.string rt] 155);have u:=aE b2 u;rw[zm]at v;have b2:=aC b1 b2;obtain⟨q,p⟩:=ae ((w.alloc (.cells #[.string nm,.slice pc t.cols.length cc,.string key,.slice pd t.deps.length cd] 60)).alloc (.cells #[.slice pl left.length cl,.string rt] 155));obtain⟨F,P⟩:=ae w.heap.size;rw[p]at u v b2;rw[P]at u v
 have f:Hid (∀y,Below q.heap.size q y->∀x∈left,Calls prog 222 #[.agg #[.string nm,.slice pc t.cols.length cc,.string key,.slice pd t.deps.length cd],.string x,.slice Y A.length Z,.slice pb B.length cb] y fun e O=>e=.returned (.bool (bf t x A B))/\Below y.heap.size y O):=aa (fun y z x E=>by
  obtain⟨k,W,a0⟩:=hd x E
  have:=nM (nm:=nm) (key:=key) (hT.later (aC b2 z)) W (ha.later (aC b2 z)) (hb.later (aC b2 z)) (by omega) (by omega) (by omega)
  unfold bf tk;rw[W];exact this)
 have Q:Hid (∀y,Below q.heap.size q y->∀j (R:j<left.length),∃b G,pl=some ⟨b,G,none⟩/\b<y.heap.size/\y.cell? ⟨b,G+j,none⟩=some (.string left[j])):=aa (fun y z j R=>kh.word (hL.later (aC b2 z)) R);obtain⟨nc,g⟩:=ae t.cols.length;obtain⟨nd,l⟩:=ae t.deps.length;obtain⟨nl,m⟩:=ae left.length;rw[g,l]at f;rw[hA,o,g]at f;rw[g,l,m]at p;rw[g,l]at u;rw[m]at v;rw[hA,o,g,l,m];have X:(nl:Int)<=1000:=(by omega);have x0:=aA v 0;have xl:=aB v;have HK:Hid (∀y,Below q.heap.size q y->y.heap[F]?=some (.cells #[.string nm,.slice pc nc cc,.string key,.slice pd nd cd] 60)):=aa (fun y z=>aE z u);have I:=aa (ab p (ab P (ab b2 m)));clear hT hL hd ha hb hA o hc hn b1 b2 u v p P g l m;go_enter func224,ntmps224;go_upto_region 1 with fail;rw[I.1,I.2.1];go_wp2_with fail;clear x0 xl;go_loopg [14] (nl+1) (fun gh jv y=>∃(j:Nat),jv=.int .i64 (j:Int)/\j<=nl/\nl+1<=j+gh/\(∀i (h:i<left.length),i<j->bf t left[i] A B=true)/\Below q.heap.size q y)
 case atStart=>exact⟨0,rfl,zj _,by omega,fun i _ L=>by omega,zg _ _⟩
 obtain⟨j,rfl,R,hg,s,o⟩:=hrel;have M:=aa (ab s o);by_cases S:j<nl
 ·have H:j<left.length:=(by rw[I.2.2.2];exact S);have a1:(j:Int)<(nl:Int):=(by omega);obtain⟨b,G,rfl,yl,y1⟩:=Q.out wr o j H;have a:=f.out wr o _ (z8 H);have J:=HK.out wr o;have y0:=aA J 0;have yk:=aA J 1;have y2:=aA J 2;have y3:=aA J 3;have a2:=aB J;obtain⟨x,E⟩:=ae (left[j]);rw[E]at y1 a;obtain⟨r,U⟩:=ae (bf t x A B);rw[U]at a;have N:=aa (ab E U);clear s o E U J;cases r
  ·go_wp2_with (go_at_call 222;refine a.mono ?_;rintro e w2⟨rfl,n⟩;have V:=aa (aC M.2 n);clear a n);go_ret;refine⟨?_,aC I.2.2.1 V.out⟩
   have:(left.all fun x=>bf t x A B)=false:=by
    rw[List.all_eq_false];exact⟨left[j],z8 H,by rw[N.1,N.2];decide⟩
   rw[this];rfl
  go_wp2_with (go_at_call 222;refine a.mono ?_;rintro e w2⟨rfl,n⟩;have V:=aa (aC M.2 n);clear a n);go_roundg (nl-j)
  case measure=>omega
  refine⟨j+1,by go_num,by omega,by omega,fun i L a3=>?_,V.out⟩;by_cases e:i=j
  ·subst e;rw[N.1];exact N.2
  exact M.1 i L (by omega)
 obtain rfl:j=nl:=(by omega);go_wp2_with fail;go_ret;refine⟨?_,aC I.2.2.1 M.2⟩
 have:(left.all fun x=>bf t x A B)=true:=by
  rw[xi];intro x E;obtain⟨i,L,rfl⟩:=xp E;exact M.1 i L (by rw[<-I.2.2.2];exact L)
 rw[this];rfl
def RL(w:World)(v:Value)(B:List (List T3)):Prop:=∃p c,v=.slice p B.length c/\∀j (hj:j<B.length),∃g vj,p=some ⟨g,0,none⟩/\g<w.heap.size/\w.cell? ⟨g,j,none⟩=some vj/\fk TT w vj B[j]
theorem RL.later{w w':World}{v:Value}{B:List (List T3)}(h:RL w v B)(hb:Below w.heap.size w w'):RL w' v B:=by
 obtain⟨p,c,e,d⟩:=h;refine⟨p,c,e,fun j f=>?_⟩;obtain⟨g,vj,i,b,k,l⟩:=d j f;exact⟨g,vj,i,z9 b hb.size,(ze (a:=⟨g,j,none⟩) (hb.block g b)).trans k,l.later hb⟩
def tz(q:Nat->Bool)(n:Nat):Int:=match br q n with|none=>-1|some k=>(k:Int)
section
variable{w:World}{v:Value}{B:List (List T3)}{q:Nat->Bool}
theorem ER{F V:Nat}(h:RL w v B)(hl:B.length<=1000)(hcall:∀b,Below w.heap.size w b->∀j (u:j<B.length) vj,fk TT b vj B[j]->Calls prog 221 #[vj,.pointer (some ⟨F,0,none⟩),.pointer (some ⟨V,0,none⟩)] b fun e z=>e=.returned (.bool (q j))/\Below b.heap.size b z):Calls prog 226 #[v,.func (.func 221) #[] #[.pointer (some ⟨F,0,none⟩),.pointer (some ⟨V,0,none⟩)]] w fun e z=>e=.returned (.int .i64 (tz q B.length))/\Below w.heap.size w z:=by
 obtain⟨p,c,rfl,f⟩:=h
 have O:Hid (∀b,Below w.heap.size w b->∀j (u:j<B.length),∃g vj,p=some ⟨g,0,none⟩/\g<b.heap.size/\b.cell? ⟨g,j,none⟩=some vj/\fk TT b vj B[j]):=aa (fun b A j u=>by
  obtain⟨g,vj,P,I,Q,R⟩:=f j u;exact⟨g,vj,P,z9 I A.size,(ze (a:=⟨g,j,none⟩) (A.block g I)).trans Q,R.later A⟩)
 obtain⟨n,E⟩:=ae B.length;have J:=aa (ab hcall E);rw[E];have S:(n:Int)<=1000:=(by omega);have L:=enters_of func221 (by kernel_rfl) rfl;clear f hcall hl E;go_enter func226,ntmps226;go_wp2_with fail;go_loopg [8] (n+1) (fun U W y=>∃(j:Nat),W=.int .i64 (j:Int)/\j<=n/\n+1<=j+U/\(∀i,i<j->q i=false)/\Below w.heap.size w y)
 case atStart=>exact⟨0,rfl,zj _,by omega,fun i X=>by omega,zg _ _⟩
 obtain⟨j,rfl,u,hg,o,x⟩:=hrel;have k:=aa (ab o x);by_cases s:j<n
 ·have t:j<B.length:=(by rw[J.2];exact s);have Y:(j:Int)<(n:Int):=(by omega);obtain⟨g,vj,rfl,gl,c0,G⟩:=O.out wr x j t;have l:=J.1 wr x j t vj G;obtain⟨pv,cv,rfl,_,_⟩:=G.slice;obtain⟨m,M⟩:=ae (B[j].length);rw[M]at c0 l;obtain⟨r,f⟩:=ae (q j);rw[f]at l;have N:=aa f;clear o x G M f;cases r
  ·go_wp2_with (go_at_call 221;refine l.mono ?_;rintro e Z⟨rfl,d⟩;have H:=aa (aC k.2 d);clear l d);go_roundg (n-j)
   case measure=>omega
   refine⟨j+1,by go_num,by omega,by omega,fun i X=>?_,H.out⟩;by_cases e:i=j
   ·subst e;exact N.out
   exact k.1 i (by omega)
  go_wp2_with (go_at_call 221;refine l.mono ?_;rintro e Z⟨rfl,d⟩;have H:=aa (aC k.2 d);clear l d);go_ret;refine⟨?_,H.out⟩;have e:tz q n=(j:Int):=(by unfold tz;rw[bL s N.out k.1]);rw[e];rfl
 obtain rfl:j=n:=(by omega);go_wp2_with fail;go_ret;refine⟨?_,k.2⟩;have e:tz q j=-1:=(by unfold tz;rw[aV k.1]);rw[e];rfl
theorem DX{F V:Nat}(h:RL w v B)(hl:B.length<=1000)(hcall:∀d,Below w.heap.size w d->∀j (hj:j<B.length) vj,fk TT d vj B[j]->Calls prog 221 #[vj,.pointer (some ⟨F,0,none⟩),.pointer (some ⟨V,0,none⟩)] d fun e g=>e=.returned (.bool (q j))/\Below d.heap.size d g):Calls prog 220 #[v,.func (.func 221) #[] #[.pointer (some ⟨F,0,none⟩),.pointer (some ⟨V,0,none⟩)]] w fun e g=>e=.returned (.bool (br q B.length).isSome)/\Below w.heap.size w g:=by
 have b:=ER h hl hcall;obtain⟨p,c,rfl,_⟩:=h;unfold tz at b;cases f:br q B.length with
 | none =>
  rw[f]at b;clear hcall f hl;go_enter func220,ntmps220;go_wp2_with (go_at_call 226;refine b.mono ?_;rintro e l⟨rfl,a⟩;have i:=aa a;clear b a);go_ret;exact⟨rfl,i.out⟩
 | some k =>
  rw[f]at b;have m:(k:Int)≥0:=(by omega);clear hcall f hl;go_enter func220,ntmps220;go_wp2_with (go_at_call 226;refine b.mono ?_;rintro e l⟨rfl,a⟩;have i:=aa a;clear b a);go_ret;refine⟨?_,i.out⟩
  first|rfl|simp
theorem G8{F V U:Nat}(h:RL w v B)(hl:B.length<=1000)(hcall:∀b,Below w.heap.size w b->∀j (u:j<B.length) vj,fk TT b vj B[j]->Calls prog 223 #[vj,.pointer (some ⟨F,0,none⟩),.pointer (some ⟨V,0,none⟩),.pointer (some ⟨U,0,none⟩)] b fun e z=>e=.returned (.bool (q j))/\Below b.heap.size b z):Calls prog 226 #[v,.func (.func 223) #[] #[.pointer (some ⟨F,0,none⟩),.pointer (some ⟨V,0,none⟩),.pointer (some ⟨U,0,none⟩)]] w fun e z=>e=.returned (.int .i64 (tz q B.length))/\Below w.heap.size w z:=by
 obtain⟨p,c,rfl,f⟩:=h
 have O:Hid (∀b,Below w.heap.size w b->∀j (u:j<B.length),∃g vj,p=some ⟨g,0,none⟩/\g<b.heap.size/\b.cell? ⟨g,j,none⟩=some vj/\fk TT b vj B[j]):=aa (fun b A j u=>by
  obtain⟨g,vj,P,I,Q,R⟩:=f j u;exact⟨g,vj,P,z9 I A.size,(ze (a:=⟨g,j,none⟩) (A.block g I)).trans Q,R.later A⟩)
 obtain⟨n,E⟩:=ae B.length;have J:=aa (ab hcall E);rw[E];have S:(n:Int)<=1000:=(by omega);have L:=enters_of func223 (by kernel_rfl) rfl;clear f hcall hl E;go_enter func226,ntmps226;go_wp2_with fail;go_loopg [8] (n+1) (fun W X y=>∃(j:Nat),X=.int .i64 (j:Int)/\j<=n/\n+1<=j+W/\(∀i,i<j->q i=false)/\Below w.heap.size w y)
 case atStart=>exact⟨0,rfl,zj _,by omega,fun i Y=>by omega,zg _ _⟩
 obtain⟨j,rfl,u,hg,o,x⟩:=hrel;have k:=aa (ab o x);by_cases s:j<n
 ·have t:j<B.length:=(by rw[J.2];exact s);have Z:(j:Int)<(n:Int):=(by omega);obtain⟨g,vj,rfl,gl,c0,G⟩:=O.out wr x j t;have l:=J.1 wr x j t vj G;obtain⟨pv,cv,rfl,_,_⟩:=G.slice;obtain⟨m,M⟩:=ae (B[j].length);rw[M]at c0 l;obtain⟨r,f⟩:=ae (q j);rw[f]at l;have N:=aa f;clear o x G M f;cases r
  ·go_wp2_with (go_at_call 223;refine l.mono ?_;rintro e w2⟨rfl,d⟩;have H:=aa (aC k.2 d);clear l d);go_roundg (n-j)
   case measure=>omega
   refine⟨j+1,by go_num,by omega,by omega,fun i Y=>?_,H.out⟩;by_cases e:i=j
   ·subst e;exact N.out
   exact k.1 i (by omega)
  go_wp2_with (go_at_call 223;refine l.mono ?_;rintro e w2⟨rfl,d⟩;have H:=aa (aC k.2 d);clear l d);go_ret;refine⟨?_,H.out⟩;have e:tz q n=(j:Int):=(by unfold tz;rw[bL s N.out k.1]);rw[e];rfl
 obtain rfl:j=n:=(by omega);go_wp2_with fail;go_ret;refine⟨?_,k.2⟩;have e:tz q j=-1:=(by unfold tz;rw[aV k.1]);rw[e];rfl
theorem EL{F V U:Nat}(h:RL w v B)(hl:B.length<=1000)(hcall:∀d,Below w.heap.size w d->∀j (hj:j<B.length) vj,fk TT d vj B[j]->Calls prog 223 #[vj,.pointer (some ⟨F,0,none⟩),.pointer (some ⟨V,0,none⟩),.pointer (some ⟨U,0,none⟩)] d fun e g=>e=.returned (.bool (q j))/\Below d.heap.size d g):Calls prog 220 #[v,.func (.func 223) #[] #[.pointer (some ⟨F,0,none⟩),.pointer (some ⟨V,0,none⟩),.pointer (some ⟨U,0,none⟩)]] w fun e g=>e=.returned (.bool (br q B.length).isSome)/\Below w.heap.size w g:=by
 have b:=G8 h hl hcall;obtain⟨p,c,rfl,_⟩:=h;unfold tz at b;cases f:br q B.length with
 | none =>
  rw[f]at b;clear hcall f hl;go_enter func220,ntmps220;go_wp2_with (go_at_call 226;refine b.mono ?_;rintro e l⟨rfl,a⟩;have i:=aa a;clear b a);go_ret;exact⟨rfl,i.out⟩
 | some k =>
  rw[f]at b;have m:(k:Int)≥0:=(by omega);clear hcall f hl;go_enter func220,ntmps220;go_wp2_with (go_at_call 226;refine b.mono ?_;rintro e l⟨rfl,a⟩;have i:=aa a;clear b a);go_ret;refine⟨?_,i.out⟩
  first|rfl|simp
end
section
variable{w:World}{pc pd:Option Addr}{nc cc nd cd F V U:Nat}{va vj:Value}{nm key rt x:ByteArray}{r:Bool}
theorem Ey{pa pj:Option Addr}{na ca nj cj:Nat}(hF:w.heap[F]?=some (.cells #[.string nm,.slice pc nc cc,.string key,.slice pd nd cd] 60))(hV:w.heap[V]?=some (.cells #[.slice pa na ca] 35))(hl:Calls prog 222 #[.agg #[.string nm,.slice pc nc cc,.string key,.slice pd nd cd],.string key,.slice pa na ca,.slice pj nj cj] w fun e b=>e=.returned (.bool r)/\Below w.heap.size w b):Calls prog 221 #[.slice pj nj cj,.pointer (some ⟨F,0,none⟩),.pointer (some ⟨V,0,none⟩)] w fun e b=>e=.returned (.bool r)/\Below w.heap.size w b:=by
 have d:=aA hF 0;have f:=aA hF 1;have g:=aA hF 2;have h:=aA hF 3;have i:=aB hF;have j:=aA hV 0;have k:=aB hV;clear hF hV;go_enter func221,ntmps221;go_wp2_with (go_at_call 222;refine hl.mono ?_;rintro e l⟨rfl,a⟩;have c:=aa a;clear hl a);go_ret;exact⟨rfl,c.out⟩
theorem EK{pa pj pl:Option Addr}{na ca nj cj nl cl:Nat}{r2:Bool}(hF:w.heap[F]?=some (.cells #[.string nm,.slice pc nc cc,.string key,.slice pd nd cd] 60))(hV:w.heap[V]?=some (.cells #[.slice pl nl cl,.string rt] 155))(hU:w.heap[U]?=some (.cells #[.slice pa na ca] 35))(hl:Calls prog 224 #[.agg #[.string nm,.slice pc nc cc,.string key,.slice pd nd cd],.agg #[.slice pl nl cl,.string rt],.slice pa na ca,.slice pj nj cj] w fun e c=>e=.returned (.bool r)/\Below w.heap.size w c)(d:∀g,Below w.heap.size w g->Calls prog 222 #[.agg #[.string nm,.slice pc nc cc,.string key,.slice pd nd cd],.string rt,.slice pa na ca,.slice pj nj cj] g fun e c=>e=.returned (.bool r2)/\Below g.heap.size g c):Calls prog 223 #[.slice pj nj cj,.pointer (some ⟨F,0,none⟩),.pointer (some ⟨V,0,none⟩),.pointer (some ⟨U,0,none⟩)] w fun e c=>e=.returned (.bool (r&&!r2))/\Below w.heap.size w c:=by
 have j:=aA hF 0;have k:=aA hF 1;have l:=aA hF 2;have m:=aA hF 3;have n:=aB hF;have o:=aA hV 0;have p:=aA hV 1;have q:=aB hV;have s:=aA hU 0;have t:=aB hU;have b:=aa (ab hF (ab hV (ab hU d)));clear hF hV hU d;cases r
 ·go_enter func223,ntmps223;go_wp2_with (go_at_call 224;refine hl.mono ?_;rintro e i⟨rfl,a⟩;have h:=aa a;clear hl a);go_ret;exact⟨rfl,h.out⟩
 go_enter func223,ntmps223
 go_wp2_with (first|(go_at_call 224;refine hl.mono ?_;rintro e i⟨rfl,a⟩;have h:=aa a;have d:=b.2.2.2 i a;have x:=aA (aE a b.1) 0;have y:=aA (aE a b.1) 1;have z:=aA (aE a b.1) 2;have A:=aA (aE a b.1) 3;have B:=aB (aE a b.1);have b1:=aA (aE a b.2.1) 1;have bl:=aB (aE a b.2.1);have c0:=aA (aE a b.2.2.1) 0;have u:=aB (aE a b.2.2.1);clear hl a j k l m n o p q s t)|(go_at_call 222;refine d.mono ?_;rintro e E⟨rfl,f⟩;have v:=aa (aC h.out f);clear d f))
 go_ret;refine⟨?_,v.out⟩
 first|rfl|simp
end
section
variable{w:World}{cv dv va rv:Value}{t:T}{A:List T3}{B:List (List T3)}
theorem nN{x:ByteArray}(h:x≠e0):x.toList.isEmpty=false:=iW h
structure so (t:T) (A:List T3) (B:List (List T3)):Prop where
 la:A.length=t.cols.length
 lb:∀b∈B,b.length=t.cols.length
 lc:t.cols.length<=1000
 nb:B.length<=1000
theorem qT(hT:dw w cv dv t)(ha:fk TT w va A)(hR:RL w rv B)(hk:t.key=e0∨re t t.key)(hro:so t A B):Calls prog 206 #[.agg #[.string t.nm,cv,.string t.key,dv],va,rv] w fun e z=>e=.returned (.bool (ll t A B))/\Below w.heap.size w z:=by
 obtain⟨pc,cc,rfl,_,_⟩:=hT.c.slice;obtain⟨pd,cd,rfl,_,_⟩:=hT.d.slice;obtain⟨G,H,rfl,_,_⟩:=ha.slice;have b1:=aD w (.cells #[.string t.nm,.slice pc t.cols.length cc,.string t.key,.slice pd t.deps.length cd] 60);have i:=z7 w (.cells #[.string t.nm,.slice pc t.cols.length cc,.string t.key,.slice pd t.deps.length cd] 60);have b2:=aD (w.alloc (.cells #[.string t.nm,.slice pc t.cols.length cc,.string t.key,.slice pd t.deps.length cd] 60)) (.cells #[.slice G A.length H] 35);have l:=z7 (w.alloc (.cells #[.string t.nm,.slice pc t.cols.length cc,.string t.key,.slice pd t.deps.length cd] 60)) (.cells #[.slice G A.length H] 35);have i:=aE b2 i;rw[zm]at l;have b2:=aC b1 b2;obtain⟨I,f⟩:=ae ((w.alloc (.cells #[.string t.nm,.slice pc t.cols.length cc,.string t.key,.slice pd t.deps.length cd] 60)).alloc (.cells #[.slice G A.length H] 35));obtain⟨F,u⟩:=ae w.heap.size;rw[f]at i l b2;rw[u]at i l;have V:=aA i 0;have Q:=aA i 2;have W:=aB i;have X:=aB l;by_cases s:t.key=e0
 ·have g:ll t A B=false:=(by unfold ll;rw[yp (fun h=>h s)];rfl);obtain⟨pr,cr,rfl,_⟩:=hR;rw[s]at f Q ⊢;have m:=aa (ab f (ab u b2));clear hT ha hk hro i l f u b1 b2;rw[g];clear g s;go_enter func206,ntmps206;go_upto_region 1 with fail;rw[m.1,m.2.1];go_wp2_with fail;go_ret;exact⟨rfl,m.2.2⟩
 have L:=nN s;obtain⟨k,n,o⟩:=hk.resolve_left s
 have a:Calls prog 220 #[rv,.func (.func 221) #[] #[.pointer (some ⟨F,0,none⟩),.pointer (some ⟨F+1,0,none⟩)]] I fun e z=>e=.returned (.bool (br (fun j=>bf t t.key A (B.getD j [])) B.length).isSome)/\Below I.heap.size I z:=by
  refine DX (q:=fun j=>bf t t.key A (B.getD j [])) (hR.later b2) hro.nb (fun y E j p vj M=>?_);obtain⟨Y,Z,rfl,_,_⟩:=M.slice;have v:=hro.lb _ (z8 p);have e:B.getD j []=B[j]:=(by rw[zv,z6 p];rfl);refine Ey (aE E i) (aE E l) ?_
  have:=nM (nm:=t.nm) (key:=t.key) (hT.later (aC b2 E)) n (ha.later (aC b2 E)) M (by rw[hro.la];exact o) (by rw[v];exact o) ⟨by rw[hro.la];exact hro.lc,by rw[v];exact hro.lc⟩
  show Calls _ _ _ _ (fun e z=>e=.returned (.bool (bf t t.key A (B.getD j [])))/\_);unfold bf tk;rw[n,e];exact this
 have g:ll t A B=(br (fun j=>bf t t.key A (B.getD j [])) B.length).isSome:=by
  unfold ll;rw[yy s,ve,wu,vd];constructor
  ·rintro⟨b,R,S⟩;obtain⟨j,p,rfl⟩:=xp R;cases J:br (fun j=>bf t t.key A (B.getD j [])) B.length with
   | some _=>rfl
   | none =>
    unfold br at J;rw[vz]at J
    have:=J j (List.mem_range.2 p)
    rw[zv,z6 p]at this;exact absurd S this
  intro h;obtain⟨j,p⟩:=Option.isSome_iff_exists.1 h;obtain⟨N,O,_⟩:=nH p;rw[zv,z6 N]at O;exact⟨B[j],z8 N,O⟩
 rw[g];obtain⟨r,P⟩:=ae ((br (fun j=>bf t t.key A (B.getD j [])) B.length).isSome);rw[P]at a ⊢;obtain⟨pr,cr,rfl,_⟩:=hR;have m:=aa (ab f (ab u b2));clear hT ha hk hro i l f u b1 b2 g P n o;go_enter func206,ntmps206;go_upto_region 1 with fail;rw[m.1,m.2.1];go_wp2_with (go_at_call 220;refine a.mono ?_;rintro e w2⟨rfl,x⟩;have U:=aa (aC m.2.2 x);clear a x);go_ret;exact⟨rfl,U.out⟩
end
theorem wP{B:List (List T3)}{p:List T3->Bool}:(br (fun j=>p (B.getD j [])) B.length).isSome=B.any p:=by
 rw[wu,vd];constructor
 ·intro h;obtain⟨j,a⟩:=Option.isSome_iff_exists.1 h;obtain⟨d,e,_⟩:=nH a;rw[zv,z6 d]at e;exact⟨B[j],z8 d,e⟩
 rintro⟨b,f,g⟩;obtain⟨j,a,rfl⟩:=xp f;cases c:br (fun j=>p (B.getD j [])) B.length with
 | some _=>rfl
 | none =>
  unfold br at c;rw[vz]at c
  have:=c j (List.mem_range.2 a)
  rw[zv,z6 a]at this;exact absurd g this
section
variable{w:World}{cv dv va rv lv:Value}{t:T}{A:List T3}{B:List (List T3)}{d:D}
structure Ay (t:T) (d:D):Prop where
 l:∀x∈d.left,re t x
 r:re t d.right
 n:d.left.length<=1000
theorem wQ(hT:dw w cv dv t)(hL:kh w lv d.left)(hd:Ay t d)(ha:fk TT w va A)(hR:RL w rv B)(hro:so t A B):Calls prog 208 #[.agg #[.string t.nm,cv,.string t.key,dv],.agg #[lv,.string d.right],va,rv] w fun e M=>e=.returned (.bool (dk t d A B))/\Below w.heap.size w M:=by
 obtain⟨pc,cc,rfl,_,_⟩:=hT.c.slice;obtain⟨pd,cd,rfl,_,_⟩:=hT.d.slice;obtain⟨Q,R,rfl,_,_⟩:=ha.slice;obtain⟨pl,cl,rfl,_,_⟩:=hL.slice;have b1:=aD w (.cells #[.string t.nm,.slice pc t.cols.length cc,.string t.key,.slice pd t.deps.length cd] 60);have s:=z7 w (.cells #[.string t.nm,.slice pc t.cols.length cc,.string t.key,.slice pd t.deps.length cd] 60);obtain⟨N,u⟩:=ae (w.alloc (.cells #[.string t.nm,.slice pc t.cols.length cc,.string t.key,.slice pd t.deps.length cd] 60));have O:=zm w (.cells #[.string t.nm,.slice pc t.cols.length cc,.string t.key,.slice pd t.deps.length cd] 60);rw[u]at b1 s O;have b2:=aD N (.cells #[.slice pl d.left.length cl,.string d.right] 155);have o:=z7 N (.cells #[.slice pl d.left.length cl,.string d.right] 155);have S:=zm N (.cells #[.slice pl d.left.length cl,.string d.right] 155);obtain⟨wb,v⟩:=ae (N.alloc (.cells #[.slice pl d.left.length cl,.string d.right] 155));rw[v]at b2 o S;have m:=aD wb (.cells #[.slice Q A.length R] 35);have H:=z7 wb (.cells #[.slice Q A.length R] 35);have s:=aE m (aE b2 s);have o:=aE m o;have m:=aC (aC b1 b2) m;obtain⟨F,W⟩:=ae w.heap.size;rw[S,O]at H;rw[O]at o;obtain⟨X,z⟩:=ae (((w.alloc (.cells #[.string t.nm,.slice pc t.cols.length cc,.string t.key,.slice pd t.deps.length cd] 60)).alloc (.cells #[.slice pl d.left.length cl,.string d.right] 155)).alloc (.cells #[.slice Q A.length R] 35));have g:=z;rw[u,v]at g;rw[g]at s o H m;rw[W]at s o H
 have f:Calls prog 220 #[rv,.func (.func 223) #[] #[.pointer (some ⟨F,0,none⟩),.pointer (some ⟨F+1,0,none⟩),.pointer (some ⟨F+1+1,0,none⟩)]] X fun e M=>e=.returned (.bool (dk t d A B))/\Below X.heap.size X M:=by
  have:=EL (F:=F) (V:=F+1) (U:=F+1+1) (q:=fun j=>(fun a=>d.left.all (fun x=>bf t x A a)&&!bf t d.right A a) (B.getD j [])) (hR.later m) hro.nb (fun y P j hj vj Y=>by
   obtain⟨pj,cj,rfl,_,_⟩:=Y.slice;have E:=hro.lb _ (z8 hj);have e:B.getD j []=B[j]:=(by rw[zv,z6 hj];rfl);have i:=aC m P;simp only[e];refine EK (aE P s) (aE P o) (aE P H) (qS (hT.later i) (hL.later i) hd.l (ha.later i) Y hro.la E hro.lc hd.n) (fun y2 G=>?_);obtain⟨k,I,J⟩:=hd.r
   have:=nM (nm:=t.nm) (key:=t.key) (hT.later (aC i G)) I (ha.later (aC i G)) (Y.later G) (by rw[hro.la];exact J) (by rw[E];exact J) ⟨by rw[hro.la];exact hro.lc,by rw[E];exact hro.lc⟩
   unfold bf tk;rw[I];exact this)
  exact this.mono (fun e M h=>⟨h.1.trans (congrArg (fun b=>Ending.returned (.bool b)) (wP (B:=B) (p:=fun a=>d.left.all (fun x=>bf t x A a)&&!bf t d.right A a))),h.2⟩)
 obtain⟨r,hr⟩:=ae (dk t d A B);rw[hr]at f ⊢;obtain⟨pr,cr,rfl,_⟩:=hR;have Z:=aa (ab z (ab W m));clear hT ha hL hd hro s o H z g u v W b1 b2 m hr O S;go_enter func208,ntmps208;go_upto_region 1 with fail;rw[Z.1,Z.2.1];go_wp2_with (go_at_call 220;refine f.mono ?_;rintro e w2⟨rfl,L⟩;have H2:=aa (aC Z.2.2 L);clear f L);go_ret;exact⟨rfl,H2.out⟩
theorem wR{dp:Nat}{x:ByteArray}{u:T3}{o:Option Int}(hk:∀h,Below w.heap.size w h->Calls prog 47 #[.pointer (some ⟨dp,0,none⟩),.string x,.agg #[.int .i64 u.1,.int .i64 u.2.1,.string u.2.2]] h fun e j=>e=.returned (.tuple #[.int .i64 (o.getD 0),.bool o.isSome])/\Below h.heap.size h j):Calls prog 207 #[.pointer (some ⟨dp,0,none⟩),.string x,.agg #[.int .i64 u.1,.int .i64 u.2.1,.string u.2.2]] w fun e j=>e=.returned (.bool (decide (u.1≠0)&&o.isNone))/\Below w.heap.size w j:=by
 have b1:=aD w (.cells #[.int .i64 u.1,.int .i64 u.2.1,.string u.2.2] 32);have d:=z7 w (.cells #[.int .i64 u.1,.int .i64 u.2.1,.string u.2.2] 32);obtain⟨h,g⟩:=ae (w.alloc (.cells #[.int .i64 u.1,.int .i64 u.2.1,.string u.2.2] 32));obtain⟨F,k⟩:=ae w.heap.size;rw[g]at b1 d;rw[k]at d;have a:=hk h b1;have m:=aA d 0;have n:=aA d 1;have p:=aA d 2;have q:=aB d;have f:=aa (ab g (ab k (ab b1 d)));clear hk b1 d g k;cases o with
 | some i =>
  go_enter func207,ntmps207;go_upto_region 1 with fail;rw[f.1,f.2.1];go_wp2_with (go_at_call 47;refine a.mono ?_;rintro e r⟨rfl,c⟩;have l:=aa (aC f.2.2.1 c);clear a c);go_ret;exact⟨by simp,l.out⟩
 | none =>
  have e:decide (u.1≠0)=(u.1 != 0):=(by rw[wu];simp);rw[e];obtain⟨b,s⟩:=ae (u.1 != 0);rw[s];clear e;go_enter func207,ntmps207;go_upto_region 1 with fail;rw[f.1,f.2.1];go_wp2_with (go_at_call 47;refine a.mono ?_;rintro e r⟨rfl,c⟩;have l:=aa (aC f.2.2.1 c);have t:=aA (aE c f.2.2.2) 0;have v:=aB (aE c f.2.2.2);clear a c m n p q);go_ret;refine⟨?_,l.out⟩
  first|rfl|simp
end
structure qj (t:T):Prop where
 key:t.key=e0∨re t t.key
 deps:∀d∈t.deps,Ay t d
 nc:t.cols.length<=1000
 nd:t.deps.length<=1000
section
variable{ts:List T}{As:List (List R1)}{t:T}{r:List T3}{B:List (List T3)}{k:Nat}
def qp(t:T)(k:Nat):D:=t.deps.getD k ⟨[],e0⟩
theorem wT(hk:k<t.deps.length):qp t k=t.deps[k]:=by unfold qp;rw[zv,z6 hk];rfl
theorem nO(hk:k<t.cols.length):mq t k=t.cols[k]:=by unfold mq;rw[zv,z6 hk];rfl
theorem pB(hk:k<t.cols.length)(h:eg t r k=true)(h0:∀j,j<k->eg t r j=false):ge ts As t r B=(7,(mq t k).nm):=by
 unfold ge;rw[bL hk h h0]
theorem tV(h1:∀j,j<t.cols.length->eg t r j=false)(h:ll t r B=true):ge ts As t r B=(8,t.key):=by
 unfold ge;rw[aV h1];simp only;rw[zw h]
theorem tW(h1:∀j,j<t.cols.length->eg t r j=false)(h2:ll t r B=false)(hk:k<t.cols.length)(h:jm ts As t r k=true)(h0:∀j,j<k->jm ts As t r j=false):ge ts As t r B=(9,(mq t k).nm):=by
 unfold ge;rw[aV h1];simp only;rw[zu (by rw[h2];decide),bL hk h h0]
theorem tX(h1:∀j,j<t.cols.length->eg t r j=false)(h2:ll t r B=false)(h3:∀j,j<t.cols.length->jm ts As t r j=false)(hk:k<t.deps.length)(h:dk t (qp t k) r B=true)(h0:∀j,j<k->dk t (qp t j) r B=false):ge ts As t r B=(10,(qp t k).right):=by
 unfold ge;rw[aV h1];simp only;rw[zu (by rw[h2];decide),aV h3];simp only
 rw[bL (p:=fun k=>dk t (t.deps.getD k ⟨[],e0⟩) r B) hk h h0];rfl
theorem pC(h1:∀j,j<t.cols.length->eg t r j=false)(h2:ll t r B=false)(h3:∀j,j<t.cols.length->jm ts As t r j=false)(h0:∀j,j<t.deps.length->dk t (qp t j) r B=false):ge ts As t r B=(0,e0):=by
 unfold ge;rw[aV h1];simp only;rw[zu (by rw[h2];decide),aV h3];simp only
 rw[aV (p:=fun k=>dk t (t.deps.getD k ⟨[],e0⟩) r B) h0]
end
theorem cH{x:Int×ByteArray}{a:Int}{b:ByteArray}(h:x=(a,b)):Ending.returned (.tuple #[.int .i64 a,.string b])=.returned (.tuple #[.int .i64 x.1,.string x.2]):=by rw[h]
section
variable{w:World}{cv dv va rv:Value}{ts:List T}{As:List (List R1)}{t:T}{r:List T3}{B:List (List T3)}{dp:Nat}
theorem De(hT:dw w cv dv t)(hf:qj t)(ha:fk TT w va r)(a:RL w rv B)(hro:so t r B)(hbk:∀n,Below w.heap.size w n->∀(x:ByteArray) (u:T3),Calls prog 47 #[.pointer (some ⟨dp,0,none⟩),.string x,.agg #[.int .i64 u.1,.int .i64 u.2.1,.string u.2.2]] n fun e l=>e=.returned (.tuple #[.int .i64 ((bi ts As x u).getD 0),.bool (bi ts As x u).isSome])/\Below n.heap.size n l):Calls prog 194 #[.pointer (some ⟨dp,0,none⟩),.agg #[.string t.nm,cv,.string t.key,dv],va,rv] w fun e l=>e=.returned (.tuple #[.int .i64 (ge ts As t r B).1,.string (ge ts As t r B).2])/\Below w.heap.size w l:=by
 obtain⟨pc,cc,rfl,_,_⟩:=hT.c.slice;obtain⟨pd,cd,rfl,_,_⟩:=hT.d.slice;obtain⟨pa,ca,rfl,_,_⟩:=ha.slice;obtain⟨pr,cr,e1⟩:∃p c,rv=.slice p B.length c:=(by obtain⟨p,c,e,_⟩:=a;exact⟨p,c,e⟩);have b1:=aD w (.cells #[.string t.nm,.slice pc t.cols.length cc,.string t.key,.slice pd t.deps.length cd] 60);have k1:=z7 w (.cells #[.string t.nm,.slice pc t.cols.length cc,.string t.key,.slice pd t.deps.length cd] 60);obtain⟨n,a2⟩:=ae (w.alloc (.cells #[.string t.nm,.slice pc t.cols.length cc,.string t.key,.slice pd t.deps.length cd] 60));obtain⟨F,hF⟩:=ae w.heap.size;rw[a2]at b1 k1;rw[hF]at k1;have c5:Hid (∀y,Below n.heap.size n y->Calls prog 206 #[.agg #[.string t.nm,.slice pc t.cols.length cc,.string t.key,.slice pd t.deps.length cd],.slice pa r.length ca,rv] y fun e l=>e=.returned (.bool (ll t r B))/\Below y.heap.size y l):=aa (fun y J=>qT (hT.later (aC b1 J)) (ha.later (aC b1 J)) (a.later (aC b1 J)) hf.key hro)
 have b7:Hid (∀y,Below n.heap.size n y->∀k (S:k<t.cols.length),∃b f,pc=some ⟨b,f,none⟩/\b<y.heap.size/\y.cell? ⟨b,f+k*4,none⟩=some (.string (mq t k).nm)/\y.cell? ⟨b,f+k*4+1,none⟩=some (.int .i64 (mq t k).kd)/\y.cell? ⟨b,f+k*4+2,none⟩=some (.bool (mq t k).mu)/\y.cell? ⟨b,f+k*4+3,none⟩=some (.string (mq t k).tgt)):=aa (fun y J k S=>by
  rw[nO S];obtain⟨b,f,e,h1,h2,h3,h4,h5⟩:=fj.col (hT.c.later (aC b1 J)) S;exact⟨b,f,e,h1,h2,h3,h4,h5⟩)
 have b8:Hid (∀y,Below n.heap.size n y->∀k (S:k<r.length),∃b f,pa=some ⟨b,f,none⟩/\∀y',Below y.heap.size y y'->y'.cell? ⟨b,f+k*3,none⟩=some (.int .i64 (r.getD k z3).1)/\y'.cell? ⟨b,f+k*3+1,none⟩=some (.int .i64 (r.getD k z3).2.1)/\y'.cell? ⟨b,f+k*3+2,none⟩=some (.string (r.getD k z3).2.2)/\b<y'.heap.size):=aa (fun y J k S=>(ha.later (aC b1 J)).cells S);have e2:Hid (∀y,Below n.heap.size n y->∀(x:ByteArray) (u:T3),Calls prog 207 #[.pointer (some ⟨dp,0,none⟩),.string x,.agg #[.int .i64 u.1,.int .i64 u.2.1,.string u.2.2]] y fun e l=>e=.returned (.bool (decide (u.1≠0)&&(bi ts As x u).isNone))/\Below y.heap.size y l):=aa (fun y J x u=>wR (fun y2 e3=>hbk y2 (aC (aC b1 J) e3) x u))
 have a3:Hid (∀y,Below n.heap.size n y->∀k (S:k<t.deps.length),∃b f pl cl,pd=some ⟨b,f,none⟩/\b<y.heap.size/\y.cell? ⟨b,f+k*2,none⟩=some (.slice pl (qp t k).left.length cl)/\y.cell? ⟨b,f+k*2+1,none⟩=some (.string (qp t k).right)/\∀y',Below y.heap.size y y'->Calls prog 208 #[.agg #[.string t.nm,.slice pc t.cols.length cc,.string t.key,.slice pd t.deps.length cd],.agg #[.slice pl (qp t k).left.length cl,.string (qp t k).right],.slice pa r.length ca,rv] y' fun e l=>e=.returned (.bool (dk t (qp t k) r B))/\Below y'.heap.size y' l):=aa (fun y J k S=>by
  rw[wT S];obtain⟨b,f,lv,e,h1,h2,h3,h4⟩:=px.dep (hT.d.later (aC b1 J)) S;obtain⟨pl,cl,rfl,_,_⟩:=h4.slice;exact⟨b,f,pl,cl,e,h1,h2,h3,fun y' b4=>wQ (hT.later (aC (aC b1 J) b4)) (h4.later b4) (hf.deps _ (z8 S)) (ha.later (aC (aC b1 J) b4)) (a.later (aC (aC b1 J) b4)) hro⟩)
 have HK:Hid (∀y,Below n.heap.size n y->y.heap[F]?=some (.cells #[.string t.nm,.slice pc t.cols.length cc,.string t.key,.slice pd t.deps.length cd] 60)):=aa (fun y J=>aE J k1);subst e1;obtain⟨nc,a4⟩:=ae t.cols.length;obtain⟨nd,a5⟩:=ae t.deps.length;obtain⟨nb,P⟩:=ae B.length;have e9:(nc:Int)<=1000:=(by have:=hf.nc;omega);have f1:(nd:Int)<=1000:=(by have:=hf.nd;omega);have HN:=aa (ab a4 (ab a5 (ab hro.la P)));rw[hro.la,a4,a5,P];simp only[hro.la,a4,a5,P]at c5 a3 HK;rw[a4,a5]at a2;obtain⟨f2,U⟩:=ae t.nm;obtain⟨b9,s⟩:=ae t.key;have e4:=aa s;rw[U,s];rw[U,s]at a2;simp only[U,s]at c5 a3 HK;have HW:=aa (ab a2 (ab hF b1));clear hT hf ha a hro hbk b1 k1 a2 hF a4 a5 P U s;go_enter func194,ntmps194;go_upto_region 1 with fail;rw[HW.1,HW.2.1];have x0:=HK.out n (zg _ _);have x1:=aA x0 1;have xl:=aB x0;clear x0;go_wp2_with fail;clear x1 xl;go_loopg [19] (nc+1) (fun gh jv y=>∃(j:Nat),jv=.int .i64 (j:Int)/\j<=nc/\nc+1<=j+gh/\(∀i,i<j->eg t r i=false)/\Below n.heap.size n y)
 case atStart=>exact⟨0,rfl,zj _,by omega,fun i hi=>by omega,zg _ _⟩
 obtain⟨j,rfl,hj,hg,v,O⟩:=hrel;have HI:=aa (ab v O);by_cases z:j<nc
 ·have d4:j<t.cols.length:=(by rw[HN.1];exact z);have f3:(j:Int)<(nc:Int):=(by omega);obtain⟨b,f,rfl,bl,c0,c1,c2,c3⟩:=b7.out wr O j d4;have e5:j<r.length:=(by rw[HN.2.2.1];exact d4);obtain⟨gv,ov,rfl,A⟩:=b8.out wr O j e5;obtain⟨c,M⟩:=ae (mq t j);obtain⟨u,hu⟩:=ae (r.getD j z3);rw[M]at c0 c1 c2 c3;rw[hu]at A;have P:eg t r j=(c.mu&&decide (u.1=0)):=(by unfold eg;rw[M,hu]);have W:=aD wr (.cells #[.string c.nm,.int .i64 c.kd,.bool c.mu,.string c.tgt] 107);have L:=z7 wr (.cells #[.string c.nm,.int .i64 c.kd,.bool c.mu,.string c.tgt] 107);obtain⟨N,E⟩:=ae (wr.alloc (.cells #[.string c.nm,.int .i64 c.kd,.bool c.mu,.string c.tgt] 107));obtain⟨V,hV⟩:=ae wr.heap.size;rw[E]at W L;rw[hV]at L;have c6:=A N W;have z2:=aA L 2;have z0:=aA L 0;have zl:=aB L;have v0:=c6.1;have vl:=c6.2.2.2;have g:=aa (ab E (ab hV (ab L (ab (aC HI.2 W) (ab P M)))));clear v O A W L E hV c6 P M hu;go_upto_region 4 with fail;rw[g.1,g.2.1];clear c0 c1 c2 c3 bl;obtain⟨mu,c7⟩:=ae c.mu;rw[c7]at z2;have c8:=aa c7;clear c7
  have G:eg t r j=false->∀i,i<j+1->eg t r i=false:=fun h i hi=>by
   by_cases e:i=j
   ·subst e;exact h
   exact HI.1 i (by omega)
  have a6:=aa G;clear G;cases mu
  ·have H:eg t r j=false:=(by rw[g.2.2.2.2.1,c8.out];rfl);have Q:=aa H;clear H;go_wp2_with fail;go_roundg (nc-j)
   case measure=>omega
   exact⟨j+1,by go_num,by omega,by omega,a6.out Q.out,g.2.2.2.1⟩
  by_cases Y:u.1=0
  ·have H:eg t r j=true:=(by rw[g.2.2.2.2.1,c8.out,yy Y];rfl);rw[Y]at v0;have Q:=aa H;clear H Y;go_upto_region 5 with fail;clear v0 vl z2;refine Par.ag 4 [.pointer (some ⟨V,0,none⟩),.string c.nm,.int .i64 7,.string c.nm] (fun y=>Below N.heap.size N y) ?A1 ?hm1 ?hB1 ?hA1 (aG N) ?hop1 ?hT1
   case hm1=>kernel_rfl
   case hB1=>kernel_rfl
   case hA1 =>
    simp only[Par.am,Par.ai,Act.put,eh,ez,dz,eo,ew,ey,ed,ic,gy];rfl
   case hop1 =>
    simp only[en,zh,Par.ah,yo];and_intros<;>intro l a<;>have o:=aa a
    have zl:=aB (aE a g.2.2.1);rotate_left;have z0:=aA (aE a g.2.2.1) 0;rotate_left 3
    all_goals(clear a;simp only[Par.Gives];go_simp;all_goals exact o.out)
   intro l a;simp only[ex,ym];have o:=aa (aC g.2.2.2.1 a);clear a z0 zl;go_wp2_with fail;go_ret2;have e:=pB (ts:=ts) (As:=As) (B:=B) (by rw[HN.1];exact z) Q.out HI.1;rw[g.2.2.2.2.2]at e;exact⟨cH e,aC HW.2.2 o.out⟩
  have H:eg t r j=false:=(by rw[g.2.2.2.2.1,c8.out,yp Y];rfl);have f4:(u.1==0)=false:=beq_eq_false_iff_ne.2 Y;have Q:=aa H;clear H Y;go_wp2_with fail;go_roundg (nc-j)
  case measure=>omega
  exact⟨j+1,by go_num,by omega,by omega,a6.out Q.out,g.2.2.2.1⟩
 obtain rfl:j=nc:=(by omega);have I:∀i,i<t.cols.length->eg t r i=false:=(fun i hi=>HI.1 i (by rw[<-HN.1];exact hi));have X:=aa I;clear v O I z hj hg;have Z:=HK.out wr HI.2;have y0:=aA Z 0;have y1:=aA Z 1;have y2:=aA Z 2;have y3:=aA Z 3;have yl:=aB Z;have a7:=c5.out wr HI.2;clear Z;obtain⟨kb,c9⟩:=ae (ll t r B);rw[c9]at a7;have b5:=aa c9;clear c9;cases kb
 ·go_upto_region 9 with (go_at_call 206;(with_reducible refine a7.mono ?_);rintro e w2⟨rfl,a8⟩;have H2:=aa (aC HI.2 a8);clear a7 a8);clear y0 y1 y2 y3 yl;have a1:=aA (HK.out w2 H2.out) 1;have al:=aB (HK.out w2 H2.out);go_wp2_with fail;clear a1 al;go_loopg [46] (j+1) (fun gh jv y=>∃(m:Nat),jv=.int .i64 (m:Int)/\m<=j/\j+1<=m+gh/\(∀i,i<m->jm ts As t r i=false)/\Below n.heap.size n y)
  case atStart=>exact⟨0,rfl,zj _,by omega,fun i hi=>by omega,H2.out⟩
  obtain⟨m,rfl,hm,hg,v,O⟩:=hrel;have a9:=aa (ab v O);by_cases z:m<j
  ·have d5:m<t.cols.length:=(by rw[HN.1];exact z);have f5:(m:Int)<(j:Int):=(by omega);obtain⟨b,f,rfl,bl,c0,c1,c2,c3⟩:=b7.out wr O m d5;have e6:m<r.length:=(by rw[HN.2.2.1];exact d5);obtain⟨gv,ov,rfl,A⟩:=b8.out wr O m e6;obtain⟨c,M⟩:=ae (mq t m);obtain⟨u,hu⟩:=ae (r.getD m z3);rw[M]at c0 c1 c2 c3;rw[hu]at A;have d6:jm ts As t r m=(decide (c.tgt≠e0)&&(decide (u.1≠0)&&(bi ts As c.tgt u).isNone)):=(by unfold jm;rw[M,hu]);have W:=aD wr (.cells #[.string c.nm,.int .i64 c.kd,.bool c.mu,.string c.tgt] 107);have L:=z7 wr (.cells #[.string c.nm,.int .i64 c.kd,.bool c.mu,.string c.tgt] 107);obtain⟨N,E⟩:=ae (wr.alloc (.cells #[.string c.nm,.int .i64 c.kd,.bool c.mu,.string c.tgt] 107));obtain⟨V,hV⟩:=ae wr.heap.size;rw[E]at W L;rw[hV]at L;have d0:Hid (∀y,Below N.heap.size N y->_):=aa (fun y J=>A y (aC W J));have g:=aa (ab E (ab hV (ab L (ab (aC a9.2 W) (ab d6 M)))))
   have G:jm ts As t r m=false->∀i,i<m+1->jm ts As t r i=false:=fun h i hi=>by
    by_cases e:i=m
    ·subst e;exact h
    exact a9.1 i (by omega)
   have a6:=aa G;clear v O A W L E hV d6 M hu G;go_upto_region 12 with fail;rw[g.1,g.2.1];clear c0 c1 c2 c3 bl;obtain⟨nm,d1⟩:=ae c.nm;obtain⟨tg,d2⟩:=ae c.tgt;rw[d1,d2]at g;have e7:=aa (ab d1 d2);clear d1 d2;by_cases b6:tg=e0
   ·subst b6;have H:jm ts As t r m=false:=(by rw[g.2.2.2.2.1];rfl);have Q:=aa H;clear H;refine Par.ag 13 [.pointer (some ⟨V,3,none⟩),.string e0,.bool false,.bool false,undef,undef,undef,undef,undef,undef,undef,undef,.bool false] (fun y=>Below N.heap.size N y) ?A2 ?hm2 ?hB2 ?hA2 (aG N) ?hop2 ?hT2
    case hm2=>kernel_rfl
    case hB2=>kernel_rfl
    case hA2 =>
     simp only[Par.am,Par.ai,Act.put,eh,ez,dz,eo,ew,ey,ed,ic,gy];rfl
    case hop2 =>
     simp only[en,zh,Par.ah,yo];and_intros<;>intro l a<;>have o:=aa a
     have zl:=aB (aE a g.2.2.1);rotate_left;have z0:=aA (aE a g.2.2.1) 3;rotate_left 12
     all_goals(clear a;simp only[Par.Gives];go_simp;all_goals exact o.out)
    intro l a;simp only[ex,ym];have o:=aa (aC g.2.2.2.1 a);clear a;go_wp2_with fail;go_roundg (j-m)
    case measure=>omega
    exact⟨m+1,by go_num,by omega,by omega,a6.out Q.out,o.out⟩
   have f6:=nN b6
   have d7:Hid (∀y,Below N.heap.size N y->Calls prog 207 #[.pointer (some ⟨dp,0,none⟩),.string tg,.agg #[.int .i64 u.1,.int .i64 u.2.1,.string u.2.2]] y fun e l=>e=.returned (.bool (jm ts As t r m))/\Below y.heap.size y l):=aa (fun y J=>by
    have e:jm ts As t r m=(decide (u.1≠0)&&(bi ts As tg u).isNone):=(by rw[g.2.2.2.2.1,yy b6,ve]);rw[e];exact e2.out y (aC g.2.2.2.1 J) tg u)
   obtain⟨q,hq⟩:=ae (jm ts As t r m);rw[hq]at d7;have HQ:=aa hq;clear hq b6;refine Par.ag 13 [.pointer (some ⟨V,3,none⟩),.string tg,.bool true,.bool true,.pointer (some ⟨dp,0,none⟩),.pointer (some ⟨V,3,none⟩),.string tg,.slice (some ⟨gv,ov,none⟩) j ca,.int .i64 (m:Int),.pointer (some ⟨gv,ov+m*3,none⟩),.agg #[.int .i64 u.1,.int .i64 u.2.1,.string u.2.2],.bool q,.bool q] (fun y=>Below N.heap.size N y) ?A3 ?hm3 ?hB3 ?hA3 (aG N) ?hop3 ?hT3
   case hm3=>kernel_rfl
   case hB3=>kernel_rfl
   case hA3 =>
    simp only[Par.am,Par.ai,Act.put,eh,ez,dz,eo,ew,ey,ed,ic,gy];rfl
   case hop3 =>
    simp only[en,zh,Par.ah,yo];and_intros<;>intro l a<;>have o:=aa a
    have zl:=aB (aE a g.2.2.1);rotate_left;have z0:=aA (aE a g.2.2.1) 3;rotate_left 4;have zl:=aB (aE a g.2.2.1);rotate_left;have z0:=aA (aE a g.2.2.1) 3;rotate_left 4;have z1:=(d0.out l a).1;have z2:=(d0.out l a).2.1;have f7:=(d0.out l a).2.2.1;rotate_left
    ·clear a;simp only[Par.Gives];go_simp;exact(d7.out l o.out).mono (fun e f8⟨he,hb⟩=>⟨he,aC o.out hb⟩)
    rotate_left
    all_goals(clear a;simp only[Par.Gives];go_simp;all_goals exact o.out)
   intro l a;simp only[ex,ym];have o:=aa (aC g.2.2.2.1 a);have d8:=aa (aE a g.2.2.1);clear a;cases q
   ·go_wp2_with fail;go_roundg (j-m)
    case measure=>omega
    exact⟨m+1,by go_num,by omega,by omega,a6.out HQ.out,o.out⟩
   go_upto_region 13 with fail;obtain⟨w4,rfl⟩:∃x,x=l:=⟨_,rfl⟩;refine Par.ag 4 [.pointer (some ⟨V,0,none⟩),.string nm,.int .i64 9,.string nm] (fun y=>Below w4.heap.size w4 y) ?A4 ?hm4 ?hB4 ?hA4 (aG w4) ?hop4 ?hT4
   case hm4=>kernel_rfl
   case hB4=>kernel_rfl
   case hA4 =>
    simp only[Par.am,Par.ai,Act.put,eh,ez,dz,eo,ew,ey,ed,ic,gy];rfl
   case hop4 =>
    simp only[en,zh,Par.ah,yo];and_intros<;>intro l a<;>have o:=aa a
    have zl:=aB (aE a d8.out);rotate_left;have z0:=aA (aE a d8.out) 0;rotate_left 3
    all_goals(clear a;simp only[Par.Gives];go_simp;all_goals exact o.out)
   intro l a;simp only[ex,ym];have e8:=aa (aC o.out a);clear a;go_wp2_with fail;go_ret2;have e:=tW (ts:=ts) (As:=As) (B:=B) X.out b5.out (by rw[HN.1];exact z) HQ.out a9.1;rw[g.2.2.2.2.2,e7.1]at e;exact⟨cH e,aC HW.2.2 e8.out⟩
  obtain rfl:m=j:=(by omega);have I:∀i,i<t.cols.length->jm ts As t r i=false:=(fun i hi=>a9.1 i (by rw[<-HN.1];exact hi));have c4:=aa I;have q0:=HK.out wr O;have q3:=aA q0 3;have ql:=aB q0;clear v O I z hm hg q0;go_wp2_with fail;clear q3 ql;go_loopg [70] (nd+1) (fun gh jv y=>∃(i:Nat),jv=.int .i64 (i:Int)/\i<=nd/\nd+1<=i+gh/\(∀k,k<i->dk t (qp t k) r B=false)/\Below n.heap.size n y)
  case atStart=>exact⟨0,rfl,zj _,by omega,fun i hi=>by omega,a9.2⟩
  obtain⟨i,rfl,hi,hg,v,O⟩:=hrel;have b0:=aa (ab v O);by_cases z:i<nd
  ·have f9:i<t.deps.length:=(by rw[HN.2.1];exact z);have g0:(i:Int)<(nd:Int):=(by omega);obtain⟨b,f,pl,cl,rfl,bl,c0,c1,R⟩:=a3.out wr O i z;obtain⟨nl,d9⟩:=ae ((qp t i).left.length);obtain⟨rt,d3⟩:=ae ((qp t i).right);obtain⟨q,hq⟩:=ae (dk t (qp t i) r B);simp only[d9,d3,hq]at c0 c1 R;have W:=aD wr (.cells #[.slice pl nl cl,.string rt] 155);have L:=z7 wr (.cells #[.slice pl nl cl,.string rt] 155);obtain⟨N,E⟩:=ae (wr.alloc (.cells #[.slice pl nl cl,.string rt] 155));obtain⟨V,hV⟩:=ae wr.heap.size;rw[E]at W L;rw[hV]at L;have hc:=R N W;have b2:=aC b0.2 W;have f0:=HK.out N b2;have y0:=aA f0 0;have y1:=aA f0 1;have y2:=aA f0 2;have y3:=aA f0 3;have yl:=aB f0;have z0:=aA L 0;have z1:=aA L 1;have zl:=aB L;have g:=aa (ab E (ab hV (ab L (ab b2 (ab d3 hq)))));clear v O R W L E hV d9 d3 hq b2 f0;go_upto_region 18 with fail;rw[g.1,g.2.1];clear c0 c1 bl;cases q
   ·go_wp2_with (go_at_call 208;refine hc.mono ?_;rintro e w4⟨rfl,a0⟩;have H4:=aa (aC g.2.2.2.1 a0);clear hc a0);go_roundg (nd-i)
    case measure=>omega
    refine⟨i+1,by go_num,by omega,by omega,fun k S=>?_,H4.out⟩;by_cases e:k=i
    ·subst e;exact g.2.2.2.2.2
    exact b0.1 k (by omega)
   go_upto_region 19 with (go_at_call 208;(with_reducible refine hc.mono ?_);rintro e w4⟨rfl,a0⟩;have H4:=aa (ab (aC g.2.2.2.1 a0) (aE a0 g.2.2.1));clear hc a0);clear y0 y1 y2 y3 yl z0 z1 zl;refine Par.ag 4 [.pointer (some ⟨V,1,none⟩),.string rt,.int .i64 10,.string rt] (fun y=>Below w4.heap.size w4 y) ?A5 ?hm5 ?hB5 ?hA5 (aG w4) ?hop5 ?hT5
   case hm5=>kernel_rfl
   case hB5=>kernel_rfl
   case hA5 =>
    simp only[Par.am,Par.ai,Act.put,eh,ez,dz,eo,ew,ey,ed,ic,gy];rfl
   case hop5 =>
    simp only[en,zh,Par.ah,yo];and_intros<;>intro l a<;>have o:=aa a
    have zl:=aB (aE a H4.2);rotate_left;have z0:=aA (aE a H4.2) 1;rotate_left 3
    all_goals(clear a;simp only[Par.Gives];go_simp;all_goals exact o.out)
   intro l a;simp only[ex,ym];have o:=aa (aC H4.1 a);clear a;go_wp2_with fail;go_ret2;have e:=tX (ts:=ts) (As:=As) X.out b5.out c4.out (by rw[HN.2.1];exact z) g.2.2.2.2.2 b0.1;rw[g.2.2.2.2.1]at e;exact⟨cH e,aC HW.2.2 o.out⟩
  obtain rfl:i=nd:=(by omega);have e:=pC (ts:=ts) (As:=As) X.out b5.out c4.out (fun k S=>b0.1 k (by rw[<-HN.2.1];exact S));have HE:=aa (cH e);clear v O e;go_wp2_with fail;go_ret2;exact⟨HE.out,aC HW.2.2 b0.2⟩
 go_upto_region 8 with (go_at_call 206;(with_reducible refine a7.mono ?_);rintro e w2⟨rfl,a8⟩;have H2:=aa (aC HI.2 a8);clear a7 a8);clear y0 y1 y2 y3 yl;refine Par.ag 4 [.pointer (some ⟨F,2,none⟩),.string b9,.int .i64 8,.string b9] (fun y=>Below w2.heap.size w2 y) ?A6 ?hm6 ?hB6 ?hA6 (aG w2) ?hop6 ?hT6
 case hm6=>kernel_rfl
 case hB6=>kernel_rfl
 case hA6 =>
  simp only[Par.am,Par.ai,Act.put,eh,ez,dz,eo,ew,ey,ed,ic,gy];rfl
 case hop6 =>
  simp only[en,zh,Par.ah,yo];and_intros<;>intro l a<;>have o:=aa a
  have zl:=aB (HK.out l (aC H2.out a));rotate_left;have z0:=aA (HK.out l (aC H2.out a)) 2;rotate_left 3
  all_goals(clear a;simp only[Par.Gives];go_simp;all_goals exact o.out)
 intro l a;simp only[ex,ym];have o:=aa (aC H2.out a);clear a;go_wp2_with fail;go_ret2;have e:=tV (ts:=ts) (As:=As) (B:=B) X.out b5.out;rw[e4.out]at e;exact⟨cH e,aC HW.2.2 o.out⟩
end
