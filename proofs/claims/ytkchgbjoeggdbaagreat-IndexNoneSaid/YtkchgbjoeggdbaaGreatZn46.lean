import Derived.Test.YtkchgbjoeggdbaaGreatZn45
set_option maxHeartbeats 8000000
set_option maxRecDepth 100000
namespace Go.Proofs.YtkchgbjoeggdbaaGreat
open Go.Proofs.Tryz
open Go Go.RowKit Go.Shelf Go.Proofs Co Co.S
theorem C8:(prog.info? 35).map (fun i=>(i.zero,i.size,i.bytes))=some (some (.slice none 0 0),1,24):=by kernel_rfl
structure BF where
 D:Nat
 F:Nat
 R:Nat
 T:Nat
 L:Nat
structure t5 (W:World) (x:BF) (dp tb:Nat) (nm key:ByteArray) (cv dv:Value) (A:List R1) (k:Nat) (S:Nat->Prop) (w:World):Prop where
 cd:w.heap[x.D]?=some (.cells #[.pointer (some ⟨dp,0,none⟩)] 24)
 cf:w.heap[x.F]?=some (.cells #[.string nm,cv,.string key,dv] 60)
 cr:w.heap[x.R]?=some (.cells zF 173)
 ct:w.heap[x.T]?=some (.cells #[.pointer (some ⟨tb,0,none⟩)] 48)
 lv:∃v vs,w.heap[x.L]?=some (.cells #[v] 234)/\ac w W.heap.size 35 1 v k vs/\(∀q,v.ownBlock=some q->S q/\q≠x.L/\q≠x.R)/\∀i (hi:i<A.length),i<k->∃vi,vs[i]?=some vi/\ac w W.heap.size 32 3 vi A[i].2.length (cells3 A[i].2)
 sR:S x.R
 sL:S x.L
 lo:W.heap.size<=x.R/\W.heap.size<=x.L/\x.R≠x.L/\x.D≠x.L/\x.F≠x.L/\x.T≠x.L
 old:∀b,b<W.heap.size->S b∨∃cur e m,w.heap[b]?=some (.cells cur e m)
 bel:Below W.heap.size W w
structure Bf (W:World) (R:Nat) (er id:Int) (col:ByteArray) (S:Nat->Prop) (w:World):Prop where
 cr:w.heap[R]?=some (.cells #[.int .i64 er,.int .i64 0,.string e0,.int .i64 id,.string col] 173)
 old:∀b,b<W.heap.size->S b∨∃cur e m,w.heap[b]?=some (.cells cur e m)
 bel:Below W.heap.size W w
section
variable{W A' B' w1 w2:World}{x:BF}{dp tb k R:Nat}{nm key col:ByteArray}{cv dv:Value}{A:List R1}{S:Nat->Prop}{er id:Int}
theorem ac.kept{base n size:Nat}{e:TypeId}{v:Value}{xs:List Value}(h:ac A' base e size v n xs)(hkc:∀(b:Nat) (a:Array Value) (e:TypeId) (m:Nat×Nat),A'.heap[b]?=some (Obj.cells a e m)->B'.heap[b]?=some (Obj.cells a e m)):ac B' base e size v n xs:=
 h.of (fun q d=>by
  obtain⟨_,a,c⟩:=ac.block h q d;rw[hkc _ _ _ _ c,c])
theorem t5.loc(h:t5 W x dp tb nm key cv dv A k S A')(hsz:A'.heap.size<=B'.heap.size)(hb:∀b,S b->B'.heap[b]?=A'.heap[b]?)(hkc:∀(b:Nat) (a:Array Value) (e:TypeId) (m:Nat×Nat),A'.heap[b]?=some (Obj.cells a e m)->B'.heap[b]?=some (Obj.cells a e m))(hos:B'.os=A'.os/\B'.tape=A'.tape/\B'.output=A'.output):t5 W x dp tb nm key cv dv A k S B':=by
 obtain⟨c,d⟩:=lF hb hkc hsz hos h.old h.bel;obtain⟨v,vs,l1,l2,l3,l4⟩:=h.lv
 exact⟨hkc _ _ _ _ h.cd,hkc _ _ _ _ h.cf,hkc _ _ _ _ h.cr,hkc _ _ _ _ h.ct,⟨v,vs,hkc _ _ _ _ l1,l2.kept hkc,l3,fun i f g=>by
  obtain⟨j,l,n⟩:=l4 i f g;exact⟨j,l,n.kept hkc⟩⟩,h.sR,h.sL,h.lo,c,d⟩
theorem Bf.loc(h:Bf W R er id col S A')(hsz:A'.heap.size<=B'.heap.size)(hb:∀b,S b->B'.heap[b]?=A'.heap[b]?)(hkc:∀(b:Nat) (a:Array Value) (e:TypeId) (m:Nat×Nat),A'.heap[b]?=some (Obj.cells a e m)->B'.heap[b]?=some (Obj.cells a e m))(hos:B'.os=A'.os/\B'.tape=A'.tape/\B'.output=A'.output):Bf W R er id col S B':=by
 obtain⟨c,d⟩:=lF hb hkc hsz hos h.old h.bel;exact⟨hkc _ _ _ _ h.cr,c,d⟩
theorem eC(hk:k<=A.length):(dj A k).length=k:=by unfold dj;rw[yd,xq];omega
theorem tY{j:Nat}(hk:k<=A.length)(hj:j<(dj A k).length):(dj A k)[j]=(A[j]'(by rw[eC hk]at hj;omega)).2:=by
 simp[dj]
theorem t5.rl(h:t5 W x dp tb nm key cv dv A k S w1)(hk:k<=A.length):∃v,w1.heap[x.L]?=some (.cells #[v] 234)/\RL w1 v (dj A k):=by
 obtain⟨v,vs,l1,l2,l3,l4⟩:=h.lv;obtain⟨p,c,e,_,_⟩:=ac.isslice l2;refine⟨v,l1,p,c,by rw[eC hk];exact e,fun j a=>?_⟩;have b:j<k:=(by rw[eC hk]at a;exact a);have d:j<A.length:=(by omega);obtain⟨i,l,m⟩:=l4 j d b;obtain⟨g,n,f,_,_⟩:=ac.slice l2 (by omega);rw[e]at f;cases f;rw[e]at l2;refine⟨g,i,rfl,(ac.lt l2 g rfl).2,ac.cell l2 l,?_⟩;rw[tY hk a];exact(fk.my m rfl).mono (fun _ _ _=>trivial)
theorem t5.more(h:t5 W x dp tb nm key cv dv A k S w1)(hin:fi S w1)(s:Below w1.heap.size w1 w2)(hk:k<A.length){vr:Value}{nr:Nat}(hnr:A[k].2.length=nr)(hr:ac w2 w1.heap.size 32 3 vr nr (cells3 A[k].2)){v v':Value}{vs:List Value}{w4 w5:World}(hv:w1.heap[x.L]?=some (.cells #[v] 234))(hrow:ac w1 W.heap.size 35 1 v k vs)(hb4:Below w2.heap.size w2 w4)(hr5:ac w5 W.heap.size 35 1 v' (k+1) (vs++[vr]))(hg5:w4.grownBy w5 v.ownBlock)(ho5:∀q,v'.ownBlock=some q->v.ownBlock=some q∨w4.heap.size<=q):∃J,Grows S J w1/\fi J (w5.setCell ⟨x.L,0,none⟩ v')/\Chg S w1 (w5.setCell ⟨x.L,0,none⟩ v')/\t5 W x dp tb nm key cv dv A (k+1) J (w5.setCell ⟨x.L,0,none⟩ v'):=by
 subst hnr;have a:=aC s hb4;obtain⟨v0,y,l1,l2,l3,l4⟩:=h.lv;obtain rfl:v0=v:=by rw[hv]at l1;cases l1;rfl
 obtain rfl:y=vs:=by
  rcases l2.2 with ⟨c,f⟩ | ⟨g,a3,j,c,_,u,_,_,_,e4⟩
  ·rcases hrow.2 with ⟨t,e6⟩ | ⟨g',F,G,t,_⟩
   ·have X:=l2.1;have Y:=hrow.1;rw[f,Nat.zero_mul]at X Y;rw[List.length_eq_zero_iff.1 X,List.length_eq_zero_iff.1 Y]
   rw[c]at t;cases t
  rcases hrow.2 with ⟨t,e6⟩ | ⟨g',F,G,t,_,Z,_,_,_,e8⟩
  ·rw[c]at t;cases t
  rw[c]at t;cases t
  rw[u]at Z;cases Z
  rw[<-e4,<-e8]
 have hz:=a.size;have M:=hg5.size;have a4:x.L<w1.heap.size:=aB hv
 have r:∀q,q<w1.heap.size->v0.ownBlock≠some q->q≠x.L->(w5.setCell ⟨x.L,0,none⟩ v').heap[q]?=w1.heap[q]?:=fun q l d z=>by
  rw[y9 w5 ⟨x.L,0,none⟩ q v' z,hg5.block q (by omega) (fun e=>d e.symm)];exact a.block q l
 have B:v0.ownBlock≠some x.L:=fun e=>(l3 _ e).2.1 rfl
 have N:w5.heap[x.L]?=some (.cells #[v0] 234):=by
  rw[hg5.block x.L (by omega) (fun e=>B e.symm)];exact aE a hv
 have w:∀q,v0.ownBlock=some q->∃j,w1.heap[q]?=some (.cells j 35):=(fun q l=>(ac.block hrow q l).2);have O:=y7 w5 x.L 0 #[v0] 234 v' N
 have H:∀{vv:Value} {n:Nat} {xs:List Value} {base:Nat} {ee:TypeId} {sz:Nat},ac w4 base ee sz vv n xs->ee≠35->ee≠234->ac (w5.setCell ⟨x.L,0,none⟩ v') base ee sz vv n xs:=fun{vv n xs base ee sz} hh E hne2=>hh.of (fun q l=>by
  obtain⟨_,j,c⟩:=ac.block hh q l
  have P:q≠x.L:=fun e=>by
   have f:=aE a hv;rw[<-e,c]at f
   injection f with f;injection f with _ f;exact hne2 f
  rw[y9 w5 ⟨x.L,0,none⟩ q v' P,hg5.block q (aB c) (fun e=>by
   obtain⟨a0,f⟩:=w q e.symm;have u:=aE a f;rw[c]at u
   injection u with u;injection u with _ u;exact E u)])
 have Q:(w5.setCell ⟨x.L,0,none⟩ v').heap.size=w5.heap.size:=(by simp);refine⟨fun b=>S b∨(w1.heap.size<=b/\b<w5.heap.size),fun b s=>s.imp id (fun h=>h.1),fun b s=>?_,?_,?_⟩
 ·rw[Q];rcases s with s|s
  ·have:=hin b s;omega
  exact s.2
 ·have hc:Chg S w1 w5:=⟨hg5.os.trans a.os,hg5.tape.trans a.tape,hg5.output.trans a.output,by omega,fun q l hn=>by
   rw[hg5.block q (by omega) (fun e=>hn (l3 q e.symm).1)];exact a.block q l⟩
  exact hc.setCell (p:=⟨x.L,0,none⟩) (fun _=>h.sL) _
 have E:∀q,q<w1.heap.size->(∃o ty,w1.heap[q]?=some (.cells o ty)/\ty≠35)->v0.ownBlock≠some q:=fun q _⟨o,ty,d,z⟩ e=>by
  obtain⟨j,c⟩:=w q e;rw[d]at c
  injection c with c;injection c with _ c;exact z c
 have keep:∀{q:Nat} {o:Array Value} {ty:TypeId},w1.heap[q]?=some (.cells o ty)->ty≠35->q≠x.L->(w5.setCell ⟨x.L,0,none⟩ v').heap[q]?=some (.cells o ty):=(fun{q o ty} d z h3=>(r q (aB d) (E q (aB d) ⟨o,ty,d,z⟩) h3).trans d);refine⟨keep h.cd (by decide) h.lo.2.2.2.1,keep h.cf (by decide) h.lo.2.2.2.2.1,keep h.cr (by decide) h.lo.2.2.1,keep h.ct (by decide) h.lo.2.2.2.2.2,⟨v',y++[vr],O,hr5.of (fun q l=>?_),fun q l=>?_,fun i hi a5=>?_⟩,.inl h.sR,.inl h.sL,h.lo,fun b R=>?_,?_⟩
 ·refine y9 w5 ⟨x.L,0,none⟩ q v' (fun e=>?_);rcases ho5 q l with d|d
  ·exact(l3 q d).2.1 e
  have:q=x.L:=e;omega
 ·rcases ho5 q l with d|d
  ·exact⟨.inl (l3 q d).1,(l3 q d).2⟩
  have z:=(ac.lt hr5 q l).2;have h3:=aB h.cr;exact⟨.inr ⟨by omega,z⟩,by omega,by omega⟩
 ·have U:y.length=k:=(by have:=hrow.1;rw[Nat.mul_one]at this;exact this);by_cases e:i=k
  ·subst e;refine⟨vr,by rw[<-U,ya (zo _),Nat.sub_self];rfl,?_⟩;exact H ((hr.later hb4).mono h.bel.size) (by decide) (by decide)
  obtain⟨vi,c,f⟩:=l4 i hi (by omega);exact⟨vi,by rw[xu (by omega)];exact c,H (f.later a) (by decide) (by decide)⟩
 ·rcases h.old b R with I|⟨j,e,m,I⟩
  ·exact .inl (.inl I)
  have V:=aB I;by_cases c:v0.ownBlock=some b
  ·exact .inl (.inl (l3 b c).1)
  refine .inr ⟨j,e,m,(r b V c (fun f=>?_)).trans I⟩
  have:=h.lo.2.1
  omega
 refine((aC h.bel a).trans ⟨hg5.os,hg5.tape,hg5.output,M,fun q l=>hg5.block q (by have:=h.bel.size;omega) (fun e=>?_)⟩).setCell (p:=⟨x.L,0,none⟩) h.lo.2.1 _
 have:=(ac.lt hrow q e.symm).1
 omega
theorem t5.found(h:t5 W x dp tb nm key cv dv A k S w1)(hin:fi S w1)(a:Below w1.heap.size w1 w2):∃f,Grows S f w1/\fi f (((((w2.setCell ⟨x.R,0,none⟩ (.int .i64 er)).setCell ⟨x.R,1,none⟩ (.int .i64 0)).setCell ⟨x.R,2,none⟩ (.string e0)).setCell ⟨x.R,3,none⟩ (.int .i64 id)).setCell ⟨x.R,4,none⟩ (.string col))/\Chg S w1 (((((w2.setCell ⟨x.R,0,none⟩ (.int .i64 er)).setCell ⟨x.R,1,none⟩ (.int .i64 0)).setCell ⟨x.R,2,none⟩ (.string e0)).setCell ⟨x.R,3,none⟩ (.int .i64 id)).setCell ⟨x.R,4,none⟩ (.string col))/\Bf W x.R er id col f (((((w2.setCell ⟨x.R,0,none⟩ (.int .i64 er)).setCell ⟨x.R,1,none⟩ (.int .i64 0)).setCell ⟨x.R,2,none⟩ (.string e0)).setCell ⟨x.R,3,none⟩ (.int .i64 id)).setCell ⟨x.R,4,none⟩ (.string col)):=by
 have l:=nX (aE a h.cr) (.int .i64 er) (.int .i64 0) (.string e0) (.int .i64 id) (.string col);have c:=bG w2 x.R (.int .i64 er) (.int .i64 0) (.string e0) (.int .i64 id) (.string col);generalize ((((w2.setCell ⟨x.R,0,none⟩ (.int .i64 er)).setCell ⟨x.R,1,none⟩ (.int .i64 0)).setCell ⟨x.R,2,none⟩ (.string e0)).setCell ⟨x.R,3,none⟩ (.int .i64 id)).setCell ⟨x.R,4,none⟩ (.string col)=w6 at l c ⊢;have p:=a.size;have g:=c.size;refine⟨fun b=>S b∨(w1.heap.size<=b/\b<w6.heap.size),fun b a=>a.imp (fun h=>h) (fun h=>h.1),fun b a=>?_,⟨c.os.trans a.os,c.tape.trans a.tape,c.output.trans a.output,by omega,fun q n o=>?_⟩,l,fun b i=>?_,?_⟩
 ·rcases a with a|a
  ·have:=hin b a;omega
  exact a.2
 ·rw[c.block q (by omega) (fun e=>o (by cases e;exact h.sR))];exact a.block q n
 ·rcases h.old b i with d|⟨j,e,m,d⟩
  ·exact .inl (.inl d)
  have r:=aB d;refine .inr ⟨j,e,m,(c.block b (by omega) (fun e=>?_)).trans (aE a d)⟩;cases e
  have:=h.lo.1
  omega
 exact(aC h.bel a).trans ⟨c.os,c.tape,c.output,g,fun q n=>c.block q (by have:=h.bel.size;omega) (fun e=>by cases e;have:=h.lo.1;omega)⟩
end
end Go.Proofs.YtkchgbjoeggdbaaGreat
namespace Go.Proofs.YtkchgbjoeggdbaaGreat
open Go.Proofs.Tryz
open Go Go.RowKit Go.Proofs Co Co.S
theorem wV(w:World)(g:Nat)(a b c d:Value):w.grownBy ((((w.setCell ⟨g,0,none⟩ a).setCell ⟨g,1,none⟩ b).setCell ⟨g,2,none⟩ c).setCell ⟨g,3,none⟩ d) (some g):=
 bF (bF (bF (bF (gU w (some g)) 0 a) 1 b) 2 c) 3 d
structure Ao (w:World) (gr m gv cv nc:Nat) (r:List T3):Prop where
 rl:gr<w.heap.size
 r0:w.cell? ⟨gr,m*2+1,none⟩=some (.slice (some ⟨gv,0,none⟩) nc cv)
 id:∃v,w.cell? ⟨gr,m*2,none⟩=some v
 vl:gv<w.heap.size
 v:∀c,c<nc->w.cell? ⟨gv,c*3,none⟩=some (.int .i64 (r.getD c z3).1)/\w.cell? ⟨gv,c*3+1,none⟩=some (.int .i64 (r.getD c z3).2.1)/\w.cell? ⟨gv,c*3+2,none⟩=some (.string (r.getD c z3).2.2)
structure GX (w:World) (b nt t na nc nd gs cs go co gr cr:Nat) (pc:Option Addr) (kc:Nat) (pd:Option Addr) (kd:Nat) (T0:T):Prop where
 b0:w.cell? ⟨b,0,none⟩=some (.slice (some ⟨gs,0,none⟩) nt cs)
 bl:b<w.heap.size
 sl:gs<w.heap.size
 s0:w.cell? ⟨gs,t*4,none⟩=some (.string T0.nm)
 s1:w.cell? ⟨gs,t*4+1,none⟩=some (.slice pc nc kc)
 s2:w.cell? ⟨gs,t*4+2,none⟩=some (.string T0.key)
 s3:w.cell? ⟨gs,t*4+3,none⟩=some (.slice pd nd kd)
 b1:w.cell? ⟨b,1,none⟩=some (.slice (some ⟨go,0,none⟩) nt co)
 ol:go<w.heap.size
 o0:w.cell? ⟨go,t,none⟩=some (.slice (some ⟨gr,0,none⟩) na cr)
 rt:dw w (.slice pc nc kc) (.slice pd nd kd) T0
section
variable{W:World}{b:Nat}{ts:List T}{tt:List RT}{i:NI}{O:Nat->Nat}{t k:Nat}{y:RT}
theorem wW(h:im W b ts tt i O)(ht:t<ts.length)(hy:tt[t]?=some y)(hk:k<y.A.length)(h0:0<ts[t].cols.length):∃gs cs go co gr cr pc kc pd kd,(∀w,Below W.heap.size W w->GX w b ts.length t y.A.length ts[t].cols.length ts[t].deps.length gs cs go co gr cr pc kc pd kd ts[t])/\∀m (l:m<y.A.length),∃gv cv,∀w,Below W.heap.size W w->Ao w gr m gv cv ts[t].cols.length y.A[m].2:=by
 obtain⟨⟨gs,cs,go,co,pr,cr,pc,kc,pd,kd⟩,d,a⟩:=h.nreads ht hy h0;dsimp only at d a;obtain⟨gr,_,_,rfl,_⟩:=a k hk;refine⟨gs,cs,go,co,gr,cr,pc,kc,pd,kd,fun w f=>?_,fun m l=>?_⟩
 ·obtain⟨p,q,r,s,u,v,x,z,B,g,j⟩:=d w f;exact⟨u,r,v,x,z,B,g,p,s,q,j⟩
 obtain⟨E,gv,cv,e,F⟩:=a m l;cases e;refine⟨gv,cv,fun w f=>?_⟩;obtain⟨G,H,I,J,L,M⟩:=F w f;refine⟨G,I,⟨_,H⟩,J,fun c N=>?_⟩;obtain⟨Q,R,e,P⟩:=fk.cells L (k:=c) (by rw[M];exact N);cases e;obtain⟨r1,n,o,_⟩:=P w (zg _ _);rw[xj]at r1 n o;exact⟨r1,n,o⟩
end
section
variable{W:World}{pc pd:Option Addr}{nc nd kc kd:Nat}{t:T}
theorem pD(hT:dw W (.slice pc nc kc) (.slice pd nd kd) t)(h0:0<t.cols.length):∃bc oc,pc=some ⟨bc,oc,none⟩/\∀y,Below W.heap.size W y->bc<y.heap.size/\∀j,j<t.cols.length ->
  y.cell? ⟨bc,oc+j*4,none⟩=some (.string (mq t j).nm)/\y.cell? ⟨bc,oc+j*4+1,none⟩=some (.int .i64 (mq t j).kd)/\y.cell? ⟨bc,oc+j*4+2,none⟩=some (.bool (mq t j).mu)/\y.cell? ⟨bc,oc+j*4+3,none⟩=some (.string (mq t j).tgt):=by
 obtain⟨b,a,rfl,_⟩:=fj.col hT.c h0;refine⟨b,a,rfl,fun y d=>⟨?_,fun j f=>?_⟩⟩
 ·obtain⟨_,_,e,g,_⟩:=fj.col (hT.c.later d) h0;cases e;exact g
 rw[nO f];obtain⟨_,_,e,g,h,i,k,l⟩:=fj.col (hT.c.later d) f;cases e;exact⟨h,i,k,l⟩
theorem G6(hT:dw W (.slice pc nc kc) (.slice pd nd kd) t){i:Nat}(hi:i<t.deps.length):∃c od pl cl,pd=some ⟨c,od,none⟩/\(∀y,Below W.heap.size W y->c<y.heap.size/\y.cell? ⟨c,od+i*2,none⟩=some (.slice pl (qp t i).left.length cl)/\y.cell? ⟨c,od+i*2+1,none⟩=some (.string (qp t i).right))/\∀j,j<(qp t i).left.length->∃bl ol,pl=some ⟨bl,ol,none⟩/\∀y,Below W.heap.size W y->bl<y.heap.size/\y.cell? ⟨bl,ol+j,none⟩=some (.string ((qp t i).left.getD j e0)):=by
 rw[wT hi];obtain⟨b,f,lv,rfl,g,l,m,h⟩:=px.dep hT.d hi;obtain⟨pl,cl,rfl,_,_⟩:=h.slice;refine⟨b,f,pl,cl,rfl,fun y a=>⟨z9 g a.size,?_,?_⟩,fun j k=>?_⟩
 ·exact(ze (w:=W) (a.block _ g)).trans l
 ·exact(ze (w:=W) (a.block _ g)).trans m
 obtain⟨bl,ol,rfl,_,_⟩:=kh.word h k;refine⟨bl,ol,rfl,fun y a=>?_⟩;obtain⟨_,_,e,n,o⟩:=kh.word (h.later a) k;cases e;refine⟨n,?_⟩;rw[zv,z6 k];exact o
end
section
variable{t:T}{r a:List T3}{B:List (List T3)}{p:List T3->Bool}
theorem qU{x:ByteArray}{q:Nat}(h:fx t.cols x=(q:Int)):decide (a.getD q z3=r.getD q z3)=bf t x r a:=by
 unfold bf tk;rw[h,wo];exact decide_eq_decide.2 eq_comm
theorem CQ{n:Nat}(hn:B.length=n)(h:∀m,m<n->p (B.getD m [])=false):B.any p=false:=by
 rw[v6];intro a b;obtain⟨m,c,rfl⟩:=xp b
 have:=h m (by omega)
 rw[zv,z6 c]at this;simpa using this
theorem yV{m:Nat}(hm:m<B.length)(h:p (B.getD m [])=true):B.any p=true:=by
 rw[zv,z6 hm]at h;exact List.any_eq_true.2 ⟨_,z8 hm,h⟩
theorem Gh(h:t.key=e0):ll t r B=false:=by unfold ll;rw[h];rfl
def ri(t:T)(l:List ByteArray)(k:Nat)(r a:List T3):Bool:=(l.take k).all fun x=>bf t x r a
theorem GS(l:List ByteArray):ri t l 0 r a=true:=by simp[ri]
theorem F5{l:List ByteArray}{k:Nat}(hk:k<l.length):ri t l (k+1) r a=(ri t l k r a&&bf t (l.getD k e0) r a):=by
 unfold ri;rw[List.take_add_one,List.all_append,zv,z6 hk]
 simp
theorem Hc(l:List ByteArray):ri t l l.length r a=l.all fun x=>bf t x r a:=by
 unfold ri;rw[List.take_length]
end
end Go.Proofs.YtkchgbjoeggdbaaGreat
namespace Go.Proofs.YtkchgbjoeggdbaaGreat
open Go.Proofs.Tryz
open Go Go.RowKit Go.Shelf Go.Proofs Co Co.S
attribute [local go_sem] Oper.semAt_some
attribute [local go_sem] fK fL bH aR
section
variable{ts:List T}{As:List (List R1)}{t:T}{A:List R1}{k:Nat}
theorem kH(hk:k<A.length)(h:(ge ts As t A[k].2 (dj A k)).1≠0)(h0:∀m,m<k->kt ts As t A m=false):gq ts As t A=((ge ts As t A[k].2 (dj A k)).1,A[k].1,(ge ts As t A[k].2 (dj A k)).2):=by
 have e:rowAt A k=A[k]:=(by unfold rowAt;rw[zv,z6 hk];rfl);unfold gq;rw[bL hk (by unfold kt;rw[e];exact yy h) h0];simp only[e]
theorem kI(h0:∀m,m<A.length->kt ts As t A m=false):gq ts As t A=(0,0,e0):=by
 unfold gq;rw[aV h0]
theorem pE(hk:k<A.length)(h:(ge ts As t A[k].2 (dj A k)).1=0):kt ts As t A k=false:=by
 have e:rowAt A k=A[k]:=(by unfold rowAt;rw[zv,z6 hk];rfl);unfold kt;rw[e];exact yp (fun a=>a h)
end
theorem qV{W:World}{d:Nat}{ts:List T}{st:List DT}{O:Nat->Nat}(h:Dd W d ts st O)(hi:ls ts)(hfew:bs ts)(I:Short ts){j:Nat}(hj:j<ts.length)(hj':j<st.length){cv dv:Value}(hT:dw W cv dv ts[j])(hf:qj ts[j])(h0c:0<ts[j].cols.length)(hAl:st[j].2.2.length<=1000):Calls prog 163 #[.pointer (some ⟨d,0,none⟩),.agg #[.string ts[j].nm,cv,.string ts[j].key,dv]] W fun e Z=>e=.returned (dr (gq ts (rowsOf st) ts[j] st[j].2.2).1 0 e0 (gq ts (rowsOf st) ts[j] st[j].2.2).2.1 (gq ts (rowsOf st) ts[j] st[j].2.2).2.2)/\Below W.heap.size W Z:=by
 obtain⟨pc,cc,rfl,_,_⟩:=hT.c.slice;obtain⟨pd,cd,rfl,_,_⟩:=hT.d.slice;have b1:=aD W (.cells #[.pointer (some ⟨d,0,none⟩)] 24);have k1:=z7 W (.cells #[.pointer (some ⟨d,0,none⟩)] 24);have z1:=zm W (.cells #[.pointer (some ⟨d,0,none⟩)] 24);obtain⟨wa,f9⟩:=ae (W.alloc (.cells #[.pointer (some ⟨d,0,none⟩)] 24));rw[f9]at b1 k1 z1;have b2:=aD wa (.cells #[.string ts[j].nm,.slice pc ts[j].cols.length cc,.string ts[j].key,.slice pd ts[j].deps.length cd] 60);have k2:=z7 wa (.cells #[.string ts[j].nm,.slice pc ts[j].cols.length cc,.string ts[j].key,.slice pd ts[j].deps.length cd] 60);have z2:=zm wa (.cells #[.string ts[j].nm,.slice pc ts[j].cols.length cc,.string ts[j].key,.slice pd ts[j].deps.length cd] 60);obtain⟨wb,g1⟩:=ae (wa.alloc (.cells #[.string ts[j].nm,.slice pc ts[j].cols.length cc,.string ts[j].key,.slice pd ts[j].deps.length cd] 60));rw[g1]at b2 k2 z2;have b3:=aD wb (.cells zF 173);have k3:=z7 wb (.cells zF 173);obtain⟨w1,b7⟩:=ae (wb.alloc (.cells zF 173));rw[b7]at b3 k3;have L:((W.alloc (.cells #[.pointer (some ⟨d,0,none⟩)] 24)).alloc (.cells #[.string ts[j].nm,.slice pc ts[j].cols.length cc,.string ts[j].key,.slice pd ts[j].deps.length cd] 60)).alloc (.cells zF 173)=w1:=(by rw[f9,g1,b7]);obtain⟨D,hD⟩:=ae W.heap.size;rw[hD]at k1;rw[z1,hD]at k2;rw[z2,z1,hD]at k3;have k1:=aE b3 (aE b2 k1);have k2:=aE b3 k2;have g2:=aC (aC b1 b2) b3;have m4:Hid (∀w,Below W.heap.size W w->Dd w d ts st O):=aa (fun w P=>h.later P);have a6:Calls prog 14 #[.pointer (some ⟨d,0,none⟩),.string ts[j].nm] w1 fun e Z=>e=.returned (.pointer (some ⟨st[j].1,0,none⟩))/\Z=w1:=(h.later g2).table hj (I _ (z8 hj)) hj'
 obtain⟨l6,a8,_⟩:=h.tab j hj hj';have i6:Hid (∀w,Below W.heap.size W w->Tb w st[j].1 ts[j] st[j].2.1 st[j].2.2 l6):=aa (fun w P=>a8.later P);have H:∀a∈st[j].2.2,a.2.length=ts[j].cols.length:=(fun a ha=>a8.len a ha);have b8:st[j].2.2.Pairwise (fun a b=>a.1<b.1):=(by obtain⟨i0,_,hi⟩:=a8;exact hi.srt);obtain⟨A,d7⟩:=ae (st[j].2.2)
 have b9:Hid (∀w,Below W.heap.size W w->∀k (hk:k<A.length),Calls prog 191 #[.pointer (some ⟨st[j].1,0,none⟩),.int .i64 A[k].1] w fun e Z=>∃g c,e=.returned (.tuple #[.slice (some ⟨g,0,none⟩) ts[j].cols.length c,.bool true])/\ac Z w.heap.size 32 3 (.slice (some ⟨g,0,none⟩) ts[j].cols.length c) ts[j].cols.length (cells3 A[k].2)/\Below w.heap.size w Z):=aa (fun w P k hk=>by
  subst d7;refine(gJ (a8.later P) (z8 hk) hf.nc h0c).mono ?_;rintro e Z⟨g,c,rfl,_,hr,l7⟩;exact⟨g,c,rfl,hr,l7⟩)
 have d8:Hid (∀w,Below W.heap.size W w->∀k (hk:k<A.length) (va rv:Value),fk TT w va A[k].2->RL w rv (dj A k)->Calls prog 194 #[.pointer (some ⟨d,0,none⟩),.agg #[.string ts[j].nm,.slice pc ts[j].cols.length cc,.string ts[j].key,.slice pd ts[j].deps.length cd],va,rv] w fun e Z=>e=.returned (.tuple #[.int .i64 (ge ts (rowsOf st) ts[j] A[k].2 (dj A k)).1,.string (ge ts (rowsOf st) ts[j] A[k].2 (dj A k)).2])/\Below w.heap.size w Z):=aa (fun w P k hk va rv ha hR=>by
  subst d7;refine De (hT.later P) hf ha hR ⟨H _ (z8 hk),fun b z=>?_,hf.nc,by rw[eC (by omega)];omega⟩ (fun w1 b7 x u=>gR (h.later (aC P b7)) hi hfew I x u);unfold dj at z;obtain⟨a,ha,rfl⟩:=List.mem_map.1 z;exact H a (List.mem_of_mem_take ha))
 obtain⟨As,i7⟩:=ae (rowsOf st);obtain⟨t,ht⟩:=ae (ts[j]);obtain⟨tb,e8⟩:=ae (st[j].1);obtain⟨m3,e9⟩:=ae (st[j].2.1);simp only[ht,e8,e9,d7,i7]at a6 i6 H b8 b9 d8 L k2 hAl ⊢;obtain⟨nc,i8⟩:=ae t.cols.length;obtain⟨nd,i9⟩:=ae t.deps.length;simp only[i8,i9]at b9 d8 L k2 H ⊢;obtain⟨nm,j0⟩:=ae t.nm;obtain⟨key,f4⟩:=ae t.key;simp only[j0,f4]at a6 d8 L k2 ⊢;obtain⟨res,s⟩:=ae (gq ts As t A);rw[s];have f5:=aa s;have HW:=aa (ab L (ab hD (ab g2 (ab k1 (ab k2 k3)))));have HA:=aa (ab H (ab b8 (ab a8.lt hAl)));clear hT hf h0c hAl h hi hfew I a8 H b8 b1 b2 b3 k1 k2 k3 z1 z2 f9 g1 b7 L hD g2 i7 ht e8 e9 d7 i8 i9 j0 f4 s;refine(callsIn_wide (n:=0)).1 ?_;refine callsIn_of_wp_marks func163 rfl trivial ?_ rfl;simp only[ntmps163,List.size_toArray,xa,vc,Nat.reduceAdd,Nat.reduceSub,Array.replicate_succ,Array.replicate_zero,List.push_toArray,List.append_toArray,IU,IV];refine wpIn_wide.2 ?_;go_upto_region 1 with fail;rw[HW.1,HW.2.1];have x0:=aA HW.2.2.2.1 0;have xl:=aB HW.2.2.2.1;have y0:=aA HW.2.2.2.2.1 0;have yl:=aB HW.2.2.2.2.1;go_upto_region 2 with (go_at_call 14;(with_reducible refine a6.mono ?_);rintro e w2⟨rfl,P⟩;subst w2;clear a6);go_upto_region 3 with fail;clear x0 xl y0 yl;have b4:=aD w1 (.cells #[.pointer (some ⟨tb,0,none⟩)] 48);have k4:=z7 w1 (.cells #[.pointer (some ⟨tb,0,none⟩)] 48);have z4:=zm w1 (.cells #[.pointer (some ⟨tb,0,none⟩)] 48);have b5:=aD (w1.alloc (.cells #[.pointer (some ⟨tb,0,none⟩)] 48)) (.cells #[.slice none 0 0] 234);have k5:=z7 (w1.alloc (.cells #[.pointer (some ⟨tb,0,none⟩)] 48)) (.cells #[.slice none 0 0] 234);rw[z4]at k5;have k4:=aE b5 k4;have b5:=aC b4 b5;obtain⟨w5,g3⟩:=ae ((w1.alloc (.cells #[.pointer (some ⟨tb,0,none⟩)] 48)).alloc (.cells #[.slice none 0 0] 234));obtain⟨G,F⟩:=ae w1.heap.size;have m5:D+1+1<G:=(by rw[<-F];exact aB HW.2.2.2.2.2);rw[g3]at k4 k5 b5;rw[F]at k4 k5;rw[g3,F]
 have d9:Hid (∀w,Below w5.heap.size w5 w->w.heap[D]?=some (.cells #[.pointer (some ⟨d,0,none⟩)] 24)/\w.heap[D+1]?=some (.cells #[.string nm,.slice pc nc cc,.string key,.slice pd nd cd] 60)/\w.heap[D+1+1]?=some (.cells zF 173)/\w.heap[G]?=some (.cells #[.pointer (some ⟨tb,0,none⟩)] 48)/\w.heap[G+1]?=some (.cells #[.slice none 0 0] 234)/\Below W.heap.size W w):=aa (fun w P=>by
  have z:=aC b5 P;exact⟨aE z HW.2.2.2.1,aE z HW.2.2.2.2.1,aE z HW.2.2.2.2.2,aE P k4,aE P k5,aC HW.2.2.1 z⟩)
 have y1:=aA k4 0;have yl:=aB k4;have c6:Calls prog 15 #[.pointer (some ⟨tb,0,none⟩)] w5 (rq (oi A) w5):=eM (i6.out w5 (d9.out w5 (zg _ _)).2.2.2.2.2);have m6:W.heap.size<=w5.heap.size:=(d9.out w5 (zg _ _)).2.2.2.2.2.size;have l8:W.heap.size=D:=HW.2.1;clear b4 b5 k4 k5 z4 g3 F;refine(wpIn_wide (n:=0)).1 ?_
 gi_wp2_with (gi_at_call 15;refine aI rfl ?_;(with_reducible refine c6.mono ?_);rintro e w6⟨pl,nl,cl,rfl,l9,g4⟩)
 obtain⟨lr,g5,j1,j2⟩:=l9;have j3:=eD g5;have hA:=fR j1 j2 HA.2.1;have g6:=Cell.new w6 (.slice pl nl cl) 29
 gi_wp2_with (gi_at_call 16;refine aI rfl ?_;(with_reducible refine j3.mono ?_);rintro e w7⟨rfl,c7⟩)
 obtain⟨c,hc⟩:=ae w6.heap.size;obtain⟨xs,g7⟩:∃xs:List Int,A.map (·.1)=xs:=⟨_,rfl⟩;have j4:xs.length=A.length:=(by rw[<-g7,yd]);rw[hc]at g6
 try rw[hc]
 rw[g7]at hA;have g9:Below w6.heap.size w6 w7:=(by rw[c7];exact aD w6 _);have a9:w7.heap.size=c+1:=(by rw[c7];simp[hc]);rw[<-c7]at g6
 try rw[<-c7]
 clear c7 j3 c6 y1 yl;have f6:Below w5.heap.size w5 w7:=aC g4 g9;have M:=g5.later g9;have m7:w5.heap.size<=c:=by have:=g4.size;omega
 have f7:∀{b:Nat} {e3:Array Value} {e:TypeId} {m:Nat×Nat},w7.heap[b]?=some (Obj.cells e3 e m)->e≠81->(Value.slice pl nl cl).ownBlock≠some b:=fun z he e=>by
  obtain⟨_,e3,h1⟩:=ac.block M _ e;rw[h1]at z;simp only[Option.some.injEq,Obj.cells.injEq]at z;exact he z.2.1.symm
 obtain⟨X,hX⟩:∃X:BF,X=⟨D,D+1,D+1+1,G,G+1⟩:=⟨_,rfl⟩
 have h0:t5 W X d tb nm key (.slice pc nc cc) (.slice pd nd cd) A 0 (fun b=>b<w7.heap.size/\b≠c/\(Value.slice pl nl cl).ownBlock≠some b) w7:=by
  obtain⟨a0,a1,a2,a3,a4,a5⟩:=d9.out w7 f6;obtain⟨c0,c1,c2,c3,c4,c5⟩:=d9.out w5 (zg _ _);have e2:=aB c2;have e4:=aB c4;subst hX;refine⟨a0,a1,a2,a3,⟨_,[],a4,ac.nil,fun q hq=>by simp[Value.ownBlock]at hq,fun i _ hi=>absurd hi (yh i)⟩,⟨by dsimp only;omega,by dsimp only;omega,f7 a2 (by decide)⟩,⟨by dsimp only;omega,by dsimp only;omega,f7 a4 (by decide)⟩,⟨by dsimp only;omega,by dsimp only;omega,by dsimp only;omega,by dsimp only;omega,by dsimp only;omega,by dsimp only;omega⟩,fun b z=>?_,a5⟩;by_cases e:(Value.slice pl nl cl).ownBlock=some b
  ·obtain⟨_,e3,h1⟩:=ac.block M b e;exact .inr ⟨e3,_,_,h1⟩
  exact .inl ⟨by omega,by omega,e⟩
 have h4:=aa hX;have j5:=Kc.iu c j1 w7 M;rw[hA]at j5;generalize N:({ tmps:=_,defers:=_ }:Act)=act;have m1:∀b,(Value.slice pl nl cl).ownBlock=some b->b<w7.heap.size:=(fun b z=>(ac.lt M b z).2);clear g9 g5 f6 j2 g4 hX;refine(wpIn_wide (n:=0)).1 ?_;refine wpIn_block ?_
 refine Kc.eb (sv:=.func (.func 43) #[] #[.pointer (some ⟨c,0,none⟩)]) (by rw[<-N];rfl) j5 (fun _=>rfl)
  (fun k S w=>t5 W X d tb nm key (.slice pc nc cc) (.slice pd nd cd) A k S w/\∀m,m<k->kt ts As t A m=false) (fun h6 _ S w=>h6=.ret/\∃er id col,res=(er,id,col)/\Bf W X.R er id col S w) ?l1 ?l2 _ ?hS ?hM ?hSM ⟨g6,M⟩ ⟨h0,fun m hm=>absurd hm (yh m)⟩
  (fun x=>{ tmps:=(act.tmps.setIfInBounds 19 (.int .i64 x)).setIfInBounds 7 (.int .i64 x),defers:=[] }) ?pre ?body ?done ?stop
 case l1=>exact fun k T A B h e5 I z h7 h8=>⟨h.1.loc I z h7 h8,h.2⟩
 case l2 =>
  rintro h6 k T A B⟨h1,er,id,col,h2,h3⟩ e5 I z h7 h8;exact⟨h1,er,id,col,h2,h3.loc I z h7 h8⟩
 case hS=>exact fun b z=>z.1
 case hM =>
  rintro b(rfl|h)
  ·omega
  exact m1 b h
 case hSM =>
  rintro b z(h|h)
  ·exact z.2.1 h
  exact z.2.2 h
 case pre =>
  intro l x W K hK;subst N;dsimp only[enc1]
  gi_wp2
  exact hK
 case body =>
  rintro l k hk T W1 e5 j6⟨F,c9⟩;have d1:k<A.length:=(by rw[<-j4];exact hk);have j7:xs[k]=A[k].1:=(by simp only[<-g7,yw]);rw[j7];obtain rfl:=h4.out;have j8:W1.heap[D]?=some (.cells #[.pointer (some ⟨d,0,none⟩)] 24):=F.cd;have j9:W1.heap[D+1]?=some (.cells #[.string nm,.slice pc nc cc,.string key,.slice pd nd cd] 60):=F.cf;have y:W1.heap[D+1+1]?=some (.cells zF 173):=F.cr;have e6:W1.heap[G]?=some (.cells #[.pointer (some ⟨tb,0,none⟩)] 48):=F.ct;obtain⟨v,vs,l1,l2,l3,_⟩:=F.lv;obtain⟨v',h9,k0⟩:=F.rl (Nat.le_of_lt d1);obtain rfl:v'=v:=(by rw[l1]at h9;cases h9;rfl);have l1:W1.heap[G+1]?=some (.cells #[v'] 234):=l1;have l3:∀q,v'.ownBlock=some q->q≠G+1:=(fun q hq=>(l3 q hq).2.1);obtain⟨pv,k6,rfl,_,_⟩:=ac.isslice l2;have d2:=b9.out W1 F.bel k d1;have i2:A[k].2.length=nc:=HA.1 _ (z8 d1);obtain⟨ik,i3⟩:=ae (A[k].1);obtain⟨er,i4⟩:=ae ((ge ts As t A[k].2 (dj A k)).1);obtain⟨col,d3⟩:=ae ((ge ts As t A[k].2 (dj A k)).2)
  have f8:Hid (∀w,Below W1.heap.size W1 w->∀g c,ac w W1.heap.size 32 3 (.slice (some ⟨g,0,none⟩) nc c) nc (cells3 A[k].2)->Calls prog 194 #[.pointer (some ⟨d,0,none⟩),.agg #[.string nm,.slice pc nc cc,.string key,.slice pd nd cd],.slice (some ⟨g,0,none⟩) nc c,.slice pv k k6] w fun e Z=>e=.returned (.tuple #[.int .i64 er,.string col])/\Below w.heap.size w Z):=aa (fun w P g c hr=>by
   have:=d8.out w (aC F.bel P) k d1 (.slice (some ⟨g,0,none⟩) nc c) (.slice pv k k6) ((fk.my hr i2).mono (fun _ _ _=>trivial)) (k0.later P)
   rw[i4,d3]at this;exact this)
  have k7:k+1<=1000000:=(by have:=HA.2.2.2;omega);have m8:(k:Int)<=1000:=(by have:=HA.2.2.2;omega);rw[i3]at d2 ⊢;have y1:=aA e6 0;have yl:=aB e6;have f:=aa (ab j8 (ab j9 (ab y (ab e6 l1))));have r:=aa (ab F (ab e5 (ab c9 (ab d1 (ab i3 (ab i4 (ab d3 (ab l2 (ab l3 (ab i2 k7))))))))));subst N;dsimp only;clear F e5 j6 h0 c9 j7 j8 j9 y e6 l1 h9 l2 l3 k0 i2 i3 i4 d3 k7;by_cases he:er=0
  ·subst he
   gi_wp2_with (first|(gi_at_call 191;refine aI rfl ?_;(with_reducible refine d2.mono ?_);rintro e w8⟨g8,c8,rfl,Q,p⟩;have d0:=aA (aE p f.1) 0;have dl:=aB (aE p f.1);have f0:=aA (aE p f.2.1) 0;have f1:=aA (aE p f.2.1) 1;have f2:=aA (aE p f.2.1) 2;have f3:=aA (aE p f.2.1) 3;have fl:=aB (aE p f.2.1);have g0:=aA (aE p f.2.2.2.2) 0;have gl:=aB (aE p f.2.2.2.2);have d4:=f8.out w8 p g8 c8 Q;have H8:=aa (ab p Q);clear d2 Q p y1 yl)|(gi_at_call 194;refine aI rfl ?_;(with_reducible refine d4.mono ?_);rintro e w9⟨rfl,b0⟩;have o:=aC H8.1 b0;have g0:=aA (aE o f.2.2.2.2) 0;have gl:=aB (aE o f.2.2.2.2);have b6:=aD w9 (.cells #[.slice (some ⟨g8,0,none⟩) nc c8] 35);have k8:=z7 w9 (.cells #[.slice (some ⟨g8,0,none⟩) nc c8] 35);have k9:=(r.2.2.2.2.2.2.2.1).later (aC o b6);obtain⟨gz,cz,wz,l0,r1,r2,r3⟩:=qL (ty:=234) underlying234 C8 rfl (by decide) (by decide) _ W.heap.size k9 r.2.2.2.2.2.2.2.2.2.2 (zx r.1.bel.size (aC o b6).size) w9.heap.size #[.slice (some ⟨g8,0,none⟩) nc c8] k8 rfl (fun u hu=>by simp at hu;subst hu;rfl);have e7:=(r2.block (G+1) (aB (aE (aC o b6) f.2.2.2.2)) (fun e=>r.2.2.2.2.2.2.2.2.1 _ e.symm rfl)).trans (aE (aC o b6) f.2.2.2.2);have m0:=aA e7 0;have mf:=fun i=>zq wz (G+1) i _ _ e7;have ml:=aB e7;have d5:=r.1.more r.2.1 H8.1 r.2.2.2.1 (vr:=.slice (some ⟨g8,0,none⟩) nc c8) r.2.2.2.2.2.2.2.2.2.1 H8.2 f.2.2.2.2 r.2.2.2.2.2.2.2.1 (aC b0 b6) r1 r2 (fun q hq=>by cases hq;exact r3);have HM:=aa d5;clear d4 b0 o d0 dl f0 f1 f2 f3 fl b6 k8 k9 r1 r2 r3 e7 d5)|(gi_at_builtin;refine bS rfl (.tmp 40) (.tmp 42) 234 rfl rfl rfl l0 ?_))
   obtain⟨S2,q1,q2,q3,q4⟩:=HM.out;refine⟨S2,q1,q2,q3,q4,fun m hm=>?_⟩;by_cases em:m=k
   ·subst em;exact pE r.2.2.2.1 r.2.2.2.2.2.1
   exact r.2.2.1 m (by omega)
  have m9:(er != 0)=true:=(by simp[he]);have HE:=aa he;clear he
  gi_wp2_with (first|(gi_at_call 191;refine aI rfl ?_;(with_reducible refine d2.mono ?_);rintro e w8⟨g8,c8,rfl,Q,p⟩;have d0:=aA (aE p f.1) 0;have dl:=aB (aE p f.1);have f0:=aA (aE p f.2.1) 0;have f1:=aA (aE p f.2.1) 1;have f2:=aA (aE p f.2.1) 2;have f3:=aA (aE p f.2.1) 3;have fl:=aB (aE p f.2.1);have g0:=aA (aE p f.2.2.2.2) 0;have gl:=aB (aE p f.2.2.2.2);have d4:=f8.out w8 p g8 c8 Q;have H8:=aa (ab p Q);clear d2 Q p y1 yl)|(gi_at_call 194;refine aI rfl ?_;(with_reducible refine d4.mono ?_);rintro e w9⟨rfl,b0⟩;have o:=aC H8.1 b0;have r0:=aA (aE o f.2.2.1) 0;have r1:=aA (aE o f.2.2.1) 1;have r2:=aA (aE o f.2.2.1) 2;have r3:=aA (aE o f.2.2.1) 3;have r4:=aA (aE o f.2.2.1) 4;have rf:=fun i=>zq w9 (D+1+1) i _ _ (aE o f.2.2.1);have rl:=aB (aE o f.2.2.1);have m2:=aa o;clear d4 b0 o d0 dl f0 f1 f2 f3 fl g0 gl))
  obtain⟨S2,q1,q2,q3,q4⟩:=r.1.found r.2.1 m2.out (er:=er) (id:=ik) (col:=col);refine⟨S2,q1,q2,q3,rfl,er,ik,col,?_,q4⟩;have e1:=kH r.2.2.2.1 (by rw[r.2.2.2.2.2.1];exact HE.out) r.2.2.1;exact(f5.out.symm.trans e1).trans (Prod.ext r.2.2.2.2.2.1 (Prod.ext r.2.2.2.2.1 r.2.2.2.2.2.2.1))
 case done =>
  rintro S' W' hg hi J⟨F,c9⟩ hQ hK U;subst N;obtain rfl:=h4.out;have i5:=aa a9;clear a9;have s:gq ts As t A=(0,0,e0):=kI (fun m hm=>c9 m (by rw[j4];exact hm));have y:W'.heap[D+1+1]?=some (.cells zF 173):=F.cr;have r0:=aA y 0;have r1:=aA y 1;have r2:=aA y 2;have r3:=aA y 3;have r4:=aA y 4;have rf:=(fun i=>zq W' (D+1+1) i _ _ y);have rl:=aB y;have r:=aa (ab F (ab hK (ab U (ab s y))));clear F hg hi J hQ U c9 hK s y
  gi_wp2_with fail
  refine(wpIn_wide (n:=0)).1 ?_
  gi_wp2_with fail
  obtain⟨F,hK,U,s,y⟩:=r.out;have h5:=nX y (.int .i64 0) (.int .i64 0) (.string e0) (.int .i64 0) (.string e0);have V:=bG W' (D+1+1) (.int .i64 0) (.int .i64 0) (.string e0) (.int .i64 0) (.string e0);have Y:W'.heap[w7.heap.size]?=some (.deferred (some [])):=hK;have a7:w7.heap.size≠D+1+1:=(fun e=>by rw[e,y]at Y;cases Y);have l4:=(V.block w7.heap.size (aB Y) (fun e=>a7 (Option.some.inj e))).trans Y;have d6:Below W.heap.size W _:=F.bel.trans ⟨V.os,V.tape,V.output,V.size,fun q hq=>V.block q (z9 hq F.bel.size) (fun e=>by cases e;omega)⟩;generalize ((((W'.setCell ⟨D+1+1,0,none⟩ (.int .i64 0)).setCell ⟨D+1+1,1,none⟩ (.int .i64 0)).setCell ⟨D+1+1,2,none⟩ (.string e0)).setCell ⟨D+1+1,3,none⟩ (.int .i64 0)).setCell ⟨D+1+1,4,none⟩ (.string e0)=wz at h5 V l4 d6 ⊢;refine dG (v:=dr 0 0 e0 0 e0) l4 (fun Z J I=>?_);have E:=(J.block (D+1+1) (aB h5) (fun e=>a7 e.symm)).trans h5;have z0:=aA E 0;have z1:=aA E 1;have z2:=aA E 2;have z3:=aA E 3;have z4:=aA E 4;refine⟨by simp[results,results163,go_sem,z0,z1,z2,z3,z4],?_⟩;have hr:=f5.out;rw[s]at hr;subst hr;refine⟨rfl,d6.trans (J.below d6.size (fun b z e=>?_))⟩;have a9:=i5.out;omega
 rintro h6 k S' W' n0 n1 hg hi J⟨rfl,er,id,col,s,hX⟩ hQ hK U;subst N;obtain rfl:=h4.out;have i5:=aa a9;clear a9;have r:=aa (ab hX (ab hK (ab U s)));clear hX hg hi J hQ U hK s
 gi_wp2_with fail
 obtain⟨hX,hK,U,s⟩:=r.out;have y:W'.heap[D+1+1]?=some (.cells #[.int .i64 er,.int .i64 0,.string e0,.int .i64 id,.string col] 173):=hX.cr;have Y:W'.heap[w7.heap.size]?=some (.deferred (some [])):=hK;have a7:w7.heap.size≠D+1+1:=(fun e=>by rw[e,y]at Y;cases Y);refine dG (v:=dr er 0 e0 id col) hK (fun Z J I=>?_);have E:=(J.block (D+1+1) (aB y) (fun e=>a7 e.symm)).trans y;have z0:=aA E 0;have z1:=aA E 1;have z2:=aA E 2;have z3:=aA E 3;have z4:=aA E 4;refine⟨by simp[results,results163,go_sem,z0,z1,z2,z3,z4],?_⟩;subst s;have l5:Below W.heap.size W Z:=hX.bel.trans (J.below hX.bel.size (fun b z e=>by have a9:=i5.out;omega));rw[l8]at l5;exact⟨rfl,l5⟩
