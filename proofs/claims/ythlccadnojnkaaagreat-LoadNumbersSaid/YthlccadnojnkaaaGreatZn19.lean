import Derived.Test.YthlccadnojnkaaaGreatZn11
import Derived.Test.YthlccadnojnkaaaGreatZn17
import Derived.Test.YthlccadnojnkaaaGreatZn18
set_option maxHeartbeats 2000000
set_option maxRecDepth 100000
namespace Go.Proofs.YthlccadnojnkaaaGreat
open Go.Proofs.Tryz
open Go Go.RowKit Go.Proofs Co Co.S
structure Tn (S:Nat->Prop) (W W':World):Prop where
 chg:Chg S W W'
 kp:∀(b:Nat) (cur:Array Value) (e:TypeId) (m:Nat×Nat),W.heap[b]?=some (Obj.cells cur e m)->BY e=false->W'.heap[b]?=some (Obj.cells cur e m)
section
variable {S S1 T1:Nat->Prop}{W W' W'':World}
theorem Tn.of_below(h:Below W.heap.size W W'):Tn S W W':=⟨Chg.of_below h,fun b _ _ _ a _=>(h.block b (aC a)).trans a⟩
theorem Tn.refl(S:Nat->Prop)(W:World):Tn S W W:=Tn.of_below (zb _ _)
theorem Tn.trans(h:Tn S W W')(k:Tn S1 W' W'')(h1:∀b,b<W.heap.size->S b->T1 b)(h2:∀b,b<W.heap.size->S1 b->T1 b):Tn T1 W W'':=
 ⟨h.chg.trans k.chg h1 h2,fun b a e m d c=>k.kp b a e m (h.kp b a e m d c) c⟩
theorem Tn.mono(h:Tn S W W')(hs:∀b,b<W.heap.size->S b->T1 b):Tn T1 W W':=⟨h.chg.mono hs,h.kp⟩
theorem Tn.bq(h:Chg S W W')(hs:∀b,b<W.heap.size->S b->Ty W b∨∃d f,W.heap[b]?=some (.map d f)):Tn S W W':=by
 classical
 refine⟨h,fun b j e m a k=>?_⟩;by_cases g:S b
 ·rcases hs b (aC a) g with ⟨cs,ty,c,i⟩ | ⟨d,f,c⟩
  ·rw[a]at c;cases c;rw[k]at i;cases i
  rw[a]at c;cases c
 exact(h.block b (aC a) g).trans a
theorem Tn.qu(h:Tn S W W'):Kp W W':=fun b c e m f _ d=>h.kp b c e m f (by
 unfold mt at d;simp at d
 have g:e=95∨e=9∨e=124:=by
  by_cases a:e=95
  ·exact .inl a
  by_cases b:e=9
  ·exact .inr (.inl b)
  ·exact .inr (.inr (d a b))
 rcases g with rfl|rfl|rfl <;> rfl)
theorem Tn.size(h:Tn S W W'):W.heap.size<=W'.heap.size:=h.chg.size
theorem ac.tn{base:Nat}{e:TypeId}{size:Nat}{v:Value}{n:Nat}{xs:List Value}(h:ac W base e size v n xs)(hk:Tn S W W')(he:BY e=false):ac W' base e size v n xs:=
 h.of fun k a=>by
  obtain⟨_,c,b⟩:=h.block k a;rw[hk.kp k _ _ _ b he,b]
theorem gq.tn{base:Nat}{cv dv:Value}{t:T}{ps:List Value}(h:gq W base cv dv t ps)(hk:Tn S W W'):gq W' base cv dv t ps:=
 ⟨h.c.tn hk rfl,h.n,h.d.tn hk rfl,fun j a b=>(h.l j a b).tn hk rfl⟩
theorem Vm.tn{v:Value}{P:Int->Bool}(h:Vm W v P)(hk:Tn S W W'):Vm W' v P:=by
 obtain⟨l,a,b,c⟩:=h;exact⟨l,ac.tn a hk rfl,b,c⟩
theorem Co.S.Col.tn{cb:Nat}{kind:Int}{l:List T3}{v:Value}(h:Col cb kind l v W)(a:Tn S W W')(h1:¬ S cb)(h2:∀b,v.ownBlock=some b->¬ S b):Col cb kind l v W':=by
 obtain⟨⟨L,i,c,n⟩,f,o⟩:=h;have e:W'.heap[cb]?=W.heap[cb]?:=a.chg.block cb c.lt h1;obtain⟨cv,m,q⟩:=c.dm.mp;obtain⟨t,p,r1,r,s⟩:=m.rt
 refine⟨⟨L,i,⟨(za (w:=W) e).trans c.c0,(za (w:=W) e).trans c.c1,⟨⟨cv,⟨m.dm,(za (w:=W) e).trans m.c0,⟨t,p,(za (w:=W) e).trans r1,Tr.mi (fun b cs g=>?_) r,s⟩,fun j=>(vc (w:=W) e).trans (m.fz j),m.srt,
  m.bel.trans ⟨a.chg.os,a.chg.tape,a.chg.output,a.chg.size,fun k a=>absurd a (yo _)⟩,m.ty.of e⟩,q⟩,c.dm.pos,c.dm.len⟩,(za (w:=W) e).trans c.c4⟩,n⟩,f.of (fun k d=>a.chg.block k (f.lt k d).2 (h2 k d)),o⟩
 rw[a.kp b cs 220 _ g rfl,g]
theorem Co.S.Col.ty{cb:Nat}{kind:Int}{l:List T3}{v:Value}(h:Col cb kind l v W):Ty W cb/\∀b,v.ownBlock=some b->Ty W b:=by
 obtain⟨⟨L,g,c,i⟩,d,j⟩:=h;refine⟨c.dm.ty,fun b e=>?_⟩;obtain⟨_,a,f⟩:=d.block b e;exact⟨a,32,f,rfl⟩
theorem Co.S.Col.rlt{cb:Nat}{kind:Int}{l:List T3}{v:Value}(h:Col cb kind l v W):∀b,v.ownBlock=some b->b<W.heap.size:=fun b a=>(h.row.lt b a).2
end
abbrev ivn(p:Nat):Value:=.int .i64 (p:Int)
abbrev ptrs(cb:Nat->Nat)(n:Nat):List Value:=(List.range n).map fun k=>(.pointer (some ⟨cb k,0,none⟩))
structure In where
 fc:Value
 fd:Value
 cv:Value
 pv:Value
 fv:Value
 gv:Value
 lv:Value
 ps:List Value
 cb:Nat->Nat
 v:Nat->Value
 f:Int->Option Nat
 np:Nat
 m:Nat
 free:List Nat
 late:List Int
 G:Int->Bool
 cl:Nat->List T3
abbrev Bw(t:T)(i:In)(next:Nat):Obj:=.cells #[.string t.nm,i.fc,.string t.key,i.fd,i.cv,i.pv,i.fv,i.gv,i.lv,.int .i64 (next:Int)] 116
structure wl (W:World) (tb:Nat) (t:T) (next:Nat) (i:In) (lab:Nat->Nat):Prop where
 form:gq W 0 i.fc i.fd t i.ps
 cols:ac W 0 131 1 i.cv t.cols.length (ptrs i.cb t.cols.length)
 col:∀k (h:k<t.cols.length),Col (i.cb k) t.cols[k].kd (i.cl k) (i.v k) W
 place:Pm W i.pv i.f i.np i.m
 pm:i.m<=next
 free:ac W 0 3 1 i.fv i.free.length (i.free.map ivn)
 gone:Vm W i.gv i.G
 late:ac W 0 3 1 i.lv i.late.length (i.late.map iv)
 l1:lab tb=1
 l2:∀b,mapBlock i.pv=some b->lab b=2
 l3:∀b,i.fv.ownBlock=some b->lab b=3
 l4:∀b,i.lv.ownBlock=some b->lab b=4
 l6:∀k,k<t.cols.length->lab (i.cb k)=6+2*k
 l7:∀k,k<t.cols.length->∀b,(i.v k).ownBlock=some b->lab b=7+2*k
 lt:∀b,lab b≠0->b<W.heap.size
structure fh (W:World) (tb:Nat) (t:T) (next:Nat) (i:In) (lab:Nat->Nat):Prop extends wl W tb t next i lab where
 box:W.heap[tb]?=some (Bw t i next)
section
variable {W W':World}{tb next:Nat}{t:T}{i:In}{lab lab':Nat->Nat}
theorem wl.tlt(h:wl W tb t next i lab):tb<W.heap.size:=h.lt tb (by rw[h.l1];decide)
theorem wl.tn{S:Nat->Prop}(h:wl W tb t next i lab)(hk:Tn S W W')(hs:∀b,S b->lab b=0∨lab b=1):wl W' tb t next i lab:=by
 have e:∀b,lab b≠0->lab b≠1->¬ S b:=(fun b d f g=>(hs b g).elim d f);have d:∀b,lab b≠0->lab b≠1->W'.heap[b]?=W.heap[b]?:=fun b d f=>hk.chg.block b (h.lt b d) (e b d f)
 exact⟨h.form.tn hk,h.cols.tn hk rfl,fun k c=>(h.col k c).tn hk (e _ (by rw[h.l6 k c];omega) (by rw[h.l6 k c];omega)) (fun b a=>e _ (by rw[h.l7 k c b a];omega) (by rw[h.l7 k c b a];omega)),
  h.place.of (fun b a=>d b (by rw[h.l2 b a];decide) (by rw[h.l2 b a];decide)),h.pm,h.free.of (fun b a=>d b (by rw[h.l3 b a];decide) (by rw[h.l3 b a];decide)),h.gone.tn hk,h.late.of (fun b a=>d b (by rw[h.l4 b a];decide) (by rw[h.l4 b a];decide)),h.l1,h.l2,h.l3,h.l4,h.l6,h.l7,fun b a=>z9 (h.lt b a) hk.size⟩
theorem fh.tn{S:Nat->Prop}(h:fh W tb t next i lab)(hk:Tn S W W')(hs:∀b,S b->lab b=0):fh W' tb t next i lab:=
 ⟨h.towl.tn hk (fun b a=>.inl (hs b a)),(hk.chg.block tb h.tlt (fun c=>by have:=hs tb c;rw[h.l1]at this;cases this)).trans h.box⟩
theorem fh.later(h:fh W tb t next i lab)(hb:Below W.heap.size W W'):fh W' tb t next i lab:=h.tn (S:=fun _=>False) (Tn.of_below hb) (fun _ h=>h.elim)
theorem fh.ty(h:fh W tb t next i lab):Ty W tb:=⟨_,116,h.box,rfl⟩
theorem fh.tlt(h:fh W tb t next i lab):tb<W.heap.size:=h.towl.tlt
theorem fh.cells(h:fh W tb t next i lab):W.cell? ⟨tb,0,none⟩=some (.string t.nm)/\W.cell? ⟨tb,1,none⟩=some i.fc/\W.cell? ⟨tb,2,none⟩=some (.string t.key)/\W.cell? ⟨tb,3,none⟩=some i.fd/\W.cell? ⟨tb,4,none⟩=some i.cv/\W.cell? ⟨tb,5,none⟩=some i.pv/\W.cell? ⟨tb,6,none⟩=some i.fv/\W.cell? ⟨tb,7,none⟩=some i.gv/\W.cell? ⟨tb,8,none⟩=some i.lv/\W.cell? ⟨tb,9,none⟩=some (.int .i64 (next:Int)):=
 ⟨aA h.box 0,aA h.box 1,aA h.box 2,aA h.box 3,aA h.box 4,aA h.box 5,aA h.box 6,aA h.box 7,aA h.box 8,aA h.box 9⟩
theorem fh.fz(h:fh W tb t next i lab)(j:Nat):W.frozen? ⟨tb,j,none⟩=false:=zo W tb j _ _ h.box
def Ext(W:World)(lab lab':Nat->Nat):Prop:=∀b,b<W.heap.size->lab' b=lab b
theorem Ext.refl(W:World)(lab:Nat->Nat):Ext W lab lab:=fun _ _=>rfl
theorem Ext.trans{lab'':Nat->Nat}(h:Ext W lab lab')(hs:W.heap.size<=W'.heap.size)(k:Ext W' lab' lab''):Ext W lab lab'':=fun b a=>(k b (z9 a hs)).trans (h b a)
theorem Tn.own(h:fh W tb t next i lab)(j:Nat)(u:Value):Tn (fun b=>lab b=1) W (W.setCell ⟨tb,j,none⟩ u):=by
 have c:Chg (fun b=>b=tb) W (W.setCell ⟨tb,j,none⟩ u):=(Chg.refl (fun b=>b=tb) W).setCell (p:=⟨tb,j,none⟩) (fun _=>rfl) u;exact(Tn.bq c (fun b _ a=>.inl (a▸h.ty))).mono (fun b _ a=>a▸h.l1)
end
def uv(c:C):Value:=.agg #[.string c.nm,.int .i64 c.kd,.bool c.mu,.string c.tgt]
section
variable {W W':World}{tb next:Nat}{t:T}{i:In}{lab:Nat->Nat}
theorem fB(h:fh W tb t next i lab){x:Int}(hx:kj x):Calls prog 72 #[.pointer (some ⟨tb,0,none⟩),.int .i64 x] W fun e b=>e=.returned (.tuple #[.int .i64 (((i.f x).getD 0:Nat):Int),.bool (i.f x).isSome])/\b=W:=by
 have a:=h.place.look hx;obtain⟨_,_,_,_,_,c,_⟩:=h.cells;have d:=h.tlt;generalize (((i.f x).getD 0:Nat):Int)=p at a ⊢;generalize (i.f x).isSome=ok at a ⊢;generalize i.pv=pv at c a;clear h hx;go_enter func72,ntmps72;go_wp2_with (at_lookup;refine sW rfl (.tmp 14) (.tmp 15) 114 true rfl rfl rfl a ?_);go_ret2;exact⟨rfl,rfl⟩
theorem Lv{c:C}{x:ByteArray}{b:Nat}{w:World}(h:w.cell? ⟨b,0,none⟩=some (.string x)):Calls prog 114 #[uv c,.pointer (some ⟨b,0,none⟩)] w fun e d=>e=.returned (.bool (ns x c))/\Below w.heap.size w d:=by
 have f:b<w.heap.size:=xn w ⟨b,0,none⟩ h;have a:(c.nm.toList==x.toList)=ns x c:=(by rw[aR];rfl);generalize ns x c=r at a ⊢;unfold uv;go_enter func114,ntmps114
 go_wp2
 go_ret;exact⟨rfl,aD w _⟩
theorem Kk{l:List C}{v:Value}{x:ByteArray}{b:Nat}{W:World}(h:fu W v l)(hb:W.cell? ⟨b,0,none⟩=some (.string x)):Calls prog 113 #[v,.func (.func 114) #[] #[.pointer (some ⟨b,0,none⟩)]] W fun e H=>e=.returned (.int .i64 (gx l x))/\Below W.heap.size W H:=by
 obtain⟨pc,S,p,I,J⟩:=h.slice;obtain⟨n,u⟩:=ag l.length;unfold maxLen at J;rw[u]at p I;subst p;have q:b<W.heap.size:=xn W ⟨b,0,none⟩ hb;have y:=aa u;have z:=aa (ab h (ab hb q));have F:=enters_of func114 (by kernel_rfl) rfl;clear h hb u q;go_enter func113,ntmps113;go_wp2_with fail;go_loopg [8] (n+1) (fun L M w=>∃(j:Nat),M=.int .i64 (j:Int)/\j<=n/\n+1<=j+L/\(∀i (h:i<l.length),i<j->ns x l[i]=false)/\Below W.heap.size W w)
 case atStart=>exact⟨0,rfl,zh _,by omega,fun i _ k=>by omega,zb _ _⟩
 obtain⟨j,rfl,U,V,r,t⟩:=hrel;have m:=aa (ab r t);by_cases s:j<n
 ·have A:j<l.length:=(by rw[y.out];exact s);obtain⟨bc,N,rfl,O,c0,c1,c2,c3⟩:=fu.col (z.1.later t) A;have d:wr.cell? ⟨b,0,none⟩=some (.string x):=(za (w:=W) (t.block b z.2.2)).trans z.2.1;have a:=Lv (c:=l[j]) d;obtain⟨c,f⟩:=ag (l[j]);rw[f]at c0 c1 c2 c3 a;have G:=aa f;have P:(j:Int)<(n:Int):=(by omega);clear f r t d;unfold uv at a;cases o:ns x c
  ·have B:=aa o;rw[o]at a;clear o;go_wp2_with (go_at_call 114;refine a.mono ?_;rintro e Q⟨rfl,g⟩);have E:=aa g;go_roundg (n-j)
   case measure=>omega
   refine⟨j+1,by go_num,by omega,by omega,fun i k R=>?_,aB m.2 E.out⟩;by_cases e:i=j
   ·subst e;rw[G.out];exact B.out
   exact m.1 i k (by omega)
  have B:=aa o;rw[o]at a;clear o;go_wp2_with (go_at_call 114;refine a.mono ?_;rintro e Q⟨rfl,g⟩);go_ret;exact⟨aQ (wY j (by rw[y.out];exact s) (by rw[G.out];exact B.out) (fun i k=>m.1 i _ k)).symm,aB m.2 g⟩
 go_wp2_with fail;go_ret;exact⟨aQ (mQ (fun i k=>m.1 i k (by have:=y.out;omega))).symm,m.2⟩
theorem fO(h:fh W tb t next i lab)(x:ByteArray):Calls prog 76 #[.pointer (some ⟨tb,0,none⟩),.string x] W fun e m=>e=.returned (.tuple #[.int .i64 (gx t.cols x),.bool (decide (0<=gx t.cols x))])/\Below W.heap.size W m:=by
 have f:=aD W (.cells #[.string x] 9);have j:=aA (z7 W (.cells #[.string x] 9)) 0;have d:=h.later f;have a:=Kk (x:=x) d.form.rd.1 j;obtain⟨_,c1,_⟩:=d.cells;have n:=d.tlt;have k:=aa f;obtain⟨o,b⟩:=ag (W.alloc (.cells #[.string x] 9));obtain⟨B,c⟩:=ag W.heap.size;rw[b]at c1 n a k;rw[c]at a;generalize gx t.cols x=z at a ⊢;generalize i.fc=fc at c1 a;have p:(z≥0)=(0<=z):=rfl;have l:=aa (ab b c);clear h d f j b c;go_enter func76,ntmps76;go_upto_region 1 with fail;rw[l.1,l.2];go_wp2_with (go_at_call 113;refine a.mono ?_;rintro e q⟨rfl,g⟩);go_ret2;exact⟨rfl,aB k.out g⟩
theorem gZ(h:fh W tb t next i lab)(j:Nat)(hj:j<t.cols.length)(k n1:Int)(s:ByteArray)(hs:s.size<=maxLen):Calls prog 77 #[.pointer (some ⟨tb,0,none⟩),.int .i64 (j:Int),.agg #[.int .i64 k,.int .i64 n1,.string s]] W fun e b=>e=.returned (.bool (lx t.cols[j].kd (k,n1,s)))/\Below W.heap.size W b:=by
 have l:=aD W (.cells #[.int .i64 k,.int .i64 n1,.string s] 32);have L:=z7 W (.cells #[.int .i64 k,.int .i64 n1,.string s] 32);have E:=h.later l;obtain⟨pc,P,o,R,S⟩:=h.form.rd.1.slice;obtain⟨n,Q⟩:=ag t.cols.length;have y:=E.form.rd.1;rw[o]at y;obtain⟨cb,oc,rfl,r,_⟩:=fu.col y hj;obtain⟨kd,u⟩:=ag (t.cols[j].kd);obtain⟨f,v⟩:=ag (W.alloc (.cells #[.int .i64 k,.int .i64 n1,.string s] 32));obtain⟨B,g⟩:=ag W.heap.size;rw[v]at E L l y r;rw[g]at L l;have F:B<=f.heap.size:=g▸l.size;rw[Q]at y o R
 have c:Hid (∀w,Below f.heap.size f w->w.cell? ⟨B,0,none⟩=some (.int .i64 k)/\w.cell? ⟨B,1,none⟩=some (.int .i64 n1)/\w.cell? ⟨B,2,none⟩=some (.string s)/\w.cell? ⟨tb,1,none⟩=some (.slice (some ⟨cb,oc,none⟩) n P)/\w.cell? ⟨cb,oc+j*4+1,none⟩=some (.int .i64 kd)/\w.heap[B]?=some (.cells #[.int .i64 k,.int .i64 n1,.string s] 32)):=aa (fun w M=>by
  have p:=aE M L;refine⟨aA p 0,aA p 1,aA p 2,?_,?_,p⟩
  ·rw[<-o];exact(E.later M).cells.2.1
  rw[<-u];exact(fu.AU (y.later M) hj).2.2.1)
 have z:=aa (ab v g);have N:=aa (show Below W.heap.size W f by rw[g];exact l);have O:=aa (show W.heap.size<=f.heap.size by rw[g];exact F);have Y:tb<f.heap.size:=E.tlt;have U:(j:Int)<(n:Int):=(by omega);have V:cb<f.heap.size:=r;unfold maxLen at S;rw[u];unfold lx;simp only;clear h E y L l o F v g Q u r;generalize x:jf k n1 s.data.toList=may;have Z:=aa x;have d:=(fun w=>De k n1 s w hs);rw[x]at d;clear x;cases may with
 | false =>
  simp only[Bool.false_and];go_enter func77,ntmps77;go_upto_region 1 with fail;rw[z.1,z.2];refine Par.ae 21 [.agg #[.int .i64 k,.int .i64 n1,.string s],.bool false,.bool false,undef,undef,undef,undef,undef,undef,undef,undef,undef,undef,undef,undef,undef,undef,undef,undef,undef,.bool false] (fun w=>Below f.heap.size f w) ?A1 ?hm1 ?hB1 ?hA1 ((zb _ _).drew) ?hop1 ?hT1
  case hm1=>kernel_rfl
  case hB1=>kernel_rfl
  case hA1 =>
   simp only[Par.am,Par.ai,Act.put,cy,db,bt,cp,dc,da,bu,eg,ed];rfl
  case hop1 =>
   simp only[ce,ze,Par.ah,yu];and_intros<;>intro b a<;>have q:=aa a
   have b0:=(c.out b a).1;have b1:=(c.out b a).2.1;have b2:=(c.out b a).2.2.1;rotate_left
   ·clear a;simp only[Par.Gives];go_simp;exact(d b).mono (fun e G⟨H,l⟩=>⟨H,aB q.out l⟩)
   rotate_left 19
   all_goals(clear a;simp only[Par.Gives];go_simp;all_goals exact q.out)
  case hT1 =>
   intro b a;simp only[cw,ym];have I:=N.out.trans (a.mono O.out);clear a;go_wp2_with fail;go_ret;exact⟨rfl,I⟩
 | true =>
  by_cases A:k=0
  ·have e0:(k==0)=true:=(by simp[A]);have m:decide (k=0)=true:=xd A;rw[m];simp only[vt,Bool.true_or];clear m A;go_enter func77,ntmps77;go_upto_region 1 with fail;rw[z.1,z.2];refine Par.ae 21 [.agg #[.int .i64 k,.int .i64 n1,.string s],.bool true,.bool true,.pointer (some ⟨B,0,none⟩),.int .i64 k,.bool true,.bool true,undef,undef,undef,undef,undef,undef,undef,undef,undef,undef,undef,undef,.bool true,.bool true] (fun w=>Below f.heap.size f w) ?A2 ?hm2 ?hB2 ?hA2 ((zb _ _).drew) ?hop2 ?hT2
   case hm2=>kernel_rfl
   case hB2=>kernel_rfl
   case hA2 =>
    simp only[Par.am,Par.ai,Act.put,cy,db,bt,cp,dc,da,bu,eg,ed];rfl
   case hop2 =>
    simp only[ce,ze,Par.ah,yu];and_intros<;>intro b a<;>have q:=aa a
    have b0:=(c.out b a).1;have b1:=(c.out b a).2.1;have b2:=(c.out b a).2.2.1;rotate_left
    ·clear a;simp only[Par.Gives];go_simp;exact(d b).mono (fun e G⟨H,l⟩=>⟨H,aB q.out l⟩)
    rotate_left;have b0:=(c.out b a).1;have J:=aC (c.out b a).2.2.2.2.2;rotate_left;have b0:=(c.out b a).1;have J:=aC (c.out b a).2.2.2.2.2;rotate_left 17
    all_goals(clear a;simp only[Par.Gives];go_simp;all_goals exact q.out)
   case hT2 =>
    intro b a;simp only[cw,ym];have I:=N.out.trans (a.mono O.out);clear a;go_wp2_with fail;go_ret;exact⟨rfl,I⟩
  ·have e0:(k==0)=false:=(by simp[A]);have m:decide (k=0)=false:=yw A;rw[m];simp only[vt,Bool.false_or];have X:(k==kd)=decide (k=kd):=(by rw[vf];simp);generalize decide (k=kd)=ke at X ⊢;clear m A;go_enter func77,ntmps77;go_upto_region 1 with fail;rw[z.1,z.2];refine Par.ae 21 [.agg #[.int .i64 k,.int .i64 n1,.string s],.bool true,.bool true,.pointer (some ⟨B,0,none⟩),.int .i64 k,.bool false,.bool false,.pointer (some ⟨B,0,none⟩),.int .i64 k,.pointer (some ⟨tb,0,none⟩),.pointer (some ⟨tb,0,none⟩),.pointer (some ⟨tb,0,none⟩),.pointer (some ⟨tb,1,none⟩),.slice (some ⟨cb,oc,none⟩) n P,.int .i64 (j:Int),.pointer (some ⟨cb,oc+j*4,none⟩),.pointer (some ⟨cb,oc+j*4+1,none⟩),.int .i64 kd,.bool ke,.bool ke,.bool ke] (fun w=>Below f.heap.size f w) ?A3 ?hm3 ?hB3 ?hA3 ((zb _ _).drew) ?hop3 ?hT3
   case hm3=>kernel_rfl
   case hB3=>kernel_rfl
   case hA3 =>
    simp only[Par.am,Par.ai,Act.put,cy,db,bt,cp,dc,da,bu,eg,ed];rfl
   case hop3 =>
    simp only[ce,ze,Par.ah,yu];and_intros<;>intro b a<;>have q:=aa a
    have b0:=(c.out b a).1;have b1:=(c.out b a).2.1;have b2:=(c.out b a).2.2.1;rotate_left
    ·clear a;simp only[Par.Gives];go_simp;exact(d b).mono (fun e G⟨H,l⟩=>⟨H,aB q.out l⟩)
    rotate_left;have b0:=(c.out b a).1;have J:=aC (c.out b a).2.2.2.2.2;rotate_left;have b0:=(c.out b a).1;have J:=aC (c.out b a).2.2.2.2.2;rotate_left 3;have b0:=(c.out b a).1;have J:=aC (c.out b a).2.2.2.2.2;rotate_left;have b0:=(c.out b a).1;have J:=aC (c.out b a).2.2.2.2.2;rotate_left 5;have zt:=(c.out b a).2.2.2.1;rotate_left 4;have zk:=(c.out b a).2.2.2.2.1;rotate_left 4
    all_goals(clear a;simp only[Par.Gives];go_simp;all_goals exact q.out)
   case hT3 =>
    intro b a;simp only[cw,ym];have I:=N.out.trans (a.mono O.out);clear a;go_wp2_with fail;go_ret;exact⟨rfl,I⟩
end
abbrev R1:=Int×List T3
abbrev z3:T3:=(0,0,⟨#[]⟩)
def rowOf(cl:Nat->List T3)(n p:Nat):List T3:=(List.range n).map fun k=>((cl k)[p]?).getD z3
theorem cC(cl:Nat->List T3)(n p:Nat):(rowOf cl n p).length=n:=by simp[rowOf]
theorem cH(cl:Nat->List T3){n p k:Nat}(h:k<n):(rowOf cl n p)[k]?=some (((cl k)[p]?).getD z3):=by simp[rowOf,h]
theorem mR{cl:Nat->List T3}{n p:Nat}{l:List T3}(hl:l.length=n)(h:∀k,k<n->(cl k)[p]?=l[k]?):l=rowOf cl n p:=by
 apply ug;intro k;by_cases a:k<n
 ·rw[cH cl a,h k a,z6 (by omega)];rfl
 rw[u6 (by omega),u6 (by rw[cC];omega)]
theorem fP{cl cl':Nat->List T3}{n p:Nat}(h:∀k,k<n->(cl' k)[p]?=(cl k)[p]?):rowOf cl n p=rowOf cl' n p:=by
 apply List.map_congr_left;intro k a;rw[h k (List.mem_range.1 a)]
structure Inv (n next:Nat) (i:In) (A:List R1):Prop where
 np:i.np=A.length
 lens:∀k,k<n->(i.cl k).length=A.length+i.free.length
 srt:A.Pairwise (fun a b=>a.1<b.1)
 rng:∀a∈A,0<=a.1/\a.1<next
 pl:∀a∈A,∃p,i.f a.1=some p/\p<A.length+i.free.length/\a.2=rowOf i.cl n p
 no:∀x,(∀a∈A,a.1≠x)->i.f x=none
 inj:∀x y p,i.f x=some p->i.f y=some p->x=y
 fre:∀p∈i.free,p<A.length+i.free.length/\(∀x,i.f x≠some p)/\∀k,k<n->(i.cl k)[p]?=some z3
 fnd:i.free.Nodup
 cov:∀p,p<A.length+i.free.length->p∈i.free∨∃a∈A,i.f a.1=some p
 gone:∀x,(i.G x=true∨x∈i.late)↔(0<=x/\x<next/\∀a∈A,a.1≠x)
 few:A.length+i.free.length<=next
 lat:i.late.length<=63
 lim:next<=65536
section
variable {n next:Nat}{i i':In}{A:List R1}
theorem Inv.Ab{x:Int}{p:Nat}(h:Inv n next i A)(hf:i.f x=some p):∃a∈A,a.1=x/\p<A.length+i.free.length/\a.2=rowOf i.cl n p:=by
 by_cases c:∃a∈A,a.1=x
 ·obtain⟨a,b,rfl⟩:=c;obtain⟨q,d,g,j⟩:=h.pl a b;rw[hf]at d;cases d;exact⟨a,b,rfl,g,j⟩
 rw[h.no x (fun a b e=>c ⟨a,b,e⟩)]at hf;cases hf
theorem Inv.is{x:Int}(h:Inv n next i A):(i.f x).isSome=true↔∃a∈A,a.1=x:=by
 constructor
 ·intro c;obtain⟨p,b⟩:=Option.isSome_iff_exists.1 c;obtain⟨a,d,e,_⟩:=h.Ab b;exact⟨a,d,e⟩
 rintro⟨a,g,rfl⟩;obtain⟨p,b,_⟩:=h.pl a g;rw[b];rfl
theorem Inv.ins(h:Inv n next i A){p:Nat}{vals:List T3}(hv:vals.length=n)(hn:next+1<=65536)(hnp:i'.np=i.np+1)(hf:i'.f=tu i.f next p)(hl:i'.late=i.late)(hG:i'.G=i.G)(hnf:∀x,i.f x≠some p)(hfr:∀q,q∈i'.free↔q∈i.free/\q≠p)(hnd:i'.free.Nodup)(hP:∀q,q<A.length+1+i'.free.length↔(q<A.length+i.free.length∨q=p))(hfew:A.length+1+i'.free.length<=next+1)(hlen:∀k,k<n->(i'.cl k).length=A.length+1+i'.free.length)(h1:∀k,k<n->(i'.cl k)[p]?=vals[k]?)(h2:∀k,k<n->∀q,q≠p->(i'.cl k)[q]?=(i.cl k)[q]?):Inv n (next+1) i' (A++[((next:Int),vals)]):=by
 have j:(A++[((next:Int),vals)]).length=A.length+1:=(by simp);have m:∀a∈A,a.1≠(next:Int):=(fun a c=>by have:=(h.rng a c).2;omega);refine⟨by rw[j,hnp,h.np],fun k l=>by rw[j];exact hlen k l,?_,?_,?_,?_,?_,?_,hnd,?_,?_,by rw[j];exact hfew,by rw[hl];exact h.lat,hn⟩
 ·rw[ve];refine⟨h.srt,by simp,fun a c b F=>?_⟩;rw[List.mem_singleton.1 F];exact(h.rng a c).2
 ·intro a c;rcases List.mem_append.1 c with c|c
  ·have:=h.rng a c;omega
  rw[List.mem_singleton.1 c];exact⟨by simp only;omega,by simp only;omega⟩
 ·intro a c;rw[j,hf];rcases List.mem_append.1 c with c|c
  ·obtain⟨q,o,r,w⟩:=h.pl a c;have z:q≠p:=(fun e=>hnf a.1 (by rw[o,e]));refine⟨q,?_,(hP q).2 (.inl r),?_⟩
   ·unfold tu;rw[zq (m a c)];exact o
   rw[w];exact fP (fun k l=>h2 k l q z)
  rw[List.mem_singleton.1 c];exact⟨p,by unfold tu;rw[zv rfl],(hP p).2 (.inr rfl),mR hv h1⟩
 ·intro x d;rw[hf];unfold tu;rw[zq (fun e=>d _ (List.mem_append.2 (.inr (List.mem_singleton.2 rfl))) e.symm)];exact h.no x (fun a c=>d a (List.mem_append.2 (.inl c)))
 ·intro x y q d g;rw[hf]at d g;unfold tu at d g;by_cases s:x=(next:Int) <;> by_cases t:y=(next:Int)
  ·rw[s,t]
  ·rw[zv s]at d;rw[zq t]at g;cases d;exact absurd g (hnf y)
  ·rw[zq s]at d;rw[zv t]at g;cases g;exact absurd d (hnf x)
  rw[zq s]at d;rw[zq t]at g;exact h.inj x y q d g
 ·intro q u;obtain⟨o,r⟩:=(hfr q).1 u;obtain⟨w,H,I⟩:=h.fre q o;refine⟨by rw[j];exact(hP q).2 (.inl w),fun x=>?_,fun k l=>(h2 k l q r).trans (I k l)⟩;rw[hf];unfold tu;split
  ·intro e;cases e;exact r rfl
  exact H x
 ·intro q u;rw[j]at u;rw[hf];by_cases e:q=p
  ·subst e;exact .inr ⟨_,List.mem_append.2 (.inr (List.mem_singleton.2 rfl)),by unfold tu;rw[zv rfl]⟩
  rcases h.cov q (((hP q).1 u).resolve_right e)with B|⟨a,c,B⟩
  ·exact .inl ((hfr q).2 ⟨B,e⟩)
  exact .inr ⟨a,List.mem_append.2 (.inl c),by unfold tu;rw[zq (m a c)];exact B⟩
 intro x;rw[hl,hG,h.gone x];constructor
 ·rintro⟨E,J,v⟩;refine⟨E,by omega,fun a c=>?_⟩;rcases List.mem_append.1 c with c|c
  ·exact v a c
  rw[List.mem_singleton.1 c];simp only;omega
 rintro⟨E,J,v⟩
 have:=v _ (List.mem_append.2 (.inr (List.mem_singleton.2 rfl)))
 simp only at this;exact⟨E,by omega,fun a c=>v a (List.mem_append.2 (.inl c))⟩
def without(A:List R1)(x:Int):List R1:=A.filter fun a=>decide (a.1≠x)
theorem bX{A:List R1}{x:Int}{a:R1}:a∈without A x↔a∈A/\a.1≠x:=by simp[without]
theorem sY{A:List R1}(hs:A.Pairwise (fun a b=>a.1<b.1)){a:R1}(d:a∈A):(without A a.1).length+1=A.length:=by
 induction A with
 | nil=>cases d
 | cons c r ih =>
  rw[ww]at hs;unfold without at ih ⊢;rcases List.mem_cons.1 d with rfl|d
  ·rw[List.filter_cons_of_neg (by simp)];rw[List.filter_eq_self.2 (fun b e=>by have:=hs.1 b e;simp;omega)];rfl
  ·have:=hs.1 a d
   rw[List.filter_cons_of_pos (by simp;omega),xe,xe,ih hs.2 d]
theorem Inv.del(h:Inv n next i A){a:R1}(ha:a∈A){p:Nat}(hp:i.f a.1=some p)(hnp:i'.np=i.np-1)(hf:i'.f=qg i.f a.1)(hfr:i'.free=i.free++[p])(hg:∀x,(i'.G x=true∨x∈i'.late)↔((i.G x=true∨x∈i.late)∨x=a.1))(hlat:i'.late.length<=63)(hcl:∀k,k<n->i'.cl k=(i.cl k).set p z3):Inv n next i' (without A a.1):=by
 have S:=sY h.srt ha;obtain⟨U,I,J,V⟩:=h.pl a ha;rw[hp]at I;cases I;have c:(without A a.1).length+i'.free.length=A.length+i.free.length:=(by rw[hfr,y8,List.length_singleton];omega);have r:p ∉ i.free:=(fun O=>(h.fre p O).2.1 a.1 hp);have m:∀k,k<n->∀q,q≠p->(i'.cl k)[q]?=(i.cl k)[q]?:=(fun k g q j=>by rw[hcl k g,List.getElem?_set_ne (fun e=>j e.symm)]);have s:∀k,k<n->(i'.cl k)[p]?=some z3:=(fun k g=>by rw[hcl k g,List.getElem?_set_self (by rw[h.lens k g];exact J)]);refine⟨by rw[hnp,h.np];omega,fun k g=>by rw[c,hcl k g,u7];exact h.lens k g,h.srt.filter _,fun b d=>h.rng b (bX.1 d).1,?_,?_,?_,?_,?_,?_,?_,by rw[c];exact h.few,hlat,h.lim⟩
 ·intro b d;obtain⟨w,t⟩:=bX.1 d;obtain⟨q,L,P,z⟩:=h.pl b w;have B:q≠p:=(fun e=>t (h.inj _ _ _ L (by rw[hp,e])));refine⟨q,by rw[hf];unfold qg;rw[zq t];exact L,by rw[c];exact P,?_⟩;rw[z];exact fP (fun k g=>m k g q B)
 ·intro x l;rw[hf];unfold qg;by_cases e:x=a.1
  ·rw[zv e]
  rw[zq e];exact h.no x (fun b d u=>l b (bX.2 ⟨d,by rw[u];exact e⟩) u)
 ·intro x y q l o;rw[hf]at l o;unfold qg at l o;by_cases M:x=a.1
  ·rw[zv M]at l;cases l
  by_cases N:y=a.1
  ·rw[zv N]at o;cases o
  rw[zq M]at l;rw[zq N]at o;exact h.inj x y q l o
 ·intro q j;rw[hfr]at j;rw[c,hf];rcases List.mem_append.1 j with j|j
  ·obtain⟨z,Q,R⟩:=h.fre q j;refine⟨z,fun x=>?_,fun k g=>(m k g q (fun e=>r (e▸j))).trans (R k g)⟩;unfold qg;split
   ·intro e;cases e
   exact Q x
  rw[List.mem_singleton.1 j];refine⟨J,fun x=>?_,s⟩;unfold qg;split
  ·intro e;cases e
  rename_i l;exact fun e=>l (h.inj _ _ _ e hp)
 ·rw[hfr,List.nodup_append];exact⟨h.fnd,by simp,fun x l y o e=>r (by rw[List.mem_singleton.1 o]at e;rw[<-e];exact l)⟩
 ·intro q j;rw[c]at j;rw[hfr,hf];rcases h.cov q j with v|⟨b,d,v⟩
  ·exact .inl (List.mem_append.2 (.inl v))
  by_cases e:b.1=a.1
  ·rw[e,hp]at v;cases v;exact .inl (List.mem_append.2 (.inr (List.mem_singleton.2 rfl)))
  exact .inr ⟨b,bX.2 ⟨d,e⟩,by unfold qg;rw[zq e];exact v⟩
 intro x;rw[hg x,h.gone x];constructor
 ·rintro(⟨E,F,H⟩ | rfl)
  ·exact⟨E,F,fun b d=>H b (bX.1 d).1⟩
  have:=h.rng a ha
  exact⟨this.1,this.2,fun b d=>(bX.1 d).2⟩
 rintro⟨E,F,H⟩;by_cases e:x=a.1
 ·exact .inr e
 exact .inl ⟨E,F,fun b d u=>H b (bX.2 ⟨d,by rw[u];exact e⟩) u⟩
def im(A:List R1)(x:Int)(j:Nat)(v:T3):List R1:=A.map fun a=>if a.1=x then(a.1,a.2.set j v)else a
theorem mS(A:List R1)(x:Int)(j:Nat)(v:T3):(im A x j v).length=A.length:=by simp[im]
theorem tA(A:List R1)(x:Int)(j:Nat)(v:T3):(im A x j v).map (·.1)=A.map (·.1):=by
 unfold im;rw[List.map_map];apply List.map_congr_left;intro a _;simp only[Function.comp];split <;> rfl
theorem qW{A:List R1}{x:Int}:(∃a∈A,a.1=x)↔x∈A.map (·.1):=by simp
theorem mT{A B:List R1}(e:B.map (·.1)=A.map (·.1))(x:Int):(∀a∈B,a.1≠x)↔∀a∈A,a.1≠x:=by
 have j:=qW (A:=A) (x:=x);have d:=qW (A:=B) (x:=x);rw[e,<-j]at d;constructor
 ·intro h a f g;obtain⟨b,i,c⟩:=d.2 ⟨a,f,g⟩;exact h b i c
 intro h a f g;obtain⟨b,i,c⟩:=d.1 ⟨a,f,g⟩;exact h b i c
theorem Inv.set(h:Inv n next i A){a:R1}(ha:a∈A){p j:Nat}(hj:j<n){v:T3}(hp:i.f a.1=some p)(hnp:i'.np=i.np)(hf:i'.f=i.f)(hfr:i'.free=i.free)(hl:i'.late=i.late)(hG:i'.G=i.G)(hcl:∀k,k<n->i'.cl k=if k=j then(i.cl k).set p v else i.cl k):Inv n next i' (im A a.1 j v):=by
 have g:=tA A a.1 j v;have r:=mS A a.1 j v;obtain⟨O,H,P,Q⟩:=h.pl a ha;rw[hp]at H;cases H;have B:p ∉ i.free:=fun I=>(h.fre p I).2.1 a.1 hp
 have l:∀k,k<n->∀q,q≠p->(i'.cl k)[q]?=(i.cl k)[q]?:=fun k d q m=>by
  rw[hcl k d];split
  ·rw[List.getElem?_set_ne (fun e=>m e.symm)]
  rfl
 have t:∀k,k<n->(i'.cl k).length=A.length+i.free.length:=fun k d=>by
  rw[hcl k d];split
  ·rw[u7];exact h.lens k d
  exact h.lens k d
 refine⟨by rw[hnp,h.np,r],fun k d=>by rw[r,hfr];exact t k d,?_,?_,?_,?_,?_,?_,by rw[hfr];exact h.fnd,?_,?_,by rw[r,hfr];exact h.few,by rw[hl];exact h.lat,h.lim⟩
 ·have:=h.srt
  rw[<-List.pairwise_map (f:=fun a:R1=>a.1) (R:=(·<·))]at this ⊢;rw[g];exact this
 ·intro b u;have:b.1∈A.map (·.1):=(by rw[<-g];exact uq u);obtain⟨c,E,e⟩:=List.mem_map.1 this;rw[<-e];exact h.rng c E
 ·intro b u;rw[hf,r,hfr];obtain⟨c,E,rfl⟩:=List.mem_map.1 u;obtain⟨q,w,y,s⟩:=h.pl c E;by_cases e:c.1=a.1
  ·rw[zv e];have o:q=p:=(by rw[e,hp]at w;cases w;rfl);subst o;refine⟨q,w,y,?_⟩;refine mR (by rw[u7,s,cC]) (fun k d=>?_);rw[hcl k d];by_cases F:k=j
   ·subst F;rw[zv rfl,List.getElem?_set_self (by rw[h.lens k d];exact y),List.getElem?_set_self (by rw[s,cC];exact d)]
   rw[zq F,List.getElem?_set_ne (fun e=>F e.symm),s,cH _ d,z6 (by rw[h.lens k d];exact y)];rfl
  rw[zq e];have o:q≠p:=(fun J=>e (h.inj _ _ _ w (by rw[hp,J])));exact⟨q,w,y,by rw[s];exact fP (fun k d=>l k d q o)⟩
 ·intro x L;rw[hf];exact h.no x ((mT g x).1 L)
 ·rw[hf];exact h.inj
 ·intro q m;rw[hfr]at m;rw[hf,r,hfr];obtain⟨s,M,N⟩:=h.fre q m;exact⟨s,M,fun k d=>(l k d q (fun e=>B (e▸m))).trans (N k d)⟩
 ·intro q m;rw[r,hfr]at m;rw[hf,hfr];rcases h.cov q m with z|⟨b,u,z⟩
  ·exact .inl z
  refine .inr ⟨_,uq u,?_⟩;split
  ·exact z
  exact z
 intro x;rw[hl,hG,h.gone x];exact⟨fun⟨a,b,c⟩=>⟨a,b,(mT g x).2 c⟩,fun⟨a,b,c⟩=>⟨a,b,(mT g x).1 c⟩⟩
theorem Inv.texts(h:Inv n next i A){k:Nat}(hk:k<n)(s:K 12):(∃x∈i.cl k,x.1=2/\wd x.2.2=s)↔∃a∈A,∃x,a.2[k]?=some x/\x.1=2/\wd x.2.2=s:=by
 constructor
 ·rintro⟨x,d,b,f⟩;obtain⟨p,g,rfl⟩:=xz d;have c:=g;rw[h.lens k hk]at g;rcases h.cov p g with j|⟨a,e,j⟩
  ·have:=(h.fre p j).2.2 k hk
   rw[z6 c]at this;rw[Option.some.inj this]at b;cases b
  obtain⟨q,l,o,m⟩:=h.pl a e;rw[j]at l;cases l;refine⟨a,e,_,?_,b,f⟩;rw[m,cH _ hk,z6 c];rfl
 rintro⟨a,e,x,d,b,f⟩;obtain⟨q,l,o,m⟩:=h.pl a e;rw[m,cH _ hk,z6 (by rw[h.lens k hk];exact o)]at d;cases d;exact⟨_,z8 _,b,f⟩
end
def qw(P:Int->Bool):Par.VW:=⟨fun v w=>∃p n c,v=.agg #[.slice p n c]/\Vm w (.slice p n c) P,fun _ _ _⟨p,n,c,h1,h2⟩ hb=>⟨p,n,c,h1,h2.later hb⟩⟩
theorem ta.qw{P:Int->Bool}{W w':World}{e:Ending}(h:ta P W e w'):∃u,e=.returned u/\(qw P).1 u w'/\Below W.heap.size W w':=by
 obtain⟨p,n,c,a,b,d⟩:=h;exact⟨_,a,⟨p,n,c,rfl,b⟩,d⟩
section
variable {W W':World}{tb next:Nat}{t:T}{i:In}{lab:Nat->Nat}
abbrev jc(i:In):Int->Bool:=fun x=>i.G x || AC i.late x
theorem jW(h:fh W tb t next i lab)(hl:i.late.length<=100):Calls prog 74 #[.pointer (some ⟨tb,0,none⟩)] W (ta (jc i) W):=by
 have F:=aD W (.cells #[.slice none 0 0] 102);have H:=z7 W (.cells #[.slice none 0 0] 102);have Q:=h.later F;obtain⟨I,x⟩:=ag (W.alloc (.cells #[.slice none 0 0] 102));obtain⟨B,y⟩:=ag W.heap.size;rw[x]at Q H F;rw[y]at H;have HG:=aa F;obtain⟨M,N,cg,O⟩:=h.gone.slc;obtain⟨pl,cl,z,_,_⟩:=h.late.isslice;obtain⟨nl,f⟩:=ag i.late.length;rw[f]at z hl
 have R:Hid (∀w,Below I.heap.size I w->w.cell? ⟨tb,7,none⟩=some (.slice M N cg)/\w.cell? ⟨tb,8,none⟩=some (.slice pl nl cl)/\Vm w (.slice M N cg) i.G/\Rd w pl i.late):=aa (fun w hw=>by
  have X:=Q.later hw;obtain⟨_,_,_,_,_,_,_,c7,S,_⟩:=X.cells;have hg:=X.gone;have Y:=X.late;rw[O]at c7 hg;rw[z]at S Y;exact⟨c7,S,hg,by rw[<-f]at Y;exact Ro.rd Y⟩)
 have HN:=aa (ab f hl);have U:=aa (ab x (ab y H));have zn:tb<I.heap.size:=Q.tlt;clear h Q H F x y O z f hl;go_enter func74,ntmps74;go_upto_region 1 with fail;rw[U.1,U.2.1];refine Par.ip 10 (fun w=>Below I.heap.size I w) (Par.VL [(.eq (.pointer (some ⟨tb,0,none⟩))),(.eq (.pointer (some ⟨tb,0,none⟩))),(.eq (.pointer (some ⟨tb,7,none⟩))),(.eq (.agg #[.slice M N cg])),(.eq (.pointer (some ⟨tb,0,none⟩))),(.eq (.pointer (some ⟨tb,0,none⟩))),(.eq (.pointer (some ⟨tb,8,none⟩))),(.eq (.slice pl nl cl)),(qw (AC i.late)),(qw (jc i))]) ?A1 ?hm1 ?hB1 (fun w A h F=>aB h F) (Par.VL.mono _) ?hA1 (aF I) ?hop1 ?hT1
 case hm1=>kernel_rfl
 case hB1=>kernel_rfl
 case hA1 =>
  intro vs;simp only[Par.am,Par.ai,Act.put,cy,db,bt,cp,dc,da,bu];rfl
 case hop1 =>
  simp only[ce,ze,Par.iq,yu];and_intros<;>intro vs w d a
  ·clear a;simp only[Par.ao];go_simp;all_goals exact⟨rfl,zb _ _⟩
  ·have g:=a 0 (by decide) (by kernel_rfl);replace g:vs 0=.pointer (some ⟨tb,0,none⟩):=g;clear a;simp only[Par.ao,g];go_simp;all_goals exact⟨rfl,zb _ _⟩
  ·have j:=a 1 (by decide) (by kernel_rfl);replace j:vs 1=.pointer (some ⟨tb,0,none⟩):=j;have zt:=z9 zn d.size;clear a;simp only[Par.ao,j];go_simp;all_goals exact⟨rfl,zb _ _⟩
  ·have m:=a 2 (by decide) (by kernel_rfl);replace m:vs 2=.pointer (some ⟨tb,7,none⟩):=m;have k:=(R.out w d).1;clear a;simp only[Par.ao,m];go_simp;all_goals exact⟨rfl,zb _ _⟩
  ·clear a;simp only[Par.ao];go_simp;all_goals exact⟨rfl,zb _ _⟩
  ·have n:=a 4 (by decide) (by kernel_rfl);replace n:vs 4=.pointer (some ⟨tb,0,none⟩):=n;clear a;simp only[Par.ao,n];go_simp;all_goals exact⟨rfl,zb _ _⟩
  ·have o:=a 5 (by decide) (by kernel_rfl);replace o:vs 5=.pointer (some ⟨tb,0,none⟩):=o;have zt:=z9 zn d.size;clear a;simp only[Par.ao,o];go_simp;all_goals exact⟨rfl,zb _ _⟩
  ·have q:=a 6 (by decide) (by kernel_rfl);replace q:vs 6=.pointer (some ⟨tb,8,none⟩):=q;have k:=(R.out w d).2.1;clear a;simp only[Par.ao,q];go_simp;all_goals exact⟨rfl,zb _ _⟩
  ·have r:=a 7 (by decide) (by kernel_rfl);replace r:vs 7=(.slice pl nl cl):=r
   skip
   clear a;simp only[Par.ao,r];go_simp;exact(vof HN.1 (by have:=HN.2;omega) (R.out w d).2.2.2).mono (fun e Z h=>h.qw)
  have s:=a 3 (by decide) (by kernel_rfl);replace s:vs 3=.agg #[.slice M N cg]:=s;have E:=a 8 (by decide) (by kernel_rfl);obtain⟨p8,n8,S,E,a0⟩:=E;replace E:vs 8=.agg #[.slice p8 n8 S]:=E;clear a;simp only[Par.ao,s,E];go_simp;exact(vor (R.out w d).2.2.1 a0).mono (fun e Z h=>h.qw)
 intro vs A d b;simp only[cw,ym];have g:=b 0 (by decide);replace g:vs 0=.pointer (some ⟨tb,0,none⟩):=g;have j:=b 1 (by decide);replace j:vs 1=.pointer (some ⟨tb,0,none⟩):=j;have m:=b 2 (by decide);replace m:vs 2=.pointer (some ⟨tb,7,none⟩):=m;have s:=b 3 (by decide);replace s:vs 3=.agg #[.slice M N cg]:=s;have n:=b 4 (by decide);replace n:vs 4=.pointer (some ⟨tb,0,none⟩):=n;have o:=b 5 (by decide);replace o:vs 5=.pointer (some ⟨tb,0,none⟩):=o;have q:=b 6 (by decide);replace q:vs 6=.pointer (some ⟨tb,8,none⟩):=q;have r:=b 7 (by decide);replace r:vs 7=(.slice pl nl cl):=r;have E:=b 8 (by decide);have d9:=b 9 (by decide);clear b;simp only[g,j,m,s,n,o,q,r];clear g j m s n o q r;clear E;obtain⟨J,L,c9,e9,P⟩:=d9;generalize vs 9=v9 at e9 ⊢;subst e9;generalize vs 8=v8;have c:=aE d U.2.2;have z0:=aA c 0;have zf:=(fun i=>zo A B i _ _ c);have zl:=aC c;have V:=aa (ab d (ab P c));clear d P c;go_wp2_with fail;have hS:=y9 A B 0 _ _ (.slice J L c9) V.2.2;have u:Below W.heap.size W (A.setCell ⟨B,0,none⟩ (.slice J L c9)):=(aB HG.out V.1).setCell (p:=⟨B,0,none⟩) (xy U.2.1) _
 have hv:Vm (A.setCell ⟨B,0,none⟩ (.slice J L c9)) (.slice J L c9) (jc i):=by
  obtain⟨l,m1,m2,m3⟩:=V.2.1;refine⟨l,ac.of m1 (fun k H=>yd A ⟨B,0,none⟩ k _ (fun e=>?_)),m2,m3⟩;obtain⟨_,a1,hc⟩:=ac.block m1 k H;subst e;rw[V.2.2]at hc;cases hc
 generalize A.setCell _ _=wz at hS u hv ⊢;have y0:=aA hS 0;refine ya (v:=.agg #[.slice J L c9]) (by simp[results,results74,go_sem,y0]) rfl ?_;exact⟨J,L,c9,rfl,hv,u⟩
theorem G2(h:fh W tb t next i lab):Calls prog 30 #[.pointer (some ⟨tb,0,none⟩)] W fun e a=>e=.returned (.int .i64 (next:Int))/\a=W:=by
 obtain⟨_,_,_,_,_,_,_,_,_,c9⟩:=h.cells;have b:=h.tlt;clear h;go_enter func30,ntmps30
 go_wp2
 go_ret;exact⟨rfl,rfl⟩
theorem ED(h:fh W tb t next i lab)(hl:i.late.length<=100):Calls prog 52 #[.pointer (some ⟨tb,0,none⟩)] W (ta (notP (jc i) (next:Int)) W):=by
 have x:=aD W (.cells #[.slice none 0 0] 102);have y:=z7 W (.cells #[.slice none 0 0] 102);have G:=h.later x;obtain⟨z,o⟩:=ag (W.alloc (.cells #[.slice none 0 0] 102));obtain⟨B,q⟩:=ag W.heap.size;rw[o]at G y x;rw[q]at y;have U:=aa x
 have M:Hid (∀w,Below z.heap.size z w->w.cell? ⟨tb,9,none⟩=some (.int .i64 (next:Int))/\fh w tb t next i lab):=aa (fun w V=>by
  have N:=G.later V;exact⟨N.cells.2.2.2.2.2.2.2.2.2,N⟩)
 have X:=aa hl;have H:=aa (ab o (ab q y));have Y:tb<z.heap.size:=G.tlt;clear h G y x o q hl;go_enter func52,ntmps52;go_upto_region 3 with fail;rw[H.1,H.2.1];refine Par.ip 7 (fun w=>Below z.heap.size z w) (Par.VL [(.eq (.pointer (some ⟨tb,0,none⟩))),(qw (jc i)),(.eq (.pointer (some ⟨tb,0,none⟩))),(.eq (.pointer (some ⟨tb,0,none⟩))),(.eq (.pointer (some ⟨tb,9,none⟩))),(.eq (.int .i64 (next:Int))),(qw (notP (jc i) (next:Int)))]) ?A2 ?hm2 ?hB2 (fun w r h x=>aB h x) (Par.VL.mono _) ?hA2 (aF z) ?hop2 ?hT2
 case hm2=>kernel_rfl
 case hB2=>kernel_rfl
 case hA2 =>
  intro vs;simp only[Par.am,Par.ai,Act.put,cy,db,bt,cp,dc,da,bu];rfl
 case hop2 =>
  simp only[ce,ze,Par.iq,yu];and_intros<;>intro vs w s a
  ·clear a;simp only[Par.ao];go_simp;all_goals exact⟨rfl,zb _ _⟩
  ·have c:=a 0 (by decide) (by kernel_rfl);replace c:vs 0=.pointer (some ⟨tb,0,none⟩):=c
   skip
   clear a;simp only[Par.ao,c];go_simp;exact(jW (M.out w s).2 X.out).mono (fun e J h=>h.qw)
  ·clear a;simp only[Par.ao];go_simp;all_goals exact⟨rfl,zb _ _⟩
  ·have d:=a 2 (by decide) (by kernel_rfl);replace d:vs 2=.pointer (some ⟨tb,0,none⟩):=d;clear a;simp only[Par.ao,d];go_simp;all_goals exact⟨rfl,zb _ _⟩
  ·have f:=a 3 (by decide) (by kernel_rfl);replace f:vs 3=.pointer (some ⟨tb,0,none⟩):=f;have zt:=z9 Y s.size;clear a;simp only[Par.ao,f];go_simp;all_goals exact⟨rfl,zb _ _⟩
  ·have g:=a 4 (by decide) (by kernel_rfl);replace g:vs 4=.pointer (some ⟨tb,9,none⟩):=g;have k:=(M.out w s).1;clear a;simp only[Par.ao,g];go_simp;all_goals exact⟨rfl,zb _ _⟩
  have u:=a 1 (by decide) (by kernel_rfl);have j:=a 5 (by decide) (by kernel_rfl);replace j:vs 5=.int .i64 (next:Int):=j;obtain⟨Z,n1,c1,u,L⟩:=u;replace u:vs 1=.agg #[.slice Z n1 c1]:=u;clear a;simp only[Par.ao,j,u];go_simp;exact(Ir L (next:Int)).mono (fun e J h=>h.qw)
 intro vs r s m;simp only[cw,ym];have c:=m 0 (by decide);replace c:vs 0=.pointer (some ⟨tb,0,none⟩):=c;have u:=m 1 (by decide);have d:=m 2 (by decide);replace d:vs 2=.pointer (some ⟨tb,0,none⟩):=d;have f:=m 3 (by decide);replace f:vs 3=.pointer (some ⟨tb,0,none⟩):=f;have g:=m 4 (by decide);replace g:vs 4=.pointer (some ⟨tb,9,none⟩):=g;have j:=m 5 (by decide);replace j:vs 5=.int .i64 (next:Int):=j;have d6:=m 6 (by decide);clear m;simp only[c,d,f,g,j];clear c d f g j;clear u;obtain⟨A,E,c9,O,F⟩:=d6;generalize vs 6=v9 at O ⊢;subst O;generalize vs 1=v8;have b:=aE s H.2.2;have z0:=aA b 0;have zf:=(fun i=>zo r B i _ _ b);have zl:=aC b;have I:=aa (ab s (ab F b));clear s F b;go_wp2_with fail;have P:=y9 r B 0 _ _ (.slice A E c9) I.2.2;have n:Below W.heap.size W (r.setCell ⟨B,0,none⟩ (.slice A E c9)):=(aB U.out I.1).setCell (p:=⟨B,0,none⟩) (xy H.2.1) _
 have Q:Vm (r.setCell ⟨B,0,none⟩ (.slice A E c9)) (.slice A E c9) (notP (jc i) (next:Int)):=by
  obtain⟨l,R,m2,m3⟩:=I.2.1;refine⟨l,ac.of R (fun k y=>yd r ⟨B,0,none⟩ k _ (fun e=>?_)),m2,m3⟩;obtain⟨_,a0,S⟩:=ac.block R k y;subst e;rw[I.2.2]at S;cases S
 generalize r.setCell _ _=wz at P n Q ⊢;have y0:=aA P 0;refine ya (v:=.agg #[.slice A E c9]) (by simp[results,results52,go_sem,y0]) rfl ?_;exact⟨A,E,c9,rfl,Q,n⟩
theorem JM{cb:Nat->Nat}{n k:Nat}(h:k<n):(ptrs cb n)[k]?=some (.pointer (some ⟨cb k,0,none⟩)):=by simp[ptrs,h]
theorem fh.ptr(h:fh W tb t next i lab){k:Nat}(hk:k<t.cols.length):∃g c,i.cv=.slice (some ⟨g,0,none⟩) t.cols.length c/\t.cols.length<=c/\c<=maxLen/\g<W.heap.size/\W.cell? ⟨g,k,none⟩=some (.pointer (some ⟨i.cb k,0,none⟩)):=by
 obtain⟨g,c,b,d,e⟩:=h.cols.slice (by omega);have a:=h.cols;rw[b]at a;exact⟨g,c,b,d,e,(a.lt g rfl).2,a.cell (JM hk)⟩
theorem xD(h:fh W tb t next i lab){x:ByteArray}{k:Nat}(hk:k<t.cols.length)(hx:gx t.cols x=(k:Int))(m:List (K 12))(hm:m.Nodup)(hs:∀s,s∈m↔∃y∈i.cl k,y.1=2/\wd y.2.2=s):Calls prog 82 #[.pointer (some ⟨tb,0,none⟩),.string x] W fun e j=>e=.returned (.int .i64 (m.length:Int))/\Below W.heap.size W j:=by
 have d:=fO h x;rw[hx]at d;obtain⟨g,c,a,q,r,_⟩:=h.ptr hk;obtain⟨n,l⟩:=ag t.cols.length
 have o:Hid (∀w,Below W.heap.size W w->w.cell? ⟨tb,4,none⟩=some (.slice (some ⟨g,0,none⟩) n c)/\w.cell? ⟨g,k,none⟩=some (.pointer (some ⟨i.cb k,0,none⟩))/\tb<w.heap.size/\g<w.heap.size/\Calls prog 118 #[.pointer (some ⟨i.cb k,0,none⟩)] w fun e j=>e=.returned (.int .i64 (m.length:Int))/\j=w):=aa (fun w u=>by
  have f:=h.later u;obtain⟨I,J,e,_,_,v,z⟩:=f.ptr hk;rw[a]at e;cases e;exact⟨by rw[<-l,<-a];exact f.cells.2.2.2.2.1,z,f.tlt,v,Gz (f.col k hk) m hm hs⟩)
 rw[l]at q hk;have L:decide ((k:Int)≥0)=true:=(by simp);have A:(k:Int)<(n:Int):=(by omega);have p:decide (0<=(k:Int))=true:=(by simp);rw[p]at d;unfold maxLen at r;clear h hx a l hs hm p;generalize i.cb k=cb at o;generalize m.length=ml at o ⊢;go_enter func82,ntmps82
 go_wp2_with (first|(go_at_call 76;refine d.mono ?_;rintro e B⟨rfl,b⟩;obtain⟨M,N,O,P,E⟩:=o.out B b;have F:=aa b;clear b d)|(go_at_call 118;refine E.mono ?_;rintro e G⟨rfl,H⟩;subst G))
 go_ret;exact⟨rfl,F.out⟩
end
theorem GF(n q:Nat)(h:q<n):(cells3 (List.replicate n z3))[q*3]?=some (.int .i64 0)/\(cells3 (List.replicate n z3))[q*3+1]?=some (.int .i64 0)/\(cells3 (List.replicate n z3))[q*3+2]?=some (.string ⟨#[]⟩):=by
 have:=dG (List.replicate n z3) q (by simpa using h)
 simpa using this
theorem EU(n:Nat):(madeCells #[.int .i64 0,.int .i64 0,.string ⟨#[]⟩] (n*3)).toList=cells3 (List.replicate n z3):=by
 apply ug;intro i;by_cases c:i<n*3
 ·have d:i / 3<n:=(by omega);obtain⟨e,f,g⟩:=GF n (i / 3) d;have a:i=i / 3*3∨i=i / 3*3+1∨i=i / 3*3+2:=(by omega);rcases a with a|a|a
  ·rw[show(cells3 (List.replicate n z3))[i]?=some (.int .i64 0)by rw[a];exact e];have b:i % 3=0:=(by omega);simp[madeCells,c,b]
  ·rw[show(cells3 (List.replicate n z3))[i]?=some (.int .i64 0)by rw[a];exact f];have b:i % 3=1:=(by omega);simp[madeCells,c,b]
  rw[show(cells3 (List.replicate n z3))[i]?=some (.string ⟨#[]⟩)by rw[a];exact g];have b:i % 3=2:=(by omega);simp[madeCells,c,b]
 rw[u6 (by simp[madeCells];omega),u6 (by rw[dR];simp;omega)]
theorem Jk(n:Nat)(hn:n<=65536)(w:World):∃a,(Instr.makeSlice 27 (.int .i64 (n:Int)) (.int .i64 (n:Int))).run prog w=.ok (.slice (some ⟨w.heap.size,0,none⟩) n n) a/\ac a w.heap.size 32 3 (.slice (some ⟨w.heap.size,0,none⟩) n n) n (cells3 (List.replicate n z3))/\w.grownBy a none:=by
 obtain⟨f,b,c,d,e⟩:=info_parts wL;obtain⟨a,g,h,i⟩:=run_make_full (P:=prog) w w.heap.size 27 32 f _ 3 underlying27 b c d .i64 .i64 n (by rw[e];omega) (by unfold maxLen;omega) (zm _);refine⟨a,g,?_,i⟩;rw[<-EU];exact ac.me h
section
variable {W W':World}{tb next:Nat}{t:T}{i:In}{lab:Nat->Nat}
theorem Jn(h:fh W tb t next i lab){x:Int}(hx:kj x){p:Nat}(hf:i.f x=some p)(hp:∀k,k<t.cols.length->p<(i.cl k).length)(hc:t.cols.length<=1000)(h0:0<t.cols.length):Calls prog 84 #[.pointer (some ⟨tb,0,none⟩),.int .i64 x] W fun e Z=>∃g c,e=.returned (.tuple #[.slice (some ⟨g,0,none⟩) t.cols.length c,.bool true])/\W.heap.size<=g/\ac Z W.heap.size 32 3 (.slice (some ⟨g,0,none⟩) t.cols.length c) t.cols.length (cells3 (rowOf i.cl t.cols.length p))/\Below W.heap.size W Z:=by
 have ha:=fB h hx;rw[hf]at ha;simp only[Option.getD_some,Option.isSome_some]at ha;obtain⟨F,M,z,o⟩:=Jk t.cols.length (by omega) W;have q:Below W.heap.size W F:=⟨o.os,o.tape,o.output,o.size,fun k N=>o.block k N (by simp)⟩;obtain⟨gc,cc,G,a0,a1,a4,_⟩:=h.ptr h0;obtain⟨n,L⟩:=ag t.cols.length;have c4:=h.cells.2.2.2.2.1;have zl:=h.tlt;have z1:tb<F.heap.size:=z9 zl q.size;have O:=(h.later q).cells.2.2.2.2.1;rw[G]at c4 O;obtain⟨cl,H⟩:=ag i.cl;rw[H]at hp ⊢;obtain⟨m,A⟩:=ag W.heap.size
 have HX:Hid (∀w k,k<n->Below F.heap.size F w∨Below m F w->w.cell? ⟨gc,k,none⟩=some (.pointer (some ⟨i.cb k,0,none⟩))/\gc<w.heap.size/\∃(s:p<(cl k).length),Calls prog 107 #[.pointer (some ⟨i.cb k,0,none⟩),.int .i64 (p:Int)] w fun e Z=>e=.returned (.tuple #[.agg #[.int .i64 ((cl k)[p].1),.int .i64 ((cl k)[p].2.1),.string ((cl k)[p].2.2)],.bool true])/\Below w.heap.size w Z):=aa (fun w k N P=>by
  have Q:Below W.heap.size W w:=by
   rcases P with P|P
   ·exact aB q P
   exact q.trans (P.mono (xy A))
  have h2:=h.later Q;obtain⟨g',c',e,_,_,k1,k2⟩:=h2.ptr (L▸N);rw[G]at e;cases e;have s:=hp k (L▸N);refine⟨k2,k1,s,?_⟩;have E:=h2.col k (L▸N);rw[H]at E;exact DQ E p s)
 have HL:=aa (ab hp q);rw[L]at M z hp a0 c4 O hc ⊢;rw[A]at M z;have HM:=aa (ab A L);have R:(rowOf cl n p).length=n:=cC _ _ _;have S:=aa (ab z R);unfold maxLen at a1;clear h hf hx z o G H A L hp R q;go_enter func84,ntmps84;go_wp2_with (go_at_call 72;refine ha.mono ?_;rintro e w2⟨rfl,Q⟩;subst w2);go_loopg [30] (n+1) (fun gh jv w=>∃(j:Nat) (X:List T3),jv=.int .i64 (j:Int)/\j<=n/\n+1<=j+gh/\X.length=n/\X.take j=(rowOf cl n p).take j/\ac w m 32 3 (.slice (some ⟨m,0,none⟩) n n) n (cells3 X)/\Below m F w)
 case atStart=>exact⟨0,List.replicate n z3,rfl,zh _,by omega,by simp,rfl,S.1,zb _ _⟩
 obtain⟨j,X,rfl,hj,hg,hX,B,U,V⟩:=hrel;by_cases b:j<n
 ·obtain⟨d0,d1,s,d⟩:=HX.out wr j b (.inr V);have Y:j<X.length:=by omega
  have u:(X.set j (cl j)[p]).take (j+1)=(rowOf cl n p).take (j+1):=by
   have e1:(rowOf cl n p)[j]'(by rw[cC];exact b)=(cl j)[p]:=by
    have:=cH cl (p:=p) b
    rw[z6 (by rw[cC];exact b),z6 s]at this;simpa using this
   rw[yp (by simpa using Y),yp (by rw[cC];exact b),List.take_set,List.set_eq_of_length_le (by simp;omega),B,List.getElem_set_self,e1]
  obtain⟨y,hy⟩:=ag ((cl j)[p]);rw[hy]at d u;obtain⟨yk,yn,ys⟩:=y;simp only at d;have r:=aa (ab U (ab V (ab hX u)));have a5:(j:Int)<(n:Int):=(by omega);have a3:=(U.lt m rfl).2;clear U V hX B u hy Y;go_wp2_with (go_at_call 107;refine d.mono ?_;rintro e w3⟨rfl,I⟩;have a:=r.1.later I;obtain⟨q0,q1,q2⟩:=dG X j (by rw[r.2.2.1];exact b);have v0:=a.cell q0;have v1:=a.cell q1;have v2:=a.cell q2;have f0:=a.frozenAt (j*3);have f1:=a.frozenAt (j*3+1);have f2:=a.frozenAt (j*3+2);have a6:=(a.lt m rfl).2;have H3:=aa (ab a I);clear a I q0 q1 q2);have J:=qO H3.1 r.2.2.1 j b yk yn ys
  have v:Below m F (((w3.setCell ⟨m,j*3,none⟩ (.int .i64 yk)).setCell ⟨m,j*3+1,none⟩ (.int .i64 yn)).setCell ⟨m,j*3+2,none⟩ (.string ys)):=
   (((r.2.1.trans (H3.2.mono (by omega))).setCell (p:=⟨m,j*3,none⟩) (zm _) _).setCell (p:=⟨m,j*3+1,none⟩) (zm _) _).setCell (p:=⟨m,j*3+2,none⟩) (zm _) _
  generalize ((w3.setCell _ _).setCell _ _).setCell _ _=w4 at J v ⊢;have H4:=aa (ab J.1 v);clear J v;go_wp2_with fail;go_roundg (n-j)
  case measure=>omega
  exact⟨j+1,X.set j (yk,yn,ys),by go_num,by omega,by omega,by rw[u7];exact r.2.2.1,r.2.2.2,H4.1,H4.2⟩
 obtain rfl:j=n:=(by omega);have a2:X=rowOf cl j p:=(by rw[<-yy (l:=X) (xy hX),B,yy (xy S.2)]);subst a2;have HF:=aa (ab U V);clear U V hX B;go_wp2_with fail;go_ret2;rw[HM.1];exact⟨m,j,rfl,zm _,HF.1,(HM.1▸HL.2).trans HF.2⟩
theorem Es(h:fh W tb t next i lab){x:Int}(hx:kj x){y:ByteArray}(hf:i.f x=none∨gx t.cols y=-1):Calls prog 132 #[.pointer (some ⟨tb,0,none⟩),.int .i64 x,.string y] W fun e A=>e=.returned (.tuple #[.agg #[.int .i64 0,.int .i64 0,.string (⟨#[]⟩)],.bool false])/\Below W.heap.size W A:=by
 have m:=aD W (.cells #[.int .i64 0,.int .i64 0,.string ⟨#[]⟩] 32);have r:=z7 W (.cells #[.int .i64 0,.int .i64 0,.string ⟨#[]⟩] 32);have n:=h.later m;have g:=fB n hx;have j:=fO n y;have k:=aa (ab m r);clear m r h n;cases b:i.f x with
 | none =>
  rw[b]at g;clear j b hf;go_enter func132,ntmps132;go_wp2_with (go_at_call 72;refine g.mono ?_;rintro e o⟨rfl,q⟩;subst o);refine ya (v:=.tuple #[.agg #[.int .i64 0,.int .i64 0,.string (⟨#[]⟩)],.bool false]) (by simp[results,results132,go_sem]) rfl ?_;exact⟨rfl,by first|exact k.1|exact((k.1.setCell (zm _) _).setCell (zm _) _).setCell (zm _) _⟩
 | some p =>
  have s:gx t.cols y=-1:=hf.resolve_left (by rw[b];simp);rw[b]at g;rw[s]at j;simp only[Option.getD_some,Option.isSome_some]at g;have u:decide (0<=(-1:Int))=false:=(by decide);rw[u]at j;clear b hf s u;generalize ((p:Nat):Int)=pp at g;go_enter func132,ntmps132
  go_wp2_with (first|(go_at_call 72;refine g.mono ?_;rintro e o⟨rfl,q⟩;subst o)|(go_at_call 76;refine j.mono ?_;rintro e w⟨rfl,d⟩;have a:=aE d k.2;have G:=aA a 0;have H:=aA a 1;have I:=aA a 2;have J:=fun i=>zo w W.heap.size i _ _ a;have L:=aC a;have z:=aa (ab (aB k.1 d) a);clear a d))
  have l:=jT z.2 (.int .i64 0) (.int .i64 0) (.string ⟨#[]⟩);have c:=((z.1.setCell (p:=⟨W.heap.size,0,none⟩) (zm _) (.int .i64 0)).setCell (p:=⟨W.heap.size,1,none⟩) (zm _) (.int .i64 0)).setCell (p:=⟨W.heap.size,2,none⟩) (zm _) (.string ⟨#[]⟩);generalize ((w.setCell _ _).setCell _ _).setCell _ _=wz at l c ⊢;have B:=aA l 0;have E:=aA l 1;have F:=aA l 2;refine ya (v:=.tuple #[.agg #[.int .i64 0,.int .i64 0,.string (⟨#[]⟩)],.bool false]) (by simp[results,results132,go_sem,B,E,F]) rfl ?_;exact⟨rfl,c⟩
theorem KV(h:fh W tb t next i lab){x:Int}(hx:kj x){y:ByteArray}{p k:Nat}(hf:i.f x=some p)(hk:k<t.cols.length)(hy:gx t.cols y=(k:Int))(hp:p<(i.cl k).length){u:T3}(hu:(i.cl k)[p]?=some u):Calls prog 132 #[.pointer (some ⟨tb,0,none⟩),.int .i64 x,.string y] W fun e z=>e=.returned (.tuple #[.agg #[.int .i64 u.1,.int .i64 u.2.1,.string u.2.2],.bool true])/\Below W.heap.size W z:=by
 have A:=aD W (.cells #[.int .i64 0,.int .i64 0,.string ⟨#[]⟩] 32);have o:=z7 W (.cells #[.int .i64 0,.int .i64 0,.string ⟨#[]⟩] 32);have B:=h.later A;have E:=fB B hx;have q:=fO B y;rw[hf]at E;rw[hy]at q;simp only[Option.getD_some,Option.isSome_some]at E;have L:decide (0<=(k:Int))=true:=(by simp);rw[L]at q;obtain⟨g,c,j,P,Q,_⟩:=h.ptr hk;obtain⟨n,F⟩:=ag t.cols.length
 have G:Hid (∀w,Below W.heap.size W w->w.cell? ⟨tb,4,none⟩=some (.slice (some ⟨g,0,none⟩) n c)/\w.cell? ⟨g,k,none⟩=some (.pointer (some ⟨i.cb k,0,none⟩))/\tb<w.heap.size/\g<w.heap.size/\Calls prog 107 #[.pointer (some ⟨i.cb k,0,none⟩),.int .i64 (p:Int)] w fun e z=>e=.returned (.tuple #[.agg #[.int .i64 u.1,.int .i64 u.2.1,.string u.2.2],.bool true])/\Below w.heap.size w z):=aa (fun w R=>by
  have r:=h.later R;obtain⟨g',c',e,_,_,S,U⟩:=r.ptr hk;rw[j]at e;cases e;have b:=DQ (r.col k hk) p hp;rw[z6 hp]at hu;rw[Option.some.inj hu]at b;exact⟨by rw[<-F,<-j];exact r.cells.2.2.2.2.1,U,r.tlt,S,b⟩)
 rw[F]at P hk;have V:(k:Int)<(n:Int):=(by omega);have H:=aa (ab A o);unfold maxLen at Q;obtain⟨I,un,J⟩:=u;clear h B A o hf hy L j F hu hp;generalize i.cb k=cb at G;simp only at G ⊢;go_enter func132,ntmps132
 go_wp2_with (first|(go_at_call 72;refine E.mono ?_;rintro e X⟨rfl,Y⟩;subst X)|(go_at_call 76;refine q.mono ?_;rintro e Z⟨rfl,l⟩;obtain⟨x4,xk,xt,xg,xw⟩:=G.out Z (aB H.1 l);have M:=aa l;clear l q)|(go_at_call 107;refine xw.mono ?_;rintro e N⟨rfl,m⟩;have a:=aE m (aE M.out H.2);have z0:=aA a 0;have z1:=aA a 1;have z2:=aA a 2;have zf:=fun i=>zo N W.heap.size i _ _ a;have zl:=aC a;have O:=aa (ab (aB (aB H.1 M.out) m) a);clear a m))
 have s:=jT O.2 (.int .i64 I) (.int .i64 un) (.string J);have d:=((O.1.setCell (p:=⟨W.heap.size,0,none⟩) (zm _) (.int .i64 I)).setCell (p:=⟨W.heap.size,1,none⟩) (zm _) (.int .i64 un)).setCell (p:=⟨W.heap.size,2,none⟩) (zm _) (.string J);generalize ((N.setCell _ _).setCell _ _).setCell _ _=wz at s d ⊢;have y0:=aA s 0;have y1:=aA s 1;have y2:=aA s 2;refine ya (v:=.tuple #[.agg #[.int .i64 I,.int .i64 un,.string J],.bool true]) (by simp[results,results132,go_sem,y0,y1,y2]) rfl ?_;exact⟨rfl,d⟩
end
