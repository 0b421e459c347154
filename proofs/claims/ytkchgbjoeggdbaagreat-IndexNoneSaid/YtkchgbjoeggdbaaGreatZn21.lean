import Derived.Test.YtkchgbjoeggdbaaGreatZn12
import Derived.Test.YtkchgbjoeggdbaaGreatZn18
import Derived.Test.YtkchgbjoeggdbaaGreatZn19
import Derived.Test.YtkchgbjoeggdbaaGreatZn20
set_option maxHeartbeats 2000000
set_option maxRecDepth 100000
namespace Go.Proofs.YtkchgbjoeggdbaaGreat
open Go.Proofs.Tryz
open Go Go.RowKit Go.Proofs Co Co.S
structure Tn (S:Nat->Prop) (W W':World):Prop where
 chg:Chg S W W'
 kp:∀(b:Nat) (cur:Array Value) (e:TypeId) (m:Nat×Nat),W.heap[b]?=some (Obj.cells cur e m)->Bx e=false->W'.heap[b]?=some (Obj.cells cur e m)
section
variable{S S1 T1:Nat->Prop}{W W' W'':World}
theorem Tn.of_below(h:Below W.heap.size W W'):Tn S W W':=⟨Chg.of_below h,fun b _ _ _ a _=>(h.block b (aB a)).trans a⟩
theorem Tn.refl(S:Nat->Prop)(W:World):Tn S W W:=Tn.of_below (zg _ _)
theorem Tn.trans(h:Tn S W W')(k:Tn S1 W' W'')(h1:∀b,b<W.heap.size->S b->T1 b)(h2:∀b,b<W.heap.size->S1 b->T1 b):Tn T1 W W'':=
 ⟨h.chg.trans k.chg h1 h2,fun b a e m d c=>k.kp b a e m (h.kp b a e m d c) c⟩
theorem Tn.mono(h:Tn S W W')(hs:∀b,b<W.heap.size->S b->T1 b):Tn T1 W W':=⟨h.chg.mono hs,h.kp⟩
theorem Tn.bt(h:Chg S W W')(hs:∀b,b<W.heap.size->S b->Ty W b∨∃d f,W.heap[b]?=some (.map d f)):Tn S W W':=by
 classical
 refine⟨h,fun b j e m a k=>?_⟩;by_cases g:S b
 ·rcases hs b (aB a) g with ⟨cs,ty,c,i⟩ | ⟨d,f,c⟩
  ·rw[a]at c;cases c;rw[k]at i;cases i
  rw[a]at c;cases c
 exact(h.block b (aB a) g).trans a
theorem Tn.qu(h:Tn S W W'):Kp W W':=fun b c e m f _ d=>h.kp b c e m f (by
 unfold mt at d;simp at d
 have g:e=107∨e=9∨e=155:=by
  by_cases a:e=107
  ·exact .inl a
  by_cases b:e=9
  ·exact .inr (.inl b)
  ·exact .inr (.inr (d a b))
 rcases g with rfl|rfl|rfl <;> rfl)
theorem Tn.size(h:Tn S W W'):W.heap.size<=W'.heap.size:=h.chg.size
theorem ac.tn{base:Nat}{e:TypeId}{size:Nat}{v:Value}{n:Nat}{xs:List Value}(h:ac W base e size v n xs)(hk:Tn S W W')(he:Bx e=false):ac W' base e size v n xs:=
 h.of fun k a=>by
  obtain⟨_,c,b⟩:=h.block k a;rw[hk.kp k _ _ _ b he,b]
theorem fw.tn{base:Nat}{cv dv:Value}{t:T}{ps:List Value}(h:fw W base cv dv t ps)(hk:Tn S W W'):fw W' base cv dv t ps:=
 ⟨h.c.tn hk rfl,h.n,h.d.tn hk rfl,fun j a b=>(h.l j a b).tn hk rfl⟩
theorem Vm.tn{v:Value}{P:Int->Bool}(h:Vm W v P)(hk:Tn S W W'):Vm W' v P:=by
 obtain⟨l,a,b,c⟩:=h;exact⟨l,ac.tn a hk rfl,b,c⟩
theorem Co.S.Col.tn{cb:Nat}{kind:Int}{l:List T3}{v:Value}(h:Col cb kind l v W)(a:Tn S W W')(h1:¬ S cb)(h2:∀b,v.ownBlock=some b->¬ S b):Col cb kind l v W':=by
 obtain⟨⟨L,i,c,n⟩,f,o⟩:=h;have e:W'.heap[cb]?=W.heap[cb]?:=a.chg.block cb c.lt h1;obtain⟨cv,m,q⟩:=c.dm.mp;obtain⟨t,p,r1,r,s⟩:=m.rt
 refine⟨⟨L,i,⟨(ze (w:=W) e).trans c.c0,(ze (w:=W) e).trans c.c1,⟨⟨cv,⟨m.dm,(ze (w:=W) e).trans m.c0,⟨t,p,(ze (w:=W) e).trans r1,Tr.lw (fun b cs g=>?_) r,s⟩,fun j=>(wq (w:=W) e).trans (m.fz j),m.srt,
  m.bel.trans ⟨a.chg.os,a.chg.tape,a.chg.output,a.chg.size,fun k a=>absurd a (yh _)⟩,m.ty.of e⟩,q⟩,c.dm.pos,c.dm.len⟩,(ze (w:=W) e).trans c.c4⟩,n⟩,f.of (fun k d=>a.chg.block k (f.lt k d).2 (h2 k d)),o⟩
 rw[a.kp b cs 227 _ g rfl,g]
theorem Co.S.Col.ty{cb:Nat}{kind:Int}{l:List T3}{v:Value}(h:Col cb kind l v W):Ty W cb/\∀b,v.ownBlock=some b->Ty W b:=by
 obtain⟨⟨L,g,c,i⟩,d,j⟩:=h;refine⟨c.dm.ty,fun b e=>?_⟩;obtain⟨_,a,f⟩:=d.block b e;exact⟨a,32,f,rfl⟩
theorem Co.S.Col.rlt{cb:Nat}{kind:Int}{l:List T3}{v:Value}(h:Col cb kind l v W):∀b,v.ownBlock=some b->b<W.heap.size:=fun b a=>(h.row.lt b a).2
end
abbrev ivn(p:Nat):Value:=.int .i64 (p:Int)
abbrev ptrs(cb:Nat->Nat)(n:Nat):List Value:=(List.range n).map fun k=>(.pointer (some ⟨cb k,0,none⟩))
structure In where
 fc:Value
 fd:Value
 cv:Value
 pv:Value
 fv:Value
 gv:Value
 lv:Value
 ps:List Value
 cb:Nat->Nat
 v:Nat->Value
 f:Int->Option Nat
 np:Nat
 m:Nat
 free:List Nat
 late:List Int
 G:Int->Bool
 cl:Nat->List T3
abbrev Bb(t:T)(i:In)(next:Nat):Obj:=.cells #[.string t.nm,i.fc,.string t.key,i.fd,i.cv,i.pv,i.fv,i.gv,i.lv,.int .i64 (next:Int)] 105
structure ug (W:World) (tb:Nat) (t:T) (next:Nat) (i:In) (lab:Nat->Nat):Prop where
 form:fw W 0 i.fc i.fd t i.ps
 cols:ac W 0 137 1 i.cv t.cols.length (ptrs i.cb t.cols.length)
 col:∀k (h:k<t.cols.length),Col (i.cb k) t.cols[k].kd (i.cl k) (i.v k) W
 place:Pm W i.pv i.f i.np i.m
 pm:i.m<=next
 free:ac W 0 3 1 i.fv i.free.length (i.free.map ivn)
 gone:Vm W i.gv i.G
 late:ac W 0 3 1 i.lv i.late.length (i.late.map iv)
 l1:lab tb=1
 l2:∀b,mapBlock i.pv=some b->lab b=2
 l3:∀b,i.fv.ownBlock=some b->lab b=3
 l4:∀b,i.lv.ownBlock=some b->lab b=4
 l6:∀k,k<t.cols.length->lab (i.cb k)=6+2*k
 l7:∀k,k<t.cols.length->∀b,(i.v k).ownBlock=some b->lab b=7+2*k
 lt:∀b,lab b≠0->b<W.heap.size
structure ec (W:World) (tb:Nat) (t:T) (next:Nat) (i:In) (lab:Nat->Nat):Prop extends ug W tb t next i lab where
 box:W.heap[tb]?=some (Bb t i next)
section
variable{W W':World}{tb next:Nat}{t:T}{i:In}{lab lab':Nat->Nat}
theorem ug.tlt(h:ug W tb t next i lab):tb<W.heap.size:=h.lt tb (by rw[h.l1];decide)
theorem ug.tn{S:Nat->Prop}(h:ug W tb t next i lab)(hk:Tn S W W')(hs:∀b,S b->lab b=0∨lab b=1):ug W' tb t next i lab:=by
 have e:∀b,lab b≠0->lab b≠1->¬ S b:=(fun b d f g=>(hs b g).elim d f);have d:∀b,lab b≠0->lab b≠1->W'.heap[b]?=W.heap[b]?:=fun b d f=>hk.chg.block b (h.lt b d) (e b d f)
 exact⟨h.form.tn hk,h.cols.tn hk rfl,fun k c=>(h.col k c).tn hk (e _ (by rw[h.l6 k c];omega) (by rw[h.l6 k c];omega)) (fun b a=>e _ (by rw[h.l7 k c b a];omega) (by rw[h.l7 k c b a];omega)),
  h.place.of (fun b a=>d b (by rw[h.l2 b a];decide) (by rw[h.l2 b a];decide)),h.pm,h.free.of (fun b a=>d b (by rw[h.l3 b a];decide) (by rw[h.l3 b a];decide)),h.gone.tn hk,h.late.of (fun b a=>d b (by rw[h.l4 b a];decide) (by rw[h.l4 b a];decide)),h.l1,h.l2,h.l3,h.l4,h.l6,h.l7,fun b a=>z9 (h.lt b a) hk.size⟩
theorem ec.tn{S:Nat->Prop}(h:ec W tb t next i lab)(hk:Tn S W W')(hs:∀b,S b->lab b=0):ec W' tb t next i lab:=
 ⟨h.toug.tn hk (fun b a=>.inl (hs b a)),(hk.chg.block tb h.tlt (fun c=>by have:=hs tb c;rw[h.l1]at this;cases this)).trans h.box⟩
theorem ec.later(h:ec W tb t next i lab)(hb:Below W.heap.size W W'):ec W' tb t next i lab:=h.tn (S:=fun _=>False) (Tn.of_below hb) (fun _ h=>h.elim)
theorem ec.ty(h:ec W tb t next i lab):Ty W tb:=⟨_,105,h.box,rfl⟩
theorem ec.tlt(h:ec W tb t next i lab):tb<W.heap.size:=h.toug.tlt
theorem ec.cells(h:ec W tb t next i lab):W.cell? ⟨tb,0,none⟩=some (.string t.nm)/\W.cell? ⟨tb,1,none⟩=some i.fc/\W.cell? ⟨tb,2,none⟩=some (.string t.key)/\W.cell? ⟨tb,3,none⟩=some i.fd/\W.cell? ⟨tb,4,none⟩=some i.cv/\W.cell? ⟨tb,5,none⟩=some i.pv/\W.cell? ⟨tb,6,none⟩=some i.fv/\W.cell? ⟨tb,7,none⟩=some i.gv/\W.cell? ⟨tb,8,none⟩=some i.lv/\W.cell? ⟨tb,9,none⟩=some (.int .i64 (next:Int)):=
 ⟨aA h.box 0,aA h.box 1,aA h.box 2,aA h.box 3,aA h.box 4,aA h.box 5,aA h.box 6,aA h.box 7,aA h.box 8,aA h.box 9⟩
theorem ec.fz(h:ec W tb t next i lab)(j:Nat):W.frozen? ⟨tb,j,none⟩=false:=zq W tb j _ _ h.box
def Ext(W:World)(lab lab':Nat->Nat):Prop:=∀b,b<W.heap.size->lab' b=lab b
theorem Ext.refl(W:World)(lab:Nat->Nat):Ext W lab lab:=fun _ _=>rfl
theorem Ext.trans{lab'':Nat->Nat}(h:Ext W lab lab')(hs:W.heap.size<=W'.heap.size)(k:Ext W' lab' lab''):Ext W lab lab'':=fun b a=>(k b (z9 a hs)).trans (h b a)
theorem Tn.own(h:ec W tb t next i lab)(j:Nat)(u:Value):Tn (fun b=>lab b=1) W (W.setCell ⟨tb,j,none⟩ u):=by
 have c:Chg (fun b=>b=tb) W (W.setCell ⟨tb,j,none⟩ u):=(Chg.refl (fun b=>b=tb) W).setCell (p:=⟨tb,j,none⟩) (fun _=>rfl) u;exact(Tn.bt c (fun b _ a=>.inl (a▸h.ty))).mono (fun b _ a=>a▸h.l1)
end
def tq(c:C):Value:=.agg #[.string c.nm,.int .i64 c.kd,.bool c.mu,.string c.tgt]
section
variable{W W':World}{tb next:Nat}{t:T}{i:In}{lab:Nat->Nat}
theorem eL(h:ec W tb t next i lab){x:Int}(hx:lg x):Calls prog 63 #[.pointer (some ⟨tb,0,none⟩),.int .i64 x] W fun e b=>e=.returned (.tuple #[.int .i64 (((i.f x).getD 0:Nat):Int),.bool (i.f x).isSome])/\b=W:=by
 have a:=h.place.look hx;obtain⟨_,_,_,_,_,c,_⟩:=h.cells;have d:=h.tlt;generalize (((i.f x).getD 0:Nat):Int)=p at a ⊢;generalize (i.f x).isSome=ok at a ⊢;generalize i.pv=pv at c a;clear h hx;go_enter func63,ntmps63;go_wp2_with (at_lookup;refine rQ rfl (.tmp 14) (.tmp 15) 103 true rfl rfl rfl a ?_);go_ret2;exact⟨rfl,rfl⟩
theorem zT{c:C}{x:ByteArray}{b:Nat}{w:World}(h:w.cell? ⟨b,0,none⟩=some (.string x)):Calls prog 114 #[tq c,.pointer (some ⟨b,0,none⟩)] w fun e d=>e=.returned (.bool (mw x c))/\Below w.heap.size w d:=by
 have f:b<w.heap.size:=xh w ⟨b,0,none⟩ h;have a:(c.nm.toList==x.toList)=mw x c:=(by rw[aQ];rfl);generalize mw x c=r at a ⊢;unfold tq;go_enter func114,ntmps114
 go_wp2
 go_ret;exact⟨rfl,aD w _⟩
theorem D9{l:List C}{v:Value}{x:ByteArray}{b:Nat}{W:World}(h:fj W v l)(hb:W.cell? ⟨b,0,none⟩=some (.string x)):Calls prog 113 #[v,.func (.func 114) #[] #[.pointer (some ⟨b,0,none⟩)]] W fun e H=>e=.returned (.int .i64 (fx l x))/\Below W.heap.size W H:=by
 obtain⟨pc,S,p,I,J⟩:=h.slice;obtain⟨n,u⟩:=ae l.length;unfold maxLen at J;rw[u]at p I;subst p;have q:b<W.heap.size:=xh W ⟨b,0,none⟩ hb;have y:=aa u;have z:=aa (ab h (ab hb q));have F:=enters_of func114 (by kernel_rfl) rfl;clear h hb u q;go_enter func113,ntmps113;go_wp2_with fail;go_loopg [8] (n+1) (fun L M w=>∃(j:Nat),M=.int .i64 (j:Int)/\j<=n/\n+1<=j+L/\(∀i (h:i<l.length),i<j->mw x l[i]=false)/\Below W.heap.size W w)
 case atStart=>exact⟨0,rfl,zj _,by omega,fun i _ k=>by omega,zg _ _⟩
 obtain⟨j,rfl,U,V,r,t⟩:=hrel;have m:=aa (ab r t);by_cases s:j<n
 ·have A:j<l.length:=(by rw[y.out];exact s);obtain⟨bc,N,rfl,O,c0,c1,c2,c3⟩:=fj.col (z.1.later t) A;have d:wr.cell? ⟨b,0,none⟩=some (.string x):=(ze (w:=W) (t.block b z.2.2)).trans z.2.1;have a:=zT (c:=l[j]) d;obtain⟨c,f⟩:=ae (l[j]);rw[f]at c0 c1 c2 c3 a;have G:=aa f;have P:(j:Int)<(n:Int):=(by omega);clear f r t d;unfold tq at a;cases o:mw x c
  ·have B:=aa o;rw[o]at a;clear o;go_wp2_with (go_at_call 114;refine a.mono ?_;rintro e Q⟨rfl,g⟩);have E:=aa g;go_roundg (n-j)
   case measure=>omega
   refine⟨j+1,by go_num,by omega,by omega,fun i k R=>?_,aC m.2 E.out⟩;by_cases e:i=j
   ·subst e;rw[G.out];exact B.out
   exact m.1 i k (by omega)
  have B:=aa o;rw[o]at a;clear o;go_wp2_with (go_at_call 114;refine a.mono ?_;rintro e Q⟨rfl,g⟩);go_ret;exact⟨aP (vH j (by rw[y.out];exact s) (by rw[G.out];exact B.out) (fun i k=>m.1 i _ k)).symm,aC m.2 g⟩
 go_wp2_with fail;go_ret;exact⟨aP (mF (fun i k=>m.1 i k (by have:=y.out;omega))).symm,m.2⟩
theorem fB(h:ec W tb t next i lab)(x:ByteArray):Calls prog 83 #[.pointer (some ⟨tb,0,none⟩),.string x] W fun e m=>e=.returned (.tuple #[.int .i64 (fx t.cols x),.bool (decide (0<=fx t.cols x))])/\Below W.heap.size W m:=by
 have f:=aD W (.cells #[.string x] 9);have j:=aA (z7 W (.cells #[.string x] 9)) 0;have d:=h.later f;have a:=D9 (x:=x) d.form.rd.1 j;obtain⟨_,c1,_⟩:=d.cells;have n:=d.tlt;have k:=aa f;obtain⟨o,b⟩:=ae (W.alloc (.cells #[.string x] 9));obtain⟨B,c⟩:=ae W.heap.size;rw[b]at c1 n a k;rw[c]at a;generalize fx t.cols x=z at a ⊢;generalize i.fc=fc at c1 a;have p:(z≥0)=(0<=z):=rfl;have l:=aa (ab b c);clear h d f j b c;go_enter func83,ntmps83;go_upto_region 1 with fail;rw[l.1,l.2];go_wp2_with (go_at_call 113;refine a.mono ?_;rintro e q⟨rfl,g⟩);go_ret2;exact⟨rfl,aC k.out g⟩
theorem gI(h:ec W tb t next i lab)(j:Nat)(hj:j<t.cols.length)(k n1:Int)(s:ByteArray)(hs:s.size<=maxLen):Calls prog 96 #[.pointer (some ⟨tb,0,none⟩),.int .i64 (j:Int),.agg #[.int .i64 k,.int .i64 n1,.string s]] W fun e b=>e=.returned (.bool (lq t.cols[j].kd (k,n1,s)))/\Below W.heap.size W b:=by
 have l:=aD W (.cells #[.int .i64 k,.int .i64 n1,.string s] 32);have L:=z7 W (.cells #[.int .i64 k,.int .i64 n1,.string s] 32);have E:=h.later l;obtain⟨pc,P,o,R,S⟩:=h.form.rd.1.slice;obtain⟨n,Q⟩:=ae t.cols.length;have y:=E.form.rd.1;rw[o]at y;obtain⟨cb,oc,rfl,r,_⟩:=fj.col y hj;obtain⟨kd,u⟩:=ae (t.cols[j].kd);obtain⟨f,v⟩:=ae (W.alloc (.cells #[.int .i64 k,.int .i64 n1,.string s] 32));obtain⟨B,g⟩:=ae W.heap.size;rw[v]at E L l y r;rw[g]at L l;have F:B<=f.heap.size:=g▸l.size;rw[Q]at y o R
 have c:Hid (∀w,Below f.heap.size f w->w.cell? ⟨B,0,none⟩=some (.int .i64 k)/\w.cell? ⟨B,1,none⟩=some (.int .i64 n1)/\w.cell? ⟨B,2,none⟩=some (.string s)/\w.cell? ⟨tb,1,none⟩=some (.slice (some ⟨cb,oc,none⟩) n P)/\w.cell? ⟨cb,oc+j*4+1,none⟩=some (.int .i64 kd)/\w.heap[B]?=some (.cells #[.int .i64 k,.int .i64 n1,.string s] 32)):=aa (fun w M=>by
  have p:=aE M L;refine⟨aA p 0,aA p 1,aA p 2,?_,?_,p⟩
  ·rw[<-o];exact(E.later M).cells.2.1
  rw[<-u];exact(fj.Ar (y.later M) hj).2.2.1)
 have z:=aa (ab v g);have N:=aa (show Below W.heap.size W f by rw[g];exact l);have O:=aa (show W.heap.size<=f.heap.size by rw[g];exact F);have Y:tb<f.heap.size:=E.tlt;have U:(j:Int)<(n:Int):=(by omega);have V:cb<f.heap.size:=r;unfold maxLen at S;rw[u];unfold lq;simp only;clear h E y L l o F v g Q u r;generalize x:jh k n1 s.data.toList=may;have Z:=aa x;have d:=(fun w=>yX k n1 s w hs);rw[x]at d;clear x;cases may with
 | false =>
  simp only[Bool.false_and];go_enter func96,ntmps96;go_upto_region 1 with fail;rw[z.1,z.2];refine Par.ag 21 [.agg #[.int .i64 k,.int .i64 n1,.string s],.bool false,.bool false,undef,undef,undef,undef,undef,undef,undef,undef,undef,undef,undef,undef,undef,undef,undef,undef,undef,.bool false] (fun w=>Below f.heap.size f w) ?A1 ?hm1 ?hB1 ?hA1 ((zg _ _).drew) ?hop1 ?hT1
  case hm1=>kernel_rfl
  case hB1=>kernel_rfl
  case hA1 =>
   simp only[Par.am,Par.ai,Act.put,eh,ez,dz,eo,ew,ey,ed,ic,gy];rfl
  case hop1 =>
   simp only[en,zh,Par.ah,yo];and_intros<;>intro b a<;>have q:=aa a
   have b0:=(c.out b a).1;have b1:=(c.out b a).2.1;have b2:=(c.out b a).2.2.1;rotate_left
   ·clear a;simp only[Par.Gives];go_simp;exact(d b).mono (fun e G⟨H,l⟩=>⟨H,aC q.out l⟩)
   rotate_left 19
   all_goals(clear a;simp only[Par.Gives];go_simp;all_goals exact q.out)
  case hT1 =>
   intro b a;simp only[ex,ye];have I:=N.out.trans (a.mono O.out);clear a;go_wp2_with fail;go_ret;exact⟨rfl,I⟩
 | true =>
  by_cases A:k=0
  ·have e0:(k==0)=true:=(by simp[A]);have m:decide (k=0)=true:=yy A;rw[m];simp only[ve,Bool.true_or];clear m A;go_enter func96,ntmps96;go_upto_region 1 with fail;rw[z.1,z.2];refine Par.ag 21 [.agg #[.int .i64 k,.int .i64 n1,.string s],.bool true,.bool true,.pointer (some ⟨B,0,none⟩),.int .i64 k,.bool true,.bool true,undef,undef,undef,undef,undef,undef,undef,undef,undef,undef,undef,undef,.bool true,.bool true] (fun w=>Below f.heap.size f w) ?A2 ?hm2 ?hB2 ?hA2 ((zg _ _).drew) ?hop2 ?hT2
   case hm2=>kernel_rfl
   case hB2=>kernel_rfl
   case hA2 =>
    simp only[Par.am,Par.ai,Act.put,eh,ez,dz,eo,ew,ey,ed,ic,gy];rfl
   case hop2 =>
    simp only[en,zh,Par.ah,yo];and_intros<;>intro b a<;>have q:=aa a
    have b0:=(c.out b a).1;have b1:=(c.out b a).2.1;have b2:=(c.out b a).2.2.1;rotate_left
    ·clear a;simp only[Par.Gives];go_simp;exact(d b).mono (fun e G⟨H,l⟩=>⟨H,aC q.out l⟩)
    rotate_left;have b0:=(c.out b a).1;have J:=aB (c.out b a).2.2.2.2.2;rotate_left;have b0:=(c.out b a).1;have J:=aB (c.out b a).2.2.2.2.2;rotate_left 17
    all_goals(clear a;simp only[Par.Gives];go_simp;all_goals exact q.out)
   case hT2 =>
    intro b a;simp only[ex,ye];have I:=N.out.trans (a.mono O.out);clear a;go_wp2_with fail;go_ret;exact⟨rfl,I⟩
  ·have e0:(k==0)=false:=(by simp[A]);have m:decide (k=0)=false:=yp A;rw[m];simp only[ve,Bool.false_or];have X:(k==kd)=decide (k=kd):=(by rw[wu];simp);generalize decide (k=kd)=ke at X ⊢;clear m A;go_enter func96,ntmps96;go_upto_region 1 with fail;rw[z.1,z.2];refine Par.ag 21 [.agg #[.int .i64 k,.int .i64 n1,.string s],.bool true,.bool true,.pointer (some ⟨B,0,none⟩),.int .i64 k,.bool false,.bool false,.pointer (some ⟨B,0,none⟩),.int .i64 k,.pointer (some ⟨tb,0,none⟩),.pointer (some ⟨tb,0,none⟩),.pointer (some ⟨tb,0,none⟩),.pointer (some ⟨tb,1,none⟩),.slice (some ⟨cb,oc,none⟩) n P,.int .i64 (j:Int),.pointer (some ⟨cb,oc+j*4,none⟩),.pointer (some ⟨cb,oc+j*4+1,none⟩),.int .i64 kd,.bool ke,.bool ke,.bool ke] (fun w=>Below f.heap.size f w) ?A3 ?hm3 ?hB3 ?hA3 ((zg _ _).drew) ?hop3 ?hT3
   case hm3=>kernel_rfl
   case hB3=>kernel_rfl
   case hA3 =>
    simp only[Par.am,Par.ai,Act.put,eh,ez,dz,eo,ew,ey,ed,ic,gy];rfl
   case hop3 =>
    simp only[en,zh,Par.ah,yo];and_intros<;>intro b a<;>have q:=aa a
    have b0:=(c.out b a).1;have b1:=(c.out b a).2.1;have b2:=(c.out b a).2.2.1;rotate_left
    ·clear a;simp only[Par.Gives];go_simp;exact(d b).mono (fun e G⟨H,l⟩=>⟨H,aC q.out l⟩)
    rotate_left;have b0:=(c.out b a).1;have J:=aB (c.out b a).2.2.2.2.2;rotate_left;have b0:=(c.out b a).1;have J:=aB (c.out b a).2.2.2.2.2;rotate_left 3;have b0:=(c.out b a).1;have J:=aB (c.out b a).2.2.2.2.2;rotate_left;have b0:=(c.out b a).1;have J:=aB (c.out b a).2.2.2.2.2;rotate_left 5;have zt:=(c.out b a).2.2.2.1;rotate_left 4;have zk:=(c.out b a).2.2.2.2.1;rotate_left 4
    all_goals(clear a;simp only[Par.Gives];go_simp;all_goals exact q.out)
   case hT3 =>
    intro b a;simp only[ex,ye];have I:=N.out.trans (a.mono O.out);clear a;go_wp2_with fail;go_ret;exact⟨rfl,I⟩
end
abbrev R1:=Int×List T3
abbrev z3:T3:=(0,0,⟨#[]⟩)
def rowOf(cl:Nat->List T3)(n p:Nat):List T3:=(List.range n).map fun k=>((cl k)[p]?).getD z3
theorem bV(cl:Nat->List T3)(n p:Nat):(rowOf cl n p).length=n:=by simp[rowOf]
theorem cC(cl:Nat->List T3){n p k:Nat}(h:k<n):(rowOf cl n p)[k]?=some (((cl k)[p]?).getD z3):=by simp[rowOf,h]
theorem mG{cl:Nat->List T3}{n p:Nat}{l:List T3}(hl:l.length=n)(h:∀k,k<n->(cl k)[p]?=l[k]?):l=rowOf cl n p:=by
 apply IQ;intro k;by_cases a:k<n
 ·rw[cC cl a,h k a,z6 (by omega)];rfl
 rw[vn (by omega),vn (by rw[bV];omega)]
theorem fC{cl cl':Nat->List T3}{n p:Nat}(h:∀k,k<n->(cl' k)[p]?=(cl k)[p]?):rowOf cl n p=rowOf cl' n p:=by
 apply List.map_congr_left;intro k a;rw[h k (List.mem_range.1 a)]
structure Inv (n next:Nat) (i:In) (A:List R1):Prop where
 np:i.np=A.length
 lens:∀k,k<n->(i.cl k).length=A.length+i.free.length
 srt:A.Pairwise (fun a b=>a.1<b.1)
 rng:∀a∈A,0<=a.1/\a.1<next
 pl:∀a∈A,∃p,i.f a.1=some p/\p<A.length+i.free.length/\a.2=rowOf i.cl n p
 no:∀x,(∀a∈A,a.1≠x)->i.f x=none
 inj:∀x y p,i.f x=some p->i.f y=some p->x=y
 fre:∀p∈i.free,p<A.length+i.free.length/\(∀x,i.f x≠some p)/\∀k,k<n->(i.cl k)[p]?=some z3
 fnd:i.free.Nodup
 cov:∀p,p<A.length+i.free.length->p∈i.free∨∃a∈A,i.f a.1=some p
 gone:∀x,(i.G x=true∨x∈i.late)↔(0<=x/\x<next/\∀a∈A,a.1≠x)
 few:A.length+i.free.length<=next
 lat:i.late.length<=63
 lim:next<=65536
section
variable{n next:Nat}{i i':In}{A:List R1}
theorem Inv.BM{x:Int}{p:Nat}(h:Inv n next i A)(hf:i.f x=some p):∃a∈A,a.1=x/\p<A.length+i.free.length/\a.2=rowOf i.cl n p:=by
 by_cases c:∃a∈A,a.1=x
 ·obtain⟨a,b,rfl⟩:=c;obtain⟨q,d,g,j⟩:=h.pl a b;rw[hf]at d;cases d;exact⟨a,b,rfl,g,j⟩
 rw[h.no x (fun a b e=>c ⟨a,b,e⟩)]at hf;cases hf
theorem Inv.is{x:Int}(h:Inv n next i A):(i.f x).isSome=true↔∃a∈A,a.1=x:=by
 constructor
 ·intro c;obtain⟨p,b⟩:=Option.isSome_iff_exists.1 c;obtain⟨a,d,e,_⟩:=h.BM b;exact⟨a,d,e⟩
 rintro⟨a,g,rfl⟩;obtain⟨p,b,_⟩:=h.pl a g;rw[b];rfl
theorem Inv.ins(h:Inv n next i A){p:Nat}{vals:List T3}(hv:vals.length=n)(hn:next+1<=65536)(hnp:i'.np=i.np+1)(hf:i'.f=sy i.f next p)(hl:i'.late=i.late)(hG:i'.G=i.G)(hnf:∀x,i.f x≠some p)(hfr:∀q,q∈i'.free↔q∈i.free/\q≠p)(hnd:i'.free.Nodup)(hP:∀q,q<A.length+1+i'.free.length↔(q<A.length+i.free.length∨q=p))(hfew:A.length+1+i'.free.length<=next+1)(hlen:∀k,k<n->(i'.cl k).length=A.length+1+i'.free.length)(h1:∀k,k<n->(i'.cl k)[p]?=vals[k]?)(h2:∀k,k<n->∀q,q≠p->(i'.cl k)[q]?=(i.cl k)[q]?):Inv n (next+1) i' (A++[((next:Int),vals)]):=by
 have j:(A++[((next:Int),vals)]).length=A.length+1:=(by simp);have m:∀a∈A,a.1≠(next:Int):=(fun a c=>by have:=(h.rng a c).2;omega);refine⟨by rw[j,hnp,h.np],fun k l=>by rw[j];exact hlen k l,?_,?_,?_,?_,?_,?_,hnd,?_,?_,by rw[j];exact hfew,by rw[hl];exact h.lat,hn⟩
 ·rw[List.pairwise_append];refine⟨h.srt,by simp,fun a c b F=>?_⟩;rw[List.mem_singleton.1 F];exact(h.rng a c).2
 ·intro a c;rcases List.mem_append.1 c with c|c
  ·have:=h.rng a c;omega
  rw[List.mem_singleton.1 c];exact⟨by simp only;omega,by simp only;omega⟩
 ·intro a c;rw[j,hf];rcases List.mem_append.1 c with c|c
  ·obtain⟨q,o,r,w⟩:=h.pl a c;have z:q≠p:=(fun e=>hnf a.1 (by rw[o,e]));refine⟨q,?_,(hP q).2 (.inl r),?_⟩
   ·unfold sy;rw[zu (m a c)];exact o
   rw[w];exact fC (fun k l=>h2 k l q z)
  rw[List.mem_singleton.1 c];exact⟨p,by unfold sy;rw[zw rfl],(hP p).2 (.inr rfl),mG hv h1⟩
 ·intro x d;rw[hf];unfold sy;rw[zu (fun e=>d _ (List.mem_append.2 (.inr (List.mem_singleton.2 rfl))) e.symm)];exact h.no x (fun a c=>d a (List.mem_append.2 (.inl c)))
 ·intro x y q d g;rw[hf]at d g;unfold sy at d g;by_cases s:x=(next:Int) <;> by_cases t:y=(next:Int)
  ·rw[s,t]
  ·rw[zw s]at d;rw[zu t]at g;cases d;exact absurd g (hnf y)
  ·rw[zu s]at d;rw[zw t]at g;cases g;exact absurd d (hnf x)
  rw[zu s]at d;rw[zu t]at g;exact h.inj x y q d g
 ·intro q u;obtain⟨o,r⟩:=(hfr q).1 u;obtain⟨w,H,I⟩:=h.fre q o;refine⟨by rw[j];exact(hP q).2 (.inl w),fun x=>?_,fun k l=>(h2 k l q r).trans (I k l)⟩;rw[hf];unfold sy;split
  ·intro e;cases e;exact r rfl
  exact H x
 ·intro q u;rw[j]at u;rw[hf];by_cases e:q=p
  ·subst e;exact .inr ⟨_,List.mem_append.2 (.inr (List.mem_singleton.2 rfl)),by unfold sy;rw[zw rfl]⟩
  rcases h.cov q (((hP q).1 u).resolve_right e)with B|⟨a,c,B⟩
  ·exact .inl ((hfr q).2 ⟨B,e⟩)
  exact .inr ⟨a,List.mem_append.2 (.inl c),by unfold sy;rw[zu (m a c)];exact B⟩
 intro x;rw[hl,hG,h.gone x];constructor
 ·rintro⟨E,J,v⟩;refine⟨E,by omega,fun a c=>?_⟩;rcases List.mem_append.1 c with c|c
  ·exact v a c
  rw[List.mem_singleton.1 c];simp only;omega
 rintro⟨E,J,v⟩
 have:=v _ (List.mem_append.2 (.inr (List.mem_singleton.2 rfl)))
 simp only at this;exact⟨E,by omega,fun a c=>v a (List.mem_append.2 (.inl c))⟩
def without(A:List R1)(x:Int):List R1:=A.filter fun a=>decide (a.1≠x)
theorem bP{A:List R1}{x:Int}{a:R1}:a∈without A x↔a∈A/\a.1≠x:=by simp[without]
theorem rV{A:List R1}(hs:A.Pairwise (fun a b=>a.1<b.1)){a:R1}(d:a∈A):(without A a.1).length+1=A.length:=by
 induction A with
 | nil=>cases d
 | cons c r ih =>
  rw[wk]at hs;unfold without at ih ⊢;rcases List.mem_cons.1 d with rfl|d
  ·rw[List.filter_cons_of_neg (by simp)];rw[List.filter_eq_self.2 (fun b e=>by have:=hs.1 b e;simp;omega)];rfl
  ·have:=hs.1 a d
   rw[List.filter_cons_of_pos (by simp;omega),xa,xa,ih hs.2 d]
theorem Inv.del(h:Inv n next i A){a:R1}(ha:a∈A){p:Nat}(hp:i.f a.1=some p)(hnp:i'.np=i.np-1)(hf:i'.f=qo i.f a.1)(hfr:i'.free=i.free++[p])(hg:∀x,(i'.G x=true∨x∈i'.late)↔((i.G x=true∨x∈i.late)∨x=a.1))(hlat:i'.late.length<=63)(hcl:∀k,k<n->i'.cl k=(i.cl k).set p z3):Inv n next i' (without A a.1):=by
 have S:=rV h.srt ha;obtain⟨U,I,J,V⟩:=h.pl a ha;rw[hp]at I;cases I;have c:(without A a.1).length+i'.free.length=A.length+i.free.length:=(by rw[hfr,y6,List.length_singleton];omega);have r:p ∉ i.free:=(fun O=>(h.fre p O).2.1 a.1 hp);have m:∀k,k<n->∀q,q≠p->(i'.cl k)[q]?=(i.cl k)[q]?:=(fun k g q j=>by rw[hcl k g,List.getElem?_set_ne (fun e=>j e.symm)]);have s:∀k,k<n->(i'.cl k)[p]?=some z3:=(fun k g=>by rw[hcl k g,List.getElem?_set_self (by rw[h.lens k g];exact J)]);refine⟨by rw[hnp,h.np];omega,fun k g=>by rw[c,hcl k g,vp];exact h.lens k g,h.srt.filter _,fun b d=>h.rng b (bP.1 d).1,?_,?_,?_,?_,?_,?_,?_,by rw[c];exact h.few,hlat,h.lim⟩
 ·intro b d;obtain⟨w,t⟩:=bP.1 d;obtain⟨q,L,P,z⟩:=h.pl b w;have B:q≠p:=(fun e=>t (h.inj _ _ _ L (by rw[hp,e])));refine⟨q,by rw[hf];unfold qo;rw[zu t];exact L,by rw[c];exact P,?_⟩;rw[z];exact fC (fun k g=>m k g q B)
 ·intro x l;rw[hf];unfold qo;by_cases e:x=a.1
  ·rw[zw e]
  rw[zu e];exact h.no x (fun b d u=>l b (bP.2 ⟨d,by rw[u];exact e⟩) u)
 ·intro x y q l o;rw[hf]at l o;unfold qo at l o;by_cases M:x=a.1
  ·rw[zw M]at l;cases l
  by_cases N:y=a.1
  ·rw[zw N]at o;cases o
  rw[zu M]at l;rw[zu N]at o;exact h.inj x y q l o
 ·intro q j;rw[hfr]at j;rw[c,hf];rcases List.mem_append.1 j with j|j
  ·obtain⟨z,Q,R⟩:=h.fre q j;refine⟨z,fun x=>?_,fun k g=>(m k g q (fun e=>r (e▸j))).trans (R k g)⟩;unfold qo;split
   ·intro e;cases e
   exact Q x
  rw[List.mem_singleton.1 j];refine⟨J,fun x=>?_,s⟩;unfold qo;split
  ·intro e;cases e
  rename_i l;exact fun e=>l (h.inj _ _ _ e hp)
 ·rw[hfr,List.nodup_append];exact⟨h.fnd,by simp,fun x l y o e=>r (by rw[List.mem_singleton.1 o]at e;rw[<-e];exact l)⟩
 ·intro q j;rw[c]at j;rw[hfr,hf];rcases h.cov q j with v|⟨b,d,v⟩
  ·exact .inl (List.mem_append.2 (.inl v))
  by_cases e:b.1=a.1
  ·rw[e,hp]at v;cases v;exact .inl (List.mem_append.2 (.inr (List.mem_singleton.2 rfl)))
  exact .inr ⟨b,bP.2 ⟨d,e⟩,by unfold qo;rw[zu e];exact v⟩
 intro x;rw[hg x,h.gone x];constructor
 ·rintro(⟨E,F,H⟩ | rfl)
  ·exact⟨E,F,fun b d=>H b (bP.1 d).1⟩
  have:=h.rng a ha
  exact⟨this.1,this.2,fun b d=>(bP.1 d).2⟩
 rintro⟨E,F,H⟩;by_cases e:x=a.1
 ·exact .inr e
 exact .inl ⟨E,F,fun b d u=>H b (bP.2 ⟨d,by rw[u];exact e⟩) u⟩
def ph(A:List R1)(x:Int)(j:Nat)(v:T3):List R1:=A.map fun a=>if a.1=x then(a.1,a.2.set j v)else a
theorem rW(A:List R1)(x:Int)(j:Nat)(v:T3):(ph A x j v).length=A.length:=by simp[ph]
theorem Fg(A:List R1)(x:Int)(j:Nat)(v:T3):(ph A x j v).map (·.1)=A.map (·.1):=by
 unfold ph;rw[List.map_map];apply List.map_congr_left;intro a _;simp only[Function.comp];split <;> rfl
theorem qD{A:List R1}{x:Int}:(∃a∈A,a.1=x)↔x∈A.map (·.1):=by simp
theorem mH{A B:List R1}(e:B.map (·.1)=A.map (·.1))(x:Int):(∀a∈B,a.1≠x)↔∀a∈A,a.1≠x:=by
 have j:=qD (A:=A) (x:=x);have d:=qD (A:=B) (x:=x);rw[e,<-j]at d;constructor
 ·intro h a f g;obtain⟨b,i,c⟩:=d.2 ⟨a,f,g⟩;exact h b i c
 intro h a f g;obtain⟨b,i,c⟩:=d.1 ⟨a,f,g⟩;exact h b i c
theorem Inv.set(h:Inv n next i A){a:R1}(ha:a∈A){p j:Nat}(hj:j<n){v:T3}(hp:i.f a.1=some p)(hnp:i'.np=i.np)(hf:i'.f=i.f)(hfr:i'.free=i.free)(hl:i'.late=i.late)(hG:i'.G=i.G)(hcl:∀k,k<n->i'.cl k=if k=j then(i.cl k).set p v else i.cl k):Inv n next i' (ph A a.1 j v):=by
 have g:=Fg A a.1 j v;have r:=rW A a.1 j v;obtain⟨O,H,P,Q⟩:=h.pl a ha;rw[hp]at H;cases H;have B:p ∉ i.free:=fun I=>(h.fre p I).2.1 a.1 hp
 have l:∀k,k<n->∀q,q≠p->(i'.cl k)[q]?=(i.cl k)[q]?:=fun k d q m=>by
  rw[hcl k d];split
  ·rw[List.getElem?_set_ne (fun e=>m e.symm)]
  rfl
 have t:∀k,k<n->(i'.cl k).length=A.length+i.free.length:=fun k d=>by
  rw[hcl k d];split
  ·rw[vp];exact h.lens k d
  exact h.lens k d
 refine⟨by rw[hnp,h.np,r],fun k d=>by rw[r,hfr];exact t k d,?_,?_,?_,?_,?_,?_,by rw[hfr];exact h.fnd,?_,?_,by rw[r,hfr];exact h.few,by rw[hl];exact h.lat,h.lim⟩
 ·have:=h.srt
  rw[<-List.pairwise_map (f:=fun a:R1=>a.1) (R:=(·<·))]at this ⊢;rw[g];exact this
 ·intro b u;have:b.1∈A.map (·.1):=(by rw[<-g];exact ud u);obtain⟨c,E,e⟩:=List.mem_map.1 this;rw[<-e];exact h.rng c E
 ·intro b u;rw[hf,r,hfr];obtain⟨c,E,rfl⟩:=List.mem_map.1 u;obtain⟨q,w,y,s⟩:=h.pl c E;by_cases e:c.1=a.1
  ·rw[zw e];have o:q=p:=(by rw[e,hp]at w;cases w;rfl);subst o;refine⟨q,w,y,?_⟩;refine mG (by rw[vp,s,bV]) (fun k d=>?_);rw[hcl k d];by_cases F:k=j
   ·subst F;rw[zw rfl,List.getElem?_set_self (by rw[h.lens k d];exact y),List.getElem?_set_self (by rw[s,bV];exact d)]
   rw[zu F,List.getElem?_set_ne (fun e=>F e.symm),s,cC _ d,z6 (by rw[h.lens k d];exact y)];rfl
  rw[zu e];have o:q≠p:=(fun J=>e (h.inj _ _ _ w (by rw[hp,J])));exact⟨q,w,y,by rw[s];exact fC (fun k d=>l k d q o)⟩
 ·intro x L;rw[hf];exact h.no x ((mH g x).1 L)
 ·rw[hf];exact h.inj
 ·intro q m;rw[hfr]at m;rw[hf,r,hfr];obtain⟨s,M,N⟩:=h.fre q m;exact⟨s,M,fun k d=>(l k d q (fun e=>B (e▸m))).trans (N k d)⟩
 ·intro q m;rw[r,hfr]at m;rw[hf,hfr];rcases h.cov q m with z|⟨b,u,z⟩
  ·exact .inl z
  refine .inr ⟨_,ud u,?_⟩;split
  ·exact z
  exact z
 intro x;rw[hl,hG,h.gone x];exact⟨fun⟨a,b,c⟩=>⟨a,b,(mH g x).2 c⟩,fun⟨a,b,c⟩=>⟨a,b,(mH g x).1 c⟩⟩
theorem Inv.texts(h:Inv n next i A){k:Nat}(hk:k<n)(s:K 12):(∃x∈i.cl k,x.1=2/\wd x.2.2=s)↔∃a∈A,∃x,a.2[k]?=some x/\x.1=2/\wd x.2.2=s:=by
 constructor
 ·rintro⟨x,d,b,f⟩;obtain⟨p,g,rfl⟩:=xp d;have c:=g;rw[h.lens k hk]at g;rcases h.cov p g with j|⟨a,e,j⟩
  ·have:=(h.fre p j).2.2 k hk
   rw[z6 c]at this;rw[Option.some.inj this]at b;cases b
  obtain⟨q,l,o,m⟩:=h.pl a e;rw[j]at l;cases l;refine⟨a,e,_,?_,b,f⟩;rw[m,cC _ hk,z6 c];rfl
 rintro⟨a,e,x,d,b,f⟩;obtain⟨q,l,o,m⟩:=h.pl a e;rw[m,cC _ hk,z6 (by rw[h.lens k hk];exact o)]at d;cases d;exact⟨_,z8 _,b,f⟩
end
def qt(P:Int->Bool):Par.VW:=⟨fun v w=>∃p n c,v=.agg #[.slice p n c]/\Vm w (.slice p n c) P,fun _ _ _⟨p,n,c,h1,h2⟩ hb=>⟨p,n,c,h1,h2.later hb⟩⟩
theorem rq.qt{P:Int->Bool}{W w':World}{e:Ending}(h:rq P W e w'):∃u,e=.returned u/\(qt P).1 u w'/\Below W.heap.size W w':=by
 obtain⟨p,n,c,a,b,d⟩:=h;exact⟨_,a,⟨p,n,c,rfl,b⟩,d⟩
section
variable{W W':World}{tb next:Nat}{t:T}{i:In}{lab:Nat->Nat}
abbrev jf(i:In):Int->Bool:=fun x=>i.G x || ry i.late x
theorem jI(h:ec W tb t next i lab)(hl:i.late.length<=100):Calls prog 42 #[.pointer (some ⟨tb,0,none⟩)] W (rq (jf i) W):=by
 have A:=aD W (.cells #[.slice none 0 0] 29);have E:=z7 W (.cells #[.slice none 0 0] 29);have P:=h.later A;obtain⟨F,s⟩:=ae (W.alloc (.cells #[.slice none 0 0] 29));obtain⟨B,u⟩:=ae W.heap.size;rw[s]at P E A;rw[u]at E;have HG:=aa A;obtain⟨L,M,cg,N⟩:=h.gone.slc;obtain⟨pl,cl,x,_,_⟩:=h.late.isslice;obtain⟨nl,f⟩:=ae i.late.length;rw[f]at x hl
 have Q:Hid (∀w,Below F.heap.size F w->w.cell? ⟨tb,7,none⟩=some (.slice L M cg)/\w.cell? ⟨tb,8,none⟩=some (.slice pl nl cl)/\Vm w (.slice L M cg) i.G/\Rd w pl i.late):=aa (fun w hw=>by
  have V:=P.later hw;obtain⟨_,_,_,_,_,_,_,c7,R,_⟩:=V.cells;have hg:=V.gone;have X:=V.late;rw[N]at c7 hg;rw[x]at R X;exact⟨c7,R,hg,by rw[<-f]at X;exact Ro.rd X⟩)
 have HN:=aa (ab f hl);have S:=aa (ab s (ab u E));have zn:tb<F.heap.size:=P.tlt;clear h P E A s u N x f hl;go_enter func42,ntmps42;go_upto_region 1 with fail;rw[S.1,S.2.1];refine Par.ij 10 (fun w=>Below F.heap.size F w) (Par.VL [(.eq (.pointer (some ⟨tb,0,none⟩))),(.eq (.pointer (some ⟨tb,0,none⟩))),(.eq (.pointer (some ⟨tb,7,none⟩))),(.eq (.agg #[.slice L M cg])),(.eq (.pointer (some ⟨tb,0,none⟩))),(.eq (.pointer (some ⟨tb,0,none⟩))),(.eq (.pointer (some ⟨tb,8,none⟩))),(.eq (.slice pl nl cl)),(qt (ry i.late)),(qt (jf i))]) ?A1 ?hm1 ?hB1 (fun w y h A=>aC h A) (Par.VL.mono _) ?hA1 (aG F) ?hop1 ?hT1
 case hm1=>kernel_rfl
 case hB1=>kernel_rfl
 case hA1 =>
  intro vs;simp only[Par.am,Par.ai,Act.put,eh,ez,dz,eo,ew,ey,ed];rfl
 case hop1 =>
  simp only[en,zh,Par.fo,yo];and_intros<;>intro vs w d a
  ·clear a;simp only[Par.au];go_simp;all_goals exact⟨rfl,zg _ _⟩
  ·have g:=a 0 (by decide) (by kernel_rfl);replace g:vs 0=.pointer (some ⟨tb,0,none⟩):=g;clear a;simp only[Par.au,g];go_simp;all_goals exact⟨rfl,zg _ _⟩
  ·have d1:=a 1 (by decide) (by kernel_rfl);replace d1:vs 1=.pointer (some ⟨tb,0,none⟩):=d1;have zt:=z9 zn d.size;clear a;simp only[Par.au,d1];go_simp;all_goals exact⟨rfl,zg _ _⟩
  ·have d2:=a 2 (by decide) (by kernel_rfl);replace d2:vs 2=.pointer (some ⟨tb,7,none⟩):=d2;have k:=(Q.out w d).1;clear a;simp only[Par.au,d2];go_simp;all_goals exact⟨rfl,zg _ _⟩
  ·clear a;simp only[Par.au];go_simp;all_goals exact⟨rfl,zg _ _⟩
  ·have j:=a 4 (by decide) (by kernel_rfl);replace j:vs 4=.pointer (some ⟨tb,0,none⟩):=j;clear a;simp only[Par.au,j];go_simp;all_goals exact⟨rfl,zg _ _⟩
  ·have m:=a 5 (by decide) (by kernel_rfl);replace m:vs 5=.pointer (some ⟨tb,0,none⟩):=m;have zt:=z9 zn d.size;clear a;simp only[Par.au,m];go_simp;all_goals exact⟨rfl,zg _ _⟩
  ·have n:=a 6 (by decide) (by kernel_rfl);replace n:vs 6=.pointer (some ⟨tb,8,none⟩):=n;have k:=(Q.out w d).2.1;clear a;simp only[Par.au,n];go_simp;all_goals exact⟨rfl,zg _ _⟩
  ·have o:=a 7 (by decide) (by kernel_rfl);replace o:vs 7=(.slice pl nl cl):=o
   skip
   clear a;simp only[Par.au,o];go_simp;exact(vof HN.1 (by have:=HN.2;omega) (Q.out w d).2.2.2).mono (fun e Y h=>h.qt)
  have q:=a 3 (by decide) (by kernel_rfl);replace q:vs 3=.agg #[.slice L M cg]:=q;have z:=a 8 (by decide) (by kernel_rfl);obtain⟨p8,n8,R,z,Z⟩:=z;replace z:vs 8=.agg #[.slice p8 n8 R]:=z;clear a;simp only[Par.au,q,z];go_simp;exact(vor (Q.out w d).2.2.1 Z).mono (fun e Y h=>h.qt)
 intro vs y d b;simp only[ex,ye];have g:=b 0 (by decide);replace g:vs 0=.pointer (some ⟨tb,0,none⟩):=g;have d1:=b 1 (by decide);replace d1:vs 1=.pointer (some ⟨tb,0,none⟩):=d1;have d2:=b 2 (by decide);replace d2:vs 2=.pointer (some ⟨tb,7,none⟩):=d2;have q:=b 3 (by decide);replace q:vs 3=.agg #[.slice L M cg]:=q;have j:=b 4 (by decide);replace j:vs 4=.pointer (some ⟨tb,0,none⟩):=j;have m:=b 5 (by decide);replace m:vs 5=.pointer (some ⟨tb,0,none⟩):=m;have n:=b 6 (by decide);replace n:vs 6=.pointer (some ⟨tb,8,none⟩):=n;have o:=b 7 (by decide);replace o:vs 7=(.slice pl nl cl):=o;have z:=b 8 (by decide);have d9:=b 9 (by decide);clear b;simp only[g,d1,d2,q,j,m,n,o];clear g d1 d2 q j m n o;clear z;obtain⟨H,I,J,e9,O⟩:=d9;generalize vs 9=v9 at e9 ⊢;subst e9;generalize vs 8=v8;have c:=aE d S.2.2;have z0:=aA c 0;have zf:=(fun i=>zq y B i _ _ c);have zl:=aB c;have U:=aa (ab d (ab O c));clear d O c;go_wp2_with fail;have hS:=y7 y B 0 _ _ (.slice H I J) U.2.2;have r:Below W.heap.size W (y.setCell ⟨B,0,none⟩ (.slice H I J)):=(aC HG.out U.1).setCell (p:=⟨B,0,none⟩) (xn S.2.1) _
 have hv:Vm (y.setCell ⟨B,0,none⟩ (.slice H I J)) (.slice H I J) (jf i):=by
  obtain⟨l,m1,m2,m3⟩:=U.2.1;refine⟨l,ac.of m1 (fun k E=>y9 y ⟨B,0,none⟩ k _ (fun e=>?_)),m2,m3⟩;obtain⟨_,a0,hc⟩:=ac.block m1 k E;subst e;rw[U.2.2]at hc;cases hc
 generalize y.setCell _ _=wz at hS r hv ⊢;have y0:=aA hS 0;refine y8 (v:=.agg #[.slice H I J]) (by simp[results,results42,go_sem,y0]) rfl ?_;exact⟨H,I,J,rfl,hv,r⟩
theorem zU(h:ec W tb t next i lab):Calls prog 230 #[.pointer (some ⟨tb,0,none⟩)] W fun e a=>e=.returned (.int .i64 (next:Int))/\a=W:=by
 obtain⟨_,_,_,_,_,_,_,_,_,b⟩:=h.cells;have c:=h.tlt;clear h;go_enter func230,ntmps230
 go_wp2
 go_ret;exact⟨rfl,rfl⟩
theorem zV(h:ec W tb t next i lab)(hl:i.late.length<=100):Calls prog 15 #[.pointer (some ⟨tb,0,none⟩)] W (rq (notP (jf i) (next:Int)) W):=by
 have s:=aD W (.cells #[.slice none 0 0] 29);have u:=z7 W (.cells #[.slice none 0 0] 29);have F:=h.later s;obtain⟨x,n⟩:=ae (W.alloc (.cells #[.slice none 0 0] 29));obtain⟨B,o⟩:=ae W.heap.size;rw[n]at F u s;rw[o]at u;have S:=aa s
 have L:Hid (∀w,Below x.heap.size x w->w.cell? ⟨tb,9,none⟩=some (.int .i64 (next:Int))/\ec w tb t next i lab):=aa (fun w U=>by
  have M:=F.later U;exact⟨M.cells.2.2.2.2.2.2.2.2.2,M⟩)
 have V:=aa hl;have G:=aa (ab n (ab o u));have X:tb<x.heap.size:=F.tlt;clear h F u s n o hl;go_enter func15,ntmps15;go_upto_region 3 with fail;rw[G.1,G.2.1];refine Par.ij 7 (fun w=>Below x.heap.size x w) (Par.VL [(.eq (.pointer (some ⟨tb,0,none⟩))),(qt (jf i)),(.eq (.pointer (some ⟨tb,0,none⟩))),(.eq (.pointer (some ⟨tb,0,none⟩))),(.eq (.pointer (some ⟨tb,9,none⟩))),(.eq (.int .i64 (next:Int))),(qt (notP (jf i) (next:Int)))]) ?A2 ?hm2 ?hB2 (fun w q h s=>aC h s) (Par.VL.mono _) ?hA2 (aG x) ?hop2 ?hT2
 case hm2=>kernel_rfl
 case hB2=>kernel_rfl
 case hA2 =>
  intro vs;simp only[Par.am,Par.ai,Act.put,eh,ez,dz,eo,ew,ey,ed];rfl
 case hop2 =>
  simp only[en,zh,Par.fo,yo];and_intros<;>intro vs w r a
  ·clear a;simp only[Par.au];go_simp;all_goals exact⟨rfl,zg _ _⟩
  ·have c:=a 0 (by decide) (by kernel_rfl);replace c:vs 0=.pointer (some ⟨tb,0,none⟩):=c
   skip
   clear a;simp only[Par.au,c];go_simp;exact(jI (L.out w r).2 V.out).mono (fun e I h=>h.qt)
  ·clear a;simp only[Par.au];go_simp;all_goals exact⟨rfl,zg _ _⟩
  ·have d2:=a 2 (by decide) (by kernel_rfl);replace d2:vs 2=.pointer (some ⟨tb,0,none⟩):=d2;clear a;simp only[Par.au,d2];go_simp;all_goals exact⟨rfl,zg _ _⟩
  ·have d:=a 3 (by decide) (by kernel_rfl);replace d:vs 3=.pointer (some ⟨tb,0,none⟩):=d;have zt:=z9 X r.size;clear a;simp only[Par.au,d];go_simp;all_goals exact⟨rfl,zg _ _⟩
  ·have f:=a 4 (by decide) (by kernel_rfl);replace f:vs 4=.pointer (some ⟨tb,9,none⟩):=f;have k:=(L.out w r).1;clear a;simp only[Par.au,f];go_simp;all_goals exact⟨rfl,zg _ _⟩
  have d1:=a 1 (by decide) (by kernel_rfl);have g:=a 5 (by decide) (by kernel_rfl);replace g:vs 5=.int .i64 (next:Int):=g;obtain⟨Y,Z,c1,d1,J⟩:=d1;replace d1:vs 1=.agg #[.slice Y Z c1]:=d1;clear a;simp only[Par.au,g,d1];go_simp;exact(Hu J (next:Int)).mono (fun e I h=>h.qt)
 intro vs q r j;simp only[ex,ye];have c:=j 0 (by decide);replace c:vs 0=.pointer (some ⟨tb,0,none⟩):=c;have d1:=j 1 (by decide);have d2:=j 2 (by decide);replace d2:vs 2=.pointer (some ⟨tb,0,none⟩):=d2;have d:=j 3 (by decide);replace d:vs 3=.pointer (some ⟨tb,0,none⟩):=d;have f:=j 4 (by decide);replace f:vs 4=.pointer (some ⟨tb,9,none⟩):=f;have g:=j 5 (by decide);replace g:vs 5=.int .i64 (next:Int):=g;have d6:=j 6 (by decide);clear j;simp only[c,d2,d,f,g];clear c d2 d f g;clear d1;obtain⟨y,z,A,N,E⟩:=d6;generalize vs 6=v9 at N ⊢;subst N;generalize vs 1=v8;have b:=aE r G.2.2;have z0:=aA b 0;have zf:=(fun i=>zq q B i _ _ b);have zl:=aB b;have H:=aa (ab r (ab E b));clear r E b;go_wp2_with fail;have O:=y7 q B 0 _ _ (.slice y z A) H.2.2;have m:Below W.heap.size W (q.setCell ⟨B,0,none⟩ (.slice y z A)):=(aC S.out H.1).setCell (p:=⟨B,0,none⟩) (xn G.2.1) _
 have P:Vm (q.setCell ⟨B,0,none⟩ (.slice y z A)) (.slice y z A) (notP (jf i) (next:Int)):=by
  obtain⟨l,Q,m2,m3⟩:=H.2.1;refine⟨l,ac.of Q (fun k u=>y9 q ⟨B,0,none⟩ k _ (fun e=>?_)),m2,m3⟩;obtain⟨_,a0,R⟩:=ac.block Q k u;subst e;rw[H.2.2]at R;cases R
 generalize q.setCell _ _=wz at O m P ⊢;have y0:=aA O 0;refine y8 (v:=.agg #[.slice y z A]) (by simp[results,results15,go_sem,y0]) rfl ?_;exact⟨y,z,A,rfl,P,m⟩
theorem Iv{cb:Nat->Nat}{n k:Nat}(h:k<n):(ptrs cb n)[k]?=some (.pointer (some ⟨cb k,0,none⟩)):=by simp[ptrs,h]
theorem ec.ptr(h:ec W tb t next i lab){k:Nat}(hk:k<t.cols.length):∃g c,i.cv=.slice (some ⟨g,0,none⟩) t.cols.length c/\t.cols.length<=c/\c<=maxLen/\g<W.heap.size/\W.cell? ⟨g,k,none⟩=some (.pointer (some ⟨i.cb k,0,none⟩)):=by
 obtain⟨g,c,b,d,e⟩:=h.cols.slice (by omega);have a:=h.cols;rw[b]at a;exact⟨g,c,b,d,e,(a.lt g rfl).2,a.cell (Iv hk)⟩
theorem vO(h:ec W tb t next i lab){x:ByteArray}{k:Nat}(hk:k<t.cols.length)(hx:fx t.cols x=(k:Int))(m:List (K 12))(hm:m.Nodup)(hs:∀s,s∈m↔∃y∈i.cl k,y.1=2/\wd y.2.2=s):Calls prog 193 #[.pointer (some ⟨tb,0,none⟩),.string x] W fun e j=>e=.returned (.int .i64 (m.length:Int))/\Below W.heap.size W j:=by
 have d:=fB h x;rw[hx]at d;obtain⟨g,c,a,q,r,_⟩:=h.ptr hk;obtain⟨n,l⟩:=ae t.cols.length
 have o:Hid (∀w,Below W.heap.size W w->w.cell? ⟨tb,4,none⟩=some (.slice (some ⟨g,0,none⟩) n c)/\w.cell? ⟨g,k,none⟩=some (.pointer (some ⟨i.cb k,0,none⟩))/\tb<w.heap.size/\g<w.heap.size/\Calls prog 205 #[.pointer (some ⟨i.cb k,0,none⟩)] w fun e j=>e=.returned (.int .i64 (m.length:Int))/\j=w):=aa (fun w u=>by
  have f:=h.later u;obtain⟨I,J,e,_,_,v,z⟩:=f.ptr hk;rw[a]at e;cases e;exact⟨by rw[<-l,<-a];exact f.cells.2.2.2.2.1,z,f.tlt,v,zE (f.col k hk) m hm hs⟩)
 rw[l]at q hk;have L:decide ((k:Int)≥0)=true:=(by simp);have A:(k:Int)<(n:Int):=(by omega);have p:decide (0<=(k:Int))=true:=(by simp);rw[p]at d;unfold maxLen at r;clear h hx a l hs hm p;generalize i.cb k=cb at o;generalize m.length=ml at o ⊢;go_enter func193,ntmps193
 go_wp2_with (first|(go_at_call 83;refine d.mono ?_;rintro e B⟨rfl,b⟩;obtain⟨M,N,O,P,E⟩:=o.out B b;have F:=aa b;clear b d)|(go_at_call 205;refine E.mono ?_;rintro e G⟨rfl,H⟩;subst G))
 go_ret;exact⟨rfl,F.out⟩
end
theorem Ei(n q:Nat)(h:q<n):(cells3 (List.replicate n z3))[q*3]?=some (.int .i64 0)/\(cells3 (List.replicate n z3))[q*3+1]?=some (.int .i64 0)/\(cells3 (List.replicate n z3))[q*3+2]?=some (.string ⟨#[]⟩):=by
 have:=cQ (List.replicate n z3) q (by simpa using h)
 simpa using this
theorem F4(n:Nat):(madeCells #[.int .i64 0,.int .i64 0,.string ⟨#[]⟩] (n*3)).toList=cells3 (List.replicate n z3):=by
 apply IQ;intro i;by_cases c:i<n*3
 ·have d:i / 3<n:=(by omega);obtain⟨e,f,g⟩:=Ei n (i / 3) d;have a:i=i / 3*3∨i=i / 3*3+1∨i=i / 3*3+2:=(by omega);rcases a with a|a|a
  ·rw[show(cells3 (List.replicate n z3))[i]?=some (.int .i64 0)by rw[a];exact e];have b:i % 3=0:=(by omega);simp[madeCells,c,b]
  ·rw[show(cells3 (List.replicate n z3))[i]?=some (.int .i64 0)by rw[a];exact f];have b:i % 3=1:=(by omega);simp[madeCells,c,b]
  rw[show(cells3 (List.replicate n z3))[i]?=some (.string ⟨#[]⟩)by rw[a];exact g];have b:i % 3=2:=(by omega);simp[madeCells,c,b]
 rw[vn (by simp[madeCells];omega),vn (by rw[lM];simp;omega)]
theorem zW(n:Nat)(hn:n<=65536)(w:World):∃a,(Instr.makeSlice 35 (.int .i64 (n:Int)) (.int .i64 (n:Int))).run prog w=.ok (.slice (some ⟨w.heap.size,0,none⟩) n n) a/\ac a w.heap.size 32 3 (.slice (some ⟨w.heap.size,0,none⟩) n n) n (cells3 (List.replicate n z3))/\w.grownBy a none:=by
 obtain⟨f,b,c,d,e⟩:=info_parts uW;obtain⟨a,g,h,i⟩:=run_make_full (P:=prog) w w.heap.size 35 32 f _ 3 underlying35 b c d .i64 .i64 n (by rw[e];omega) (by unfold maxLen;omega) (zo _);refine⟨a,g,?_,i⟩;rw[<-F4];exact ac.lh h
section
variable{W W':World}{tb next:Nat}{t:T}{i:In}{lab:Nat->Nat}
theorem Ha(h:ec W tb t next i lab){x:Int}(hx:lg x){p:Nat}(hf:i.f x=some p)(hp:∀k,k<t.cols.length->p<(i.cl k).length)(hc:t.cols.length<=1000)(h0:0<t.cols.length):Calls prog 191 #[.pointer (some ⟨tb,0,none⟩),.int .i64 x] W fun e Z=>∃g c,e=.returned (.tuple #[.slice (some ⟨g,0,none⟩) t.cols.length c,.bool true])/\W.heap.size<=g/\ac Z W.heap.size 32 3 (.slice (some ⟨g,0,none⟩) t.cols.length c) t.cols.length (cells3 (rowOf i.cl t.cols.length p))/\Below W.heap.size W Z:=by
 have ha:=eL h hx;rw[hf]at ha;simp only[Option.getD_some,Option.isSome_some]at ha;obtain⟨F,M,z,o⟩:=zW t.cols.length (by omega) W;have q:Below W.heap.size W F:=⟨o.os,o.tape,o.output,o.size,fun k N=>o.block k N (by simp)⟩;obtain⟨gc,cc,G,a0,a1,a4,_⟩:=h.ptr h0;obtain⟨n,L⟩:=ae t.cols.length;have c4:=h.cells.2.2.2.2.1;have zl:=h.tlt;have z1:tb<F.heap.size:=z9 zl q.size;have O:=(h.later q).cells.2.2.2.2.1;rw[G]at c4 O;obtain⟨cl,H⟩:=ae i.cl;rw[H]at hp ⊢;obtain⟨m,A⟩:=ae W.heap.size
 have HX:Hid (∀w k,k<n->Below F.heap.size F w∨Below m F w->w.cell? ⟨gc,k,none⟩=some (.pointer (some ⟨i.cb k,0,none⟩))/\gc<w.heap.size/\∃(s:p<(cl k).length),Calls prog 84 #[.pointer (some ⟨i.cb k,0,none⟩),.int .i64 (p:Int)] w fun e Z=>e=.returned (.tuple #[.agg #[.int .i64 ((cl k)[p].1),.int .i64 ((cl k)[p].2.1),.string ((cl k)[p].2.2)],.bool true])/\Below w.heap.size w Z):=aa (fun w k N P=>by
  have Q:Below W.heap.size W w:=by
   rcases P with P|P
   ·exact aC q P
   exact q.trans (P.mono (xn A))
  have h2:=h.later Q;obtain⟨g',c',e,_,_,k1,k2⟩:=h2.ptr (L▸N);rw[G]at e;cases e;have s:=hp k (L▸N);refine⟨k2,k1,s,?_⟩;have E:=h2.col k (L▸N);rw[H]at E;exact CG E p s)
 have HL:=aa (ab hp q);rw[L]at M z hp a0 c4 O hc ⊢;rw[A]at M z;have HM:=aa (ab A L);have R:(rowOf cl n p).length=n:=bV _ _ _;have S:=aa (ab z R);unfold maxLen at a1;clear h hf hx z o G H A L hp R q;go_enter func191,ntmps191;go_wp2_with (go_at_call 63;refine ha.mono ?_;rintro e w2⟨rfl,Q⟩;subst w2);go_loopg [30] (n+1) (fun gh jv w=>∃(j:Nat) (X:List T3),jv=.int .i64 (j:Int)/\j<=n/\n+1<=j+gh/\X.length=n/\X.take j=(rowOf cl n p).take j/\ac w m 32 3 (.slice (some ⟨m,0,none⟩) n n) n (cells3 X)/\Below m F w)
 case atStart=>exact⟨0,List.replicate n z3,rfl,zj _,by omega,by simp,rfl,S.1,zg _ _⟩
 obtain⟨j,X,rfl,hj,hg,hX,B,U,V⟩:=hrel;by_cases b:j<n
 ·obtain⟨d0,d1,s,d⟩:=HX.out wr j b (.inr V);have Y:j<X.length:=by omega
  have u:(X.set j (cl j)[p]).take (j+1)=(rowOf cl n p).take (j+1):=by
   have e1:(rowOf cl n p)[j]'(by rw[bV];exact b)=(cl j)[p]:=by
    have:=cC cl (p:=p) b
    rw[z6 (by rw[bV];exact b),z6 s]at this;simpa using this
   rw[yi (by simpa using Y),yi (by rw[bV];exact b),List.take_set,List.set_eq_of_length_le (by simp;omega),B,List.getElem_set_self,e1]
  obtain⟨y,hy⟩:=ae ((cl j)[p]);rw[hy]at d u;obtain⟨yk,yn,ys⟩:=y;simp only at d;have r:=aa (ab U (ab V (ab hX u)));have a5:(j:Int)<(n:Int):=(by omega);have a3:=(U.lt m rfl).2;clear U V hX B u hy Y;go_wp2_with (go_at_call 84;refine d.mono ?_;rintro e w3⟨rfl,I⟩;have a:=r.1.later I;obtain⟨q0,q1,q2⟩:=cQ X j (by rw[r.2.2.1];exact b);have v0:=a.cell q0;have v1:=a.cell q1;have v2:=a.cell q2;have f0:=a.frozenAt (j*3);have f1:=a.frozenAt (j*3+1);have f2:=a.frozenAt (j*3+2);have a6:=(a.lt m rfl).2;have H3:=aa (ab a I);clear a I q0 q1 q2);have J:=xL H3.1 r.2.2.1 j b yk yn ys
  have v:Below m F (((w3.setCell ⟨m,j*3,none⟩ (.int .i64 yk)).setCell ⟨m,j*3+1,none⟩ (.int .i64 yn)).setCell ⟨m,j*3+2,none⟩ (.string ys)):=
   (((r.2.1.trans (H3.2.mono (by omega))).setCell (p:=⟨m,j*3,none⟩) (zo _) _).setCell (p:=⟨m,j*3+1,none⟩) (zo _) _).setCell (p:=⟨m,j*3+2,none⟩) (zo _) _
  generalize ((w3.setCell _ _).setCell _ _).setCell _ _=w4 at J v ⊢;have H4:=aa (ab J.1 v);clear J v;go_wp2_with fail;go_roundg (n-j)
  case measure=>omega
  exact⟨j+1,X.set j (yk,yn,ys),by go_num,by omega,by omega,by rw[vp];exact r.2.2.1,r.2.2.2,H4.1,H4.2⟩
 obtain rfl:j=n:=(by omega);have a2:X=rowOf cl j p:=(by rw[<-yu (l:=X) (xn hX),B,yu (xn S.2)]);subst a2;have HF:=aa (ab U V);clear U V hX B;go_wp2_with fail;go_ret2;rw[HM.1];exact⟨m,j,rfl,zo _,HF.1,(HM.1▸HL.2).trans HF.2⟩
theorem GN(h:ec W tb t next i lab){x:Int}(hx:lg x){y:ByteArray}(hf:i.f x=none∨fx t.cols y=-1):Calls prog 45 #[.pointer (some ⟨tb,0,none⟩),.int .i64 x,.string y] W fun e A=>e=.returned (.tuple #[.agg #[.int .i64 0,.int .i64 0,.string (⟨#[]⟩)],.bool false])/\Below W.heap.size W A:=by
 have m:=aD W (.cells #[.int .i64 0,.int .i64 0,.string ⟨#[]⟩] 32);have r:=z7 W (.cells #[.int .i64 0,.int .i64 0,.string ⟨#[]⟩] 32);have n:=h.later m;have g:=eL n hx;have j:=fB n y;have k:=aa (ab m r);clear m r h n;cases b:i.f x with
 | none =>
  rw[b]at g;clear j b hf;go_enter func45,ntmps45;go_wp2_with (go_at_call 63;refine g.mono ?_;rintro e o⟨rfl,q⟩;subst o);refine y8 (v:=.tuple #[.agg #[.int .i64 0,.int .i64 0,.string (⟨#[]⟩)],.bool false]) (by simp[results,results45,go_sem]) rfl ?_;exact⟨rfl,by first|exact k.1|exact((k.1.setCell (zo _) _).setCell (zo _) _).setCell (zo _) _⟩
 | some p =>
  have s:fx t.cols y=-1:=hf.resolve_left (by rw[b];simp);rw[b]at g;rw[s]at j;simp only[Option.getD_some,Option.isSome_some]at g;have u:decide (0<=(-1:Int))=false:=(by decide);rw[u]at j;clear b hf s u;generalize ((p:Nat):Int)=pp at g;go_enter func45,ntmps45
  go_wp2_with (first|(go_at_call 63;refine g.mono ?_;rintro e o⟨rfl,q⟩;subst o)|(go_at_call 83;refine j.mono ?_;rintro e w⟨rfl,d⟩;have a:=aE d k.2;have G:=aA a 0;have H:=aA a 1;have I:=aA a 2;have J:=fun i=>zq w W.heap.size i _ _ a;have L:=aB a;have z:=aa (ab (aC k.1 d) a);clear a d))
  have l:=gD z.2 (.int .i64 0) (.int .i64 0) (.string ⟨#[]⟩);have c:=((z.1.setCell (p:=⟨W.heap.size,0,none⟩) (zo _) (.int .i64 0)).setCell (p:=⟨W.heap.size,1,none⟩) (zo _) (.int .i64 0)).setCell (p:=⟨W.heap.size,2,none⟩) (zo _) (.string ⟨#[]⟩);generalize ((w.setCell _ _).setCell _ _).setCell _ _=wz at l c ⊢;have B:=aA l 0;have E:=aA l 1;have F:=aA l 2;refine y8 (v:=.tuple #[.agg #[.int .i64 0,.int .i64 0,.string (⟨#[]⟩)],.bool false]) (by simp[results,results45,go_sem,B,E,F]) rfl ?_;exact⟨rfl,c⟩
theorem FR(h:ec W tb t next i lab){x:Int}(hx:lg x){y:ByteArray}{p k:Nat}(hf:i.f x=some p)(hk:k<t.cols.length)(hy:fx t.cols y=(k:Int))(hp:p<(i.cl k).length){u:T3}(hu:(i.cl k)[p]?=some u):Calls prog 45 #[.pointer (some ⟨tb,0,none⟩),.int .i64 x,.string y] W fun e z=>e=.returned (.tuple #[.agg #[.int .i64 u.1,.int .i64 u.2.1,.string u.2.2],.bool true])/\Below W.heap.size W z:=by
 have A:=aD W (.cells #[.int .i64 0,.int .i64 0,.string ⟨#[]⟩] 32);have o:=z7 W (.cells #[.int .i64 0,.int .i64 0,.string ⟨#[]⟩] 32);have B:=h.later A;have E:=eL B hx;have q:=fB B y;rw[hf]at E;rw[hy]at q;simp only[Option.getD_some,Option.isSome_some]at E;have L:decide (0<=(k:Int))=true:=(by simp);rw[L]at q;obtain⟨g,c,j,P,Q,_⟩:=h.ptr hk;obtain⟨n,F⟩:=ae t.cols.length
 have G:Hid (∀w,Below W.heap.size W w->w.cell? ⟨tb,4,none⟩=some (.slice (some ⟨g,0,none⟩) n c)/\w.cell? ⟨g,k,none⟩=some (.pointer (some ⟨i.cb k,0,none⟩))/\tb<w.heap.size/\g<w.heap.size/\Calls prog 84 #[.pointer (some ⟨i.cb k,0,none⟩),.int .i64 (p:Int)] w fun e z=>e=.returned (.tuple #[.agg #[.int .i64 u.1,.int .i64 u.2.1,.string u.2.2],.bool true])/\Below w.heap.size w z):=aa (fun w R=>by
  have r:=h.later R;obtain⟨g',c',e,_,_,S,U⟩:=r.ptr hk;rw[j]at e;cases e;have b:=CG (r.col k hk) p hp;rw[z6 hp]at hu;rw[Option.some.inj hu]at b;exact⟨by rw[<-F,<-j];exact r.cells.2.2.2.2.1,U,r.tlt,S,b⟩)
 rw[F]at P hk;have V:(k:Int)<(n:Int):=(by omega);have H:=aa (ab A o);unfold maxLen at Q;obtain⟨I,un,J⟩:=u;clear h B A o hf hy L j F hu hp;generalize i.cb k=cb at G;simp only at G ⊢;go_enter func45,ntmps45
 go_wp2_with (first|(go_at_call 63;refine E.mono ?_;rintro e X⟨rfl,Y⟩;subst X)|(go_at_call 83;refine q.mono ?_;rintro e Z⟨rfl,l⟩;obtain⟨x4,xk,xt,xg,xw⟩:=G.out Z (aC H.1 l);have M:=aa l;clear l q)|(go_at_call 84;refine xw.mono ?_;rintro e N⟨rfl,m⟩;have a:=aE m (aE M.out H.2);have z0:=aA a 0;have z1:=aA a 1;have z2:=aA a 2;have zf:=fun i=>zq N W.heap.size i _ _ a;have zl:=aB a;have O:=aa (ab (aC (aC H.1 M.out) m) a);clear a m))
 have s:=gD O.2 (.int .i64 I) (.int .i64 un) (.string J);have d:=((O.1.setCell (p:=⟨W.heap.size,0,none⟩) (zo _) (.int .i64 I)).setCell (p:=⟨W.heap.size,1,none⟩) (zo _) (.int .i64 un)).setCell (p:=⟨W.heap.size,2,none⟩) (zo _) (.string J);generalize ((N.setCell _ _).setCell _ _).setCell _ _=wz at s d ⊢;have y0:=aA s 0;have y1:=aA s 1;have y2:=aA s 2;refine y8 (v:=.tuple #[.agg #[.int .i64 I,.int .i64 un,.string J],.bool true]) (by simp[results,results45,go_sem,y0,y1,y2]) rfl ?_;exact⟨rfl,d⟩
end
def fk(S:Nat->Prop)(W:World)(v:Value)(l:List T3):Prop:=∃p cap,v=.slice p l.length cap/\l.length<=cap/\cap<=maxLen/\(0<l.length->∃b off,p=some ⟨b,off,none⟩/\b<W.heap.size/\S b/\∀j u,(cells3 l)[j]?=some u->W.cell? ⟨b,off+j,none⟩=some u)
section
variable{S T1:Nat->Prop}{W W':World}{v:Value}{l:List T3}
theorem fk.tn(h:fk S W v l)(hk:Tn T1 W W')(hs:∀b,S b->¬ T1 b):fk S W' v l:=by
 obtain⟨p,a,f,g,i,k⟩:=h;refine⟨p,a,f,g,i,fun m=>?_⟩;obtain⟨b,c,n,d,e,o⟩:=k m;exact⟨b,c,n,z9 d hk.size,e,fun j u q=>(ze (w:=W) (hk.chg.block b d (hs b e))).trans (o j u q)⟩
theorem fk.later(h:fk S W v l)(hb:Below W.heap.size W W'):fk S W' v l:=h.tn (T1:=fun _=>False) (Tn.of_below hb) (fun _ _ h=>h)
theorem fk.mono(h:fk S W v l)(hs:∀b,b<W.heap.size->S b->T1 b):fk T1 W v l:=by
 obtain⟨p,a,e,f,g,i⟩:=h;refine⟨p,a,e,f,g,fun j=>?_⟩;obtain⟨b,c,k,d,m,n⟩:=i j;exact⟨b,c,k,d,hs b d m,n⟩
theorem fk.slice(h:fk S W v l):∃p a,v=.slice p l.length a/\l.length<=a/\a<=maxLen:=by
 obtain⟨p,a,b,c,d,e⟩:=h;exact⟨p,a,b,c,d⟩
theorem fk.val{p:Option Addr}{n cap j:Nat}(h:fk S W (.slice p n cap) l)(hj:j<l.length):∃b a,p=some ⟨b,a,none⟩/\b<W.heap.size/\W.cell? ⟨b,a+j*3,none⟩=some (.int .i64 l[j].1)/\W.cell? ⟨b,a+j*3+1,none⟩=some (.int .i64 l[j].2.1)/\W.cell? ⟨b,a+j*3+2,none⟩=some (.string l[j].2.2):=by
 obtain⟨k,d,e,m,o,f⟩:=h;cases e;obtain⟨b,a,g,i,q,c⟩:=f (by omega);obtain⟨c0,c1,c2⟩:=cQ l j hj;exact⟨b,a,g,i,c _ _ c0,c _ _ c1,c _ _ c2⟩
theorem fk.my{base:Nat}{n:Nat}(h:ac W base 32 3 v n (cells3 l))(hn:l.length=n):fk (fun b=>v.ownBlock=some b) W v l:=by
 subst hn;rcases h.2 with ⟨rfl,c⟩ | ⟨g,a,d,rfl,_,e,f,i,_,_⟩
 ·exact⟨none,0,by rw[c],by omega,zj _,fun h=>by omega⟩
 exact⟨_,a,rfl,f,i,fun _=>⟨g,0,rfl,aB e,rfl,fun j u k=>by rw[xj];exact h.cell k⟩⟩
end
def ns{α:Type}(f:Nat->α)(k:Nat)(x:α):Nat->α:=fun j=>if j=k then x else f j
theorem bJ{α:Type}(f:Nat->α)(k:Nat)(x:α):ns f k x k=x:=zw rfl
theorem aW{α:Type}(f:Nat->α){k j:Nat}(x:α)(h:j≠k):ns f k x j=f j:=zu h
section
variable{W W':World}{tb next:Nat}{t:T}{i:In}{lab lab':Nat->Nat}
theorem ug.relab(h:ug W tb t next i lab)(he:∀b,lab b≠0->lab' b=lab b)(hlt:∀b,lab' b≠0->b<W.heap.size):ug W tb t next i lab':=by
 have e:∀b q,lab b=q->q≠0->lab' b=q:=(fun b q d f=>by rw[he b (by rw[d];exact f),d]);exact⟨h.form,h.cols,h.col,h.place,h.pm,h.free,h.gone,h.late,e _ _ h.l1 (by decide),fun b a=>e _ _ (h.l2 b a) (by decide),fun b a=>e _ _ (h.l3 b a) (by decide),fun b a=>e _ _ (h.l4 b a) (by decide),fun k c=>e _ _ (h.l6 k c) (by omega),fun k c b a=>e _ _ (h.l7 k c b a) (by omega),hlt⟩
def gu(lab:Nat->Nat)(o:Option Nat)(q:Nat):Nat->Nat:=fun b=>if o=some b then q else lab b
theorem fP{o:Option Nat}{q:Nat}(h:∀b,o=some b->lab b=q∨W.heap.size<=b):Ext W lab (gu lab o q):=fun b c=>by
 unfold gu;split
 ·rename_i e;rcases h b e with a|a
  ·exact a.symm
  ·omega
 ·rfl
theorem iK{o:Option Nat}{q:Nat}(h:∀b,lab b≠0->b<W.heap.size)(he:Ext W lab (gu lab o q)):∀b,lab b≠0->gu lab o q b=lab b:=fun b a=>he b (h b a)
theorem iM{o:Option Nat}{q:Nat}(h:∀b,lab b≠0->b<W.heap.size)(hs:W.heap.size<=W'.heap.size)(ho:∀b,o=some b->b<W'.heap.size):∀b,gu lab o q b≠0->b<W'.heap.size:=fun b a=>by
 unfold gu at a;split at a
 ·rename_i e;exact ho b e
 ·exact z9 (h b a) hs
theorem fQ{o:Option Nat}{q:Nat}:∀b,o=some b->gu lab o q b=q:=fun _ a=>zw a
theorem ec.setcol(h:ec W tb t next i lab){k:Nat}(hk:k<t.cols.length){l':List T3}{v':Value}(hcol:Col (i.cb k) t.cols[k].kd l' v' W')(hchg:Chg (fun b=>b=i.cb k∨(i.v k).ownBlock=some b) W W')(hv:∀q,v'.ownBlock=some q->(i.v k).ownBlock=some q∨W.heap.size<=q):∃lab',ec W' tb t next { i with cl:=ns i.cl k l',v:=ns i.v k v' } lab'/\Ext W lab lab'/\Tn (fun b=>lab b≠0) W W':=by
 have p:=(h.col k hk).ty
 have d:Tn (fun b=>b=i.cb k∨(i.v k).ownBlock=some b) W W':=Tn.bt hchg (fun b _ a=>.inl (by
  rcases a with rfl|a
  ·exact p.1
  exact p.2 b a))
 have f:∀b,(b=i.cb k∨(i.v k).ownBlock=some b)->lab b=6+2*k∨lab b=7+2*k:=fun b a=>by
  rcases a with rfl|a
  ·exact .inl (h.l6 k hk)
  exact .inr (h.l7 k hk b a)
 have m:∀b q,lab b=q->q≠6+2*k->q≠7+2*k->¬ (b=i.cb k∨(i.v k).ownBlock=some b):=fun b q e g r a=>by
  rcases f b a with s|s
  ·exact g (by rw[<-e,s])
  exact r (by rw[<-e,s])
 have c:∀b q,lab b=q->q≠0->q≠6+2*k->q≠7+2*k->W'.heap[b]?=W.heap[b]?:=(fun b q e w g r=>hchg.block b (h.lt b (by rw[e];exact w)) (m b q e g r));have l:Ext W lab (gu lab v'.ownBlock (7+2*k)):=fP (fun b a=>(hv b a).imp (h.l7 k hk b) id);have u:=iK h.lt l;have e:∀b q,lab b=q->q≠0->gu lab v'.ownBlock (7+2*k) b=q:=fun b q g r=>by rw[u b (by rw[g];exact r),g]
 refine⟨gu lab v'.ownBlock (7+2*k),⟨⟨h.form.tn d,h.cols.tn d rfl,fun j n=>?_,h.place.of (fun b a=>c b 2 (h.l2 b a) (by decide) (by omega) (by omega)),h.pm,h.free.of (fun b a=>c b 3 (h.l3 b a) (by decide) (by omega) (by omega)),h.gone.tn d,
  h.late.of (fun b a=>c b 4 (h.l4 b a) (by decide) (by omega) (by omega)),e _ _ h.l1 (by decide),fun b a=>e _ _ (h.l2 b a) (by decide),fun b a=>e _ _ (h.l3 b a) (by decide),fun b a=>e _ _ (h.l4 b a) (by decide),fun j n=>e _ _ (h.l6 j n) (by omega),fun j n b a=>?_,iM h.lt hchg.size hcol.rlt⟩,(c tb 1 h.l1 (by decide) (by omega) (by omega)).trans h.box⟩,l,d.mono (fun b _ a=>by rcases f b a with g|g <;> omega)⟩
 ·show Col (i.cb j) t.cols[j].kd (ns i.cl k l' j) (ns i.v k v' j) W';by_cases o:j=k
  ·subst o;rw[bJ,bJ];exact hcol
  rw[aW _ _ o,aW _ _ o];exact(h.col j n).tn d (m _ _ (h.l6 j n) (by omega) (by omega)) (fun b a=>m _ _ (h.l7 j n b a) (by omega) (by omega))
 have a:(ns i.v k v' j).ownBlock=some b:=a;by_cases o:j=k
 ·subst o;rw[bJ]at a;exact fQ b a
 rw[aW _ _ o]at a;exact e _ _ (h.l7 j n b a) (by omega)
theorem ec.setmap(h:ec W tb t next i lab)(hn:i.np=0)(hf:∀x,i.f x=none):∃lab',ec ((W.alloc (.map #[] 0)).setCell ⟨tb,5,none⟩ (.map (some W.heap.size))) tb t next { i with pv:=.map (some W.heap.size),m:=0 } lab'/\Ext W lab lab'/\Tn (fun b=>lab b≠0) W ((W.alloc (.map #[] 0)).setCell ⟨tb,5,none⟩ (.map (some W.heap.size))):=by
 have a:=aD W (.map #[] 0);have g:=h.later a;have e:=Tn.own g 5 (.map (some W.heap.size));have d:Ext W lab (gu lab (some W.heap.size) 2):=fP (fun b a=>.inr (by cases a;exact zo _));have j:=iK h.lt d;have c:ug ((W.alloc (.map #[] 0)).setCell ⟨tb,5,none⟩ (.map (some W.heap.size))) tb t next i (gu lab (some W.heap.size) 2):=(g.toug.tn e (fun b a=>.inr a)).relab j (iM h.lt (by simp[World.setCell]) (fun b a=>by cases a;simp[World.setCell]));have k:W.heap.size≠tb:=(by have:=h.tlt;omega);refine⟨_,⟨⟨c.form,c.cols,c.col,?_,zj _,c.free,c.gone,c.late,c.l1,fun b a=>?_,c.l3,c.l4,c.l6,c.l7,c.lt⟩,y7 _ tb 5 _ _ _ g.box⟩,d,(Tn.of_below a).trans e (S:=fun _=>False) (fun _ _ h=>h.elim) (fun b _ a=>by show lab b≠0;rw[show lab b=1 from a];decide)⟩
 ·refine .inr ⟨W.heap.size,rfl,?_⟩;show Mi _ W.heap.size i.f i.np 0;rw[hn,show i.f=fun _=>none from funext hf];exact(Mi.made W).of (y9 _ ⟨tb,5,none⟩ _ _ k)
 cases a;exact fQ _ rfl
theorem ec.setfree(h:ec W tb t next i lab){g n c:Nat}{fr:List Nat}{p:Nat}(hfv:i.fv=.slice (some ⟨g,0,none⟩) n c)(hfr:i.free=fr++[p])(hn:fr.length+1=n):ec (W.setCell ⟨tb,6,none⟩ (.slice (some ⟨g,0,none⟩) fr.length c)) tb t next { i with fv:=.slice (some ⟨g,0,none⟩) fr.length c,free:=fr } lab/\Tn (fun b=>lab b≠0) W (W.setCell ⟨tb,6,none⟩ (.slice (some ⟨g,0,none⟩) fr.length c)):=by
 have e:=Tn.own h 6 (.slice (some ⟨g,0,none⟩) fr.length c);have a:=h.toug.tn e (fun b f=>.inr f);have k:=a.free;rw[hfv,hfr]at k;refine⟨⟨⟨a.form,a.cols,a.col,a.place,a.pm,?_,a.gone,a.late,a.l1,a.l2,fun b f=>a.l3 b (by rw[hfv];exact f),a.l4,a.l6,a.l7,a.lt⟩,y7 _ tb 6 _ _ _ h.box⟩,e.mono (fun b _ f=>by show lab b≠0;rw[show lab b=1 from f];decide)⟩;have j:(fr++[p]).length=n:=(by simp;exact hn);rw[j]at k;obtain⟨d,r,l,s,m,o,q⟩:=k.form;refine⟨by simp,.inr ⟨g,c,d,rfl,zj _,l,by show fr.length<=c;omega,m,o,?_⟩⟩;show d.toList.take (fr.length*1)=fr.map ivn;have:d.toList.take (fr.length*1)=(d.toList.take (n*1)).take (fr.length*1):=(by rw[List.take_take];congr 1 <;> omega);rw[this,q]
 simp
theorem ec.setput(h:ec W tb t next i lab){b:Nat}(hpv:i.pv=.map (some b)){x:Int}{p:Nat}(hx:lg x)(hp:p<=1000000)(hf:i.f x=none)(v:i.m+1<=next)(hn:next<=1000000):∃l,(Instr.mapUpdate 103 (.map (some b)) (.int .i64 x) (.int .i64 (p:Int))).run prog W=.ok () l/\ec l tb t next { i with f:=sy i.f x p,np:=i.np+1,m:=i.m+1 } lab/\Tn (fun b=>lab b≠0) W l:=by
 have o:Mi W b i.f i.np i.m:=by
  rcases h.place with ⟨e,_⟩ | ⟨J,e,v⟩
  ·rw[hpv]at e;cases e
  rw[hpv]at e;cases e;exact v
 obtain⟨z,A,r⟩:=o.isMap;obtain⟨l,s,w,B⟩:=o.put hx hp hf (by omega);have u:lab b=2:=h.l2 b (by rw[hpv];rfl);have a:Tn (fun c=>c=b) W l:=Tn.bt ((Chg.refl (fun c=>c=b) W).grown B (fun k E _=>by cases E;rfl)) (fun c _ g=>.inr ⟨z,A,by rw[g];exact r⟩);have n:∀c q,lab c=q->q≠2->c≠b:=(fun c q e F G=>F (by rw[<-e,G];exact u));have d:∀c q,lab c=q->q≠0->q≠2->l.heap[c]?=W.heap[c]?:=fun c q e H I=>a.chg.block c (h.lt c (by rw[e];exact H)) (n c q e I)
 refine⟨l,s,⟨⟨h.form.tn a,h.cols.tn a rfl,fun j y=>(h.col j y).tn a (n _ _ (h.l6 j y) (by omega)) (fun c g=>n _ _ (h.l7 j y c g) (by omega)),.inr ⟨b,hpv,w⟩,v,h.free.of (fun c g=>d c 3 (h.l3 c g) (by decide) (by decide)),h.gone.tn a,
  h.late.of (fun c g=>d c 4 (h.l4 c g) (by decide) (by decide)),h.l1,h.l2,h.l3,h.l4,h.l6,h.l7,fun c g=>z9 (h.lt c g) a.size⟩,(d tb 1 h.l1 (by decide) (by decide)).trans h.box⟩,a.mono (fun c _ g=>by show lab c≠0;rw[show c=b from g,u];decide)⟩
end
