import Derived.Test.YtkchgbjoeggdbaaGreatZn10
import Derived.Test.YtkchgbjoeggdbaaGreatZn8
import Derived.Test.YtkchgbjoeggdbaaGreatZn2
set_option maxHeartbeats 2000000
set_option maxRecDepth 100000
namespace Go.Proofs.YtkchgbjoeggdbaaGreat.Co.S
open Go.Proofs.Tryz
open Go Go.RowKit Go.Shelf Go.Proofs Go.Proofs.YtkchgbjoeggdbaaGreat Go.Proofs.YtkchgbjoeggdbaaGreat.Co
abbrev T3:=Int×Int×ByteArray
def cells3(l:List T3):List Value:=l.flatMap fun x=>[.int .i64 x.1,.int .i64 x.2.1,.string x.2.2]
theorem dQ(xs ys:List T3):cells3 (xs++ys)=cells3 xs++cells3 ys:=by simp[cells3]
theorem lM(xs:List T3):(cells3 xs).length=xs.length*3:=by
 induction xs with
 | nil=>rfl
 | cons x r ih =>
  have e:cells3 (x::r)=[.int .i64 x.1,.int .i64 x.2.1,.string x.2.2]++cells3 r:=(by simp[cells3]);rw[e,y6,ih];simp;omega
theorem cQ(xs:List T3)(i:Nat)(h:i<xs.length):(cells3 xs)[i*3]?=some (.int .i64 xs[i].1)/\(cells3 xs)[i*3+1]?=some (.int .i64 xs[i].2.1)/\(cells3 xs)[i*3+2]?=some (.string xs[i].2.2):=by
 induction xs generalizing i with
 | nil=>simp at h
 | cons x r ih =>
  cases i with
  | zero=>simp[cells3]
  | succ i =>
   have:=ih i (by simpa using h)
   have e:cells3 (x::r)=[.int .i64 x.1,.int .i64 x.2.1,.string x.2.2]++cells3 r:=(by simp[cells3]);rw[e];rw[show(i+1)*3=3+i*3 by omega,show 3+i*3+1=3+(i*3+1)by omega,show 3+i*3+2=3+(i*3+2)by omega];rw[ya (by simp),ya (by simp),ya (by simp)];simpa using this
theorem uT(xs:List T3)(i:Nat)(h:i<xs.length)(x:T3):cells3 (xs.set i x)=(((cells3 xs).set (i*3) (.int .i64 x.1)).set (i*3+1) (.int .i64 x.2.1)).set (i*3+2) (.string x.2.2):=by
 induction xs generalizing i with
 | nil=>simp at h
 | cons y r ih =>
  have e:∀(y:T3) r,cells3 (y::r)=.int .i64 y.1::.int .i64 y.2.1::.string y.2.2::cells3 r:=(fun y r=>by simp[cells3]);cases i with
  | zero=>simp[e]
  | succ i =>
   have:=ih i (by simpa using h)
   rw[List.set_cons_succ,e,e,this,show(i+1)*3=i*3+1+1+1 by omega];simp only[ed]
def wd(s:ByteArray):K 12:=if h:s.size<=12 then⟨s,h⟩else⟨⟨#[]⟩,by decide⟩
theorem pQ{s:ByteArray}(h:s.size<=12):(wd s).1=s:=by unfold wd;rw[dif_pos h]
theorem DH{s t:ByteArray}(h:s.size<=12)(k:t.size<=12)(e:wd s=wd t):s=t:=by rw[<-pQ h,<-pQ k,e]
structure Cm (cb:Nat) (kind:Int) (v:Value) (n:Int) (L:List (K 12×Int)) (W0 W:World):Prop where
 c0:W.cell? ⟨cb,0,none⟩=some (.int .i64 kind)
 c1:W.cell? ⟨cb,1,none⟩=some v
 dm:Dm W0 cb L W
 c4:W.cell? ⟨cb,4,none⟩=some (.int .i64 n)
section
variable{cb:Nat}{kind n:Int}{v:Value}{L:List (K 12×Int)}{W0 W W':World}
theorem Dm.fz{mb:Nat}(h:Dm W0 mb L W)(j:Nat):W.frozen? ⟨mb,j,none⟩=false:=by obtain⟨cv,a,_⟩:=h.mp;exact a.fz j
theorem Cm.lt(h:Cm cb kind v n L W0 W):cb<W.heap.size:=h.dm.lt
theorem Cm.later(h:Cm cb kind v n L W0 W)(hb:Below W.heap.size W W'):Cm cb kind v n L W0 W':=by
 have e:=hb.block cb h.lt;exact⟨(ze (w:=W) e).trans h.c0,(ze (w:=W) e).trans h.c1,h.dm.later hb,(ze (w:=W) e).trans h.c4⟩
theorem Dm.set{mb:Nat}(h:Dm W0 mb L W)(j:Nat)(h2:j≠2)(h3:j≠3)(u:Value):Dm W0 mb L (W.setCell ⟨mb,j,none⟩ u):=by
 obtain⟨cv,m,q⟩:=h.mp;obtain⟨t,p,r1,a,c⟩:=m.rt;refine⟨⟨cv,⟨m.dm,?_,⟨t,p,?_,Tr.of (fun b d _=>ua _ _ _ b (by intro e;simp at e;omega)) a,c⟩,fun i=>by rw[ub];exact m.fz i,m.srt,m.bel.setCell (zj _) _,m.ty.set j u⟩,q⟩,h.pos,h.len⟩
 ·rw[xm _ _ _ _ (fun e=>h2 (by cases e;rfl))];exact m.c0
 rw[xm _ _ _ _ (fun e=>h3 (by cases e;rfl))];exact r1
theorem Cm.mn(h:Cm cb kind v n L W0 W)(k:Int):Cm cb kind v k L W0 (W.setCell ⟨cb,4,none⟩ (.int .i64 k)):=
 ⟨by rw[xm _ _ _ _ (by simp)];exact h.c0,by rw[xm _ _ _ _ (by simp)];exact h.c1,h.dm.set 4 (by decide) (by decide) _,wi _ _ _ h.c4⟩
theorem Cm.set1(h:Cm cb kind v n L W0 W)(u:Value):Cm cb kind u n L W0 (W.setCell ⟨cb,1,none⟩ u):=
 ⟨by rw[xm _ _ _ _ (by simp)];exact h.c0,wi _ _ _ h.c1,h.dm.set 1 (by decide) (by decide) _,by rw[xm _ _ _ _ (by simp)];exact h.c4⟩
theorem Cm.map{L':List (K 12×Int)}(h:Cm cb kind v n L W0 W)(hd:Dm W0 cb L' W')(hc:Chm cb W W'):Cm cb kind v n L' W0 W':=
 ⟨(hc.keep 0 (by decide) (by decide)).trans h.c0,(hc.keep 1 (by decide) (by decide)).trans h.c1,hd,(hc.keep 4 (by decide) (by decide)).trans h.c4⟩
theorem Cm.other{row:Option Nat}(h:Cm cb kind v n L W0 W)(hg:W.grownBy W' row)(hr:∀k,row=some k->k≠cb/\Ty W k):Cm cb kind v n L W0 W':=by
 obtain⟨cv,m,q⟩:=h.dm.mp;have e:W'.heap[cb]?=W.heap[cb]?:=hg.block cb h.lt (fun x=>(hr cb x.symm).1 rfl);obtain⟨t,p,r1,d,f⟩:=m.rt
 refine⟨(ze (w:=W) e).trans h.c0,(ze (w:=W) e).trans h.c1,⟨⟨cv,⟨m.dm,(ze (w:=W) e).trans m.c0,⟨t,p,(ze (w:=W) e).trans r1,Tr.lw (fun b cs a=>hg.block b (aB a) (fun x=>?_)) d,f⟩,fun j=>(wq (w:=W) e).trans (m.fz j),m.srt,
  m.bel.trans ⟨hg.os,hg.tape,hg.output,hg.size,fun k g=>absurd g (yh _)⟩,m.ty.of e⟩,q⟩,h.dm.pos,h.dm.len⟩,(ze (w:=W) e).trans h.c4⟩
 obtain⟨_,i,ty,c,l⟩:=hr b x.symm;rw[a]at c;cases c;exact absurd l (by decide)
theorem rG{m:Nat}{xs:List Value}{base:Nat}(h:Cm cb kind v n L W0 W)(hr:ac W base 32 3 v m xs):Calls prog 115 #[.pointer (some ⟨cb,0,none⟩)] W fun e a=>e=.returned (.int .i64 (m:Int))/\a=W:=by
 have c1:=h.c1;obtain⟨p,b,rfl,c,_⟩:=hr.isslice;clear h hr;go_enter func115,ntmps115
 go_wp2
 go_ret;exact⟨rfl,rfl⟩
theorem zD(h:Cm cb kind v n L W0 W):Calls prog 205 #[.pointer (some ⟨cb,0,none⟩)] W fun e a=>e=.returned (.int .i64 (L.length:Int))/\a=W:=by
 have b:=GU h.dm;generalize L.length=z at b;go_enter func205,ntmps205;go_wp2_with (go_at_call 219;refine b.mono ?_;rintro e a⟨rfl,c⟩;subst a);go_ret;exact⟨rfl,rfl⟩
end
section
variable{cb:Nat}{kind n:Int}{v:Value}{L:List (K 12×Int)}{W0 W W':World}
def lq(kind:Int)(x:T3):Bool:=jh x.1 x.2.1 x.2.2.data.toList&&(decide (x.1=0) || decide (x.1=kind))
theorem jE(h:Cm cb kind v n L W0 W)(k n1:Int)(s:ByteArray)(hs:s.size<=maxLen):Calls prog 98 #[.pointer (some ⟨cb,0,none⟩),.agg #[.int .i64 k,.int .i64 n1,.string s]] W fun e m=>e=.returned (.bool (lq kind (k,n1,s)))/\Below W.heap.size W m:=by
 have c0:=h.c0;have q:=h.lt;have c:=z7 W (.cells #[.int .i64 k,.int .i64 n1,.string s] 32);have f:=aD W (.cells #[.int .i64 k,.int .i64 n1,.string s] 32);obtain⟨B,o⟩:=ae W.heap.size;have g:=(fun w=>yX k n1 s w hs);rw[o]at c f q ⊢
 have x:(fun w=>w.cell? ⟨B,0,none⟩=some (.int .i64 k)/\w.cell? ⟨B,1,none⟩=some (.int .i64 n1)/\w.cell? ⟨B,2,none⟩=some (.string s)/\w.cell? ⟨cb,0,none⟩=some (.int .i64 kind)/\Below B W w/\B<w.heap.size) (W.alloc (.cells #[.int .i64 k,.int .i64 n1,.string s] 32)).drew:=
  ⟨aA c 0,aA c 1,aA c 2,(ze (w:=W) (f.block cb q)).trans c0,f.drew,by show B<(W.alloc _).heap.size;simp;omega⟩
 have keep:∀(w b:World),(w.cell? ⟨B,0,none⟩=some (.int .i64 k)/\w.cell? ⟨B,1,none⟩=some (.int .i64 n1)/\w.cell? ⟨B,2,none⟩=some (.string s)/\w.cell? ⟨cb,0,none⟩=some (.int .i64 kind)/\Below B W w/\B<w.heap.size)->Below w.heap.size w b ->
   (b.cell? ⟨B,0,none⟩=some (.int .i64 k)/\b.cell? ⟨B,1,none⟩=some (.int .i64 n1)/\b.cell? ⟨B,2,none⟩=some (.string s)/\b.cell? ⟨cb,0,none⟩=some (.int .i64 kind)/\Below B W b/\B<b.heap.size):=fun w b⟨p,y,z,A,E,t⟩ i =>
  ⟨(ze (w:=w) (i.block B t)).trans p,(ze (w:=w) (i.block B t)).trans y,(ze (w:=w) (i.block B t)).trans z,(ze (w:=w) (i.block cb (by omega))).trans A,E.trans (i.mono (by omega)),by have:=i.size;omega⟩
 have u:=aa x;clear c f x;unfold lq;simp only;generalize jh k n1 s.data.toList=may at g ⊢;cases may with
 | false =>
  simp only[Bool.false_and];go_enter func98,ntmps98;go_wp2_with fail;refine Par.ag 21 [.pointer (some ⟨cb,0,none⟩),.bool true,.bool true,.agg #[.int .i64 k,.int .i64 n1,.string s],.bool false,.bool false,.bool false,undef,undef,undef,undef,undef,undef,undef,undef,undef,undef,undef,undef,.bool false,.bool false] (fun w=>w.cell? ⟨B,0,none⟩=some (.int .i64 k)/\w.cell? ⟨B,1,none⟩=some (.int .i64 n1)/\w.cell? ⟨B,2,none⟩=some (.string s)/\w.cell? ⟨cb,0,none⟩=some (.int .i64 kind)/\Below B W w/\B<w.heap.size) ?A1 ?hm1 ?hB1 ?hA1 u.out ?hop1 ?hT1
  case hm1=>kernel_rfl
  case hB1=>kernel_rfl
  case hA1 =>
   simp only[Par.am,Par.ai,Act.put,eh,ez,dz,eo,ew,ey,ed,ic,gy];rfl
  case hop1 =>
   simp only[en,zh,Par.ah,yo];and_intros<;>intro m a<;>have d:=aa a
   rotate_left 3
   ·obtain⟨b0,b1,b2,c0,j,o⟩:=a;simp only[Par.Gives];go_simp;all_goals exact d.out
   ·clear a;simp only[Par.Gives];go_simp;exact(g m).mono (fun e b⟨r,i⟩=>⟨r,keep _ _ d.out i⟩)
   rotate_left 16
   all_goals(clear a;simp only[Par.Gives];go_simp;all_goals exact d.out)
  case hT1 =>
   intro m a;simp only[ex,ye];obtain⟨_,_,_,_,j,_⟩:=a;go_wp2_with fail;go_ret;exact⟨rfl,j⟩
 | true =>
  by_cases p:k=0
  ·have e0:(k==0)=true:=(by simp[p]);have l:decide (k=0)=true:=yy p;rw[l];simp only[ve,Bool.true_or];clear l p;go_enter func98,ntmps98;go_wp2_with fail;refine Par.ag 21 [.pointer (some ⟨cb,0,none⟩),.bool true,.bool true,.agg #[.int .i64 k,.int .i64 n1,.string s],.bool true,.bool true,.bool true,.pointer (some ⟨B,0,none⟩),.int .i64 k,.bool true,.bool true,undef,undef,undef,undef,undef,undef,undef,.bool true,.bool true,.bool true] (fun w=>w.cell? ⟨B,0,none⟩=some (.int .i64 k)/\w.cell? ⟨B,1,none⟩=some (.int .i64 n1)/\w.cell? ⟨B,2,none⟩=some (.string s)/\w.cell? ⟨cb,0,none⟩=some (.int .i64 kind)/\Below B W w/\B<w.heap.size) ?A2 ?hm2 ?hB2 ?hA2 u.out ?hop2 ?hT2
   case hm2=>kernel_rfl
   case hB2=>kernel_rfl
   case hA2 =>
    simp only[Par.am,Par.ai,Act.put,eh,ez,dz,eo,ew,ey,ed,ic,gy];rfl
   case hop2 =>
    simp only[en,zh,Par.ah,yo];and_intros<;>intro m a<;>have d:=aa a
    rotate_left 3
    ·obtain⟨b0,b1,b2,c0,j,o⟩:=a;simp only[Par.Gives];go_simp;all_goals exact d.out
    ·clear a;simp only[Par.Gives];go_simp;exact(g m).mono (fun e b⟨r,i⟩=>⟨r,keep _ _ d.out i⟩)
    rotate_left 3
    ·obtain⟨b0,b1,b2,c0,j,o⟩:=a;simp only[Par.Gives];go_simp;all_goals exact d.out
    rotate_left 12
    all_goals(clear a;simp only[Par.Gives];go_simp;all_goals exact d.out)
   case hT2 =>
    intro m a;simp only[ex,ye];obtain⟨_,_,_,_,j,_⟩:=a;go_wp2_with fail;go_ret;exact⟨rfl,j⟩
  ·have e0:(k==0)=false:=(by simp[p]);have l:decide (k=0)=false:=yp p;rw[l];simp only[ve,Bool.false_or];have F:(k==kind)=decide (k=kind):=(by rw[wu];simp);generalize decide (k=kind)=ke at F ⊢;clear l p;go_enter func98,ntmps98;go_wp2_with fail;refine Par.ag 21 [.pointer (some ⟨cb,0,none⟩),.bool true,.bool true,.agg #[.int .i64 k,.int .i64 n1,.string s],.bool true,.bool true,.bool true,.pointer (some ⟨B,0,none⟩),.int .i64 k,.bool false,.bool false,.pointer (some ⟨B,0,none⟩),.int .i64 k,.pointer (some ⟨cb,0,none⟩),.pointer (some ⟨cb,0,none⟩),.pointer (some ⟨cb,0,none⟩),.int .i64 kind,.bool ke,.bool ke,.bool ke,.bool ke] (fun w=>w.cell? ⟨B,0,none⟩=some (.int .i64 k)/\w.cell? ⟨B,1,none⟩=some (.int .i64 n1)/\w.cell? ⟨B,2,none⟩=some (.string s)/\w.cell? ⟨cb,0,none⟩=some (.int .i64 kind)/\Below B W w/\B<w.heap.size) ?A3 ?hm3 ?hB3 ?hA3 u.out ?hop3 ?hT3
   case hm3=>kernel_rfl
   case hB3=>kernel_rfl
   case hA3 =>
    simp only[Par.am,Par.ai,Act.put,eh,ez,dz,eo,ew,ey,ed,ic,gy];rfl
   case hop3 =>
    simp only[en,zh,Par.ah,yo];and_intros<;>intro m a<;>have d:=aa a
    rotate_left 3
    ·obtain⟨b0,b1,b2,c0,j,o⟩:=a;simp only[Par.Gives];go_simp;all_goals exact d.out
    ·clear a;simp only[Par.Gives];go_simp;exact(g m).mono (fun e b⟨r,i⟩=>⟨r,keep _ _ d.out i⟩)
    rotate_left 3
    ·obtain⟨b0,b1,b2,c0,j,o⟩:=a;simp only[Par.Gives];go_simp;all_goals exact d.out
    rotate_left 3
    ·obtain⟨b0,b1,b2,c0,j,o⟩:=a;simp only[Par.Gives];go_simp;all_goals exact d.out
    rotate_left 3
    ·obtain⟨b0,b1,b2,c0,j,o⟩:=a;simp only[Par.Gives];go_simp;all_goals exact d.out
    rotate_left 4
    all_goals(clear a;simp only[Par.Gives];go_simp;all_goals exact d.out)
   case hT3 =>
    intro m a;simp only[ex,ye];obtain⟨_,_,_,_,j,_⟩:=a;go_wp2_with fail;go_ret;exact⟨rfl,j⟩
end
section
variable{cb:Nat}{kind n:Int}{v:Value}{L:List (K 12×Int)}{W0 W W':World}
theorem uU(h:Cm cb kind v n L W0 W)(n1:Int)(s:ByteArray)(hn:0<=n/\n<=1000000):Calls prog 100 #[.pointer (some ⟨cb,0,none⟩),.agg #[.int .i64 0,.int .i64 n1,.string s]] W fun e a=>e=.returned (.tuple #[])/\Cm cb kind v (n+1) L W0 a/\Chg (fun b=>b=cb) W a:=by
 have c:=h.lt;have c4:=h.c4;have fz:=h.dm.fz 4;have d:IntKind.i64.wrap (n+1)=n+1:=(by rw[IntKind.wrap_i64];omega);go_enter func100,ntmps100
 go_wp2
 go_end0
 exact⟨rfl,(h.mn _).later (aD _ _),((Chg.refl (fun b=>b=cb) W).setCell (fun _=>rfl) _).alloc _⟩
theorem pR(h:Cm cb kind v n L W0 W)(n1:Int)(s:ByteArray)(hn:1<=n/\n<=1000000):Calls prog 99 #[.pointer (some ⟨cb,0,none⟩),.agg #[.int .i64 0,.int .i64 n1,.string s]] W fun e a=>e=.returned (.tuple #[])/\Cm cb kind v (n-1) L W0 a/\Chg (fun b=>b=cb) W a:=by
 have c:=h.lt;have c4:=h.c4;have fz:=h.dm.fz 4;have d:IntKind.i64.wrap (n-1)=n-1:=(by rw[IntKind.wrap_i64];omega);go_enter func99,ntmps99
 go_wp2
 go_end0
 exact⟨rfl,(h.mn _).later (aD _ _),((Chg.refl (fun b=>b=cb) W).setCell (fun _=>rfl) _).alloc _⟩
theorem rH(h:Cm cb kind v n L W0 W)(n1:Int)(s:ByteArray)(k:Int)(hk0:k≠0)(hk2:k≠2):Calls prog 100 #[.pointer (some ⟨cb,0,none⟩),.agg #[.int .i64 k,.int .i64 n1,.string s]] W fun e a=>e=.returned (.tuple #[])/\Below W.heap.size W a:=by
 have b:=h.lt;have c4:=h.c4;have fz:=h.dm.fz 4;have e0:(k==0)=false:=(by simp[hk0]);have c:(k==2)=false:=(by simp[hk2]);go_enter func100,ntmps100
 go_wp2
 go_end0
 exact⟨rfl,aD W _⟩
theorem nS(h:Cm cb kind v n L W0 W)(n1:Int)(s:ByteArray)(k:Int)(hk0:k≠0)(hk2:k≠2):Calls prog 99 #[.pointer (some ⟨cb,0,none⟩),.agg #[.int .i64 k,.int .i64 n1,.string s]] W fun e a=>e=.returned (.tuple #[])/\Below W.heap.size W a:=by
 have b:=h.lt;have c4:=h.c4;have fz:=h.dm.fz 4;have e0:(k==0)=false:=(by simp[hk0]);have c:(k==2)=false:=(by simp[hk2]);go_enter func99,ntmps99
 go_wp2
 go_end0
 exact⟨rfl,aD W _⟩
theorem uV(h:Cm cb kind v n L W0 W)(n1:Int)(s:ByteArray)(hs:s.size<=12)(hl:L.length+1<=999999)(ht:tm (wd s) L+1<=1000000):Calls prog 100 #[.pointer (some ⟨cb,0,none⟩),.agg #[.int .i64 2,.int .i64 n1,.string s]] W fun e g=>e=.returned (.tuple #[])/\Cm cb kind v n (bn keyOf (wd s) (tm (wd s) L+1) L) W0 g/\Chg (fun b=>b=cb) W g:=by
 have k:=h.lt;have a:=z7 W (.cells #[.int .i64 2,.int .i64 n1,.string s] 32);have c:=aD W (.cells #[.int .i64 2,.int .i64 n1,.string s] 32);obtain⟨B,j⟩:=ae W.heap.size;have l:=pQ hs;rw[j]at a c k
 have o:=aa (show(fun w:World=>w.cell? ⟨B,2,none⟩=some (.string s)/\Below B W w/\B<w.heap.size) (W.alloc (.cells #[.int .i64 2,.int .i64 n1,.string s] 32)).drew from
  ⟨aA a 2,c.drew,by show B<(W.alloc _).heap.size;simp;omega⟩)
 have h:∀{y:World},Below B W y->Cm cb kind v n L W0 y:=(fun p=>h.later (j▸p));have d:=(fun(y:World) (hy:Below B W y)=>cM (wd s) (h hy).dm hl ht);simp only[l]at d;clear a c;go_enter func100,ntmps100;go_wp2_with fail;refine Par.ag 5 [.pointer (some ⟨cb,0,none⟩),.pointer (some ⟨cb,0,none⟩),.pointer (some ⟨cb,2,none⟩),.pointer (some ⟨B,2,none⟩),.string s] (fun w=>w.cell? ⟨B,2,none⟩=some (.string s)/\Below B W w/\B<w.heap.size) ?A1 ?hm1 ?hB1 ?hA1 o.out ?hop1 ?hT1
 case hm1=>kernel_rfl
 case hB1=>kernel_rfl
 case hA1 =>
  simp only[Par.am,Par.ai,Act.put,eh,ez,dz,eo,ew,ey,ed,ic,gy];rfl
 case hop1 =>
  simp only[en,zh,Par.ah,yo];and_intros<;>intro g i<;>have m:=aa i
  rotate_left 4
  ·obtain⟨b2,t,j⟩:=i;simp only[Par.Gives];go_simp;all_goals exact m.out
  all_goals(clear i;simp only[Par.Gives];go_simp;all_goals exact m.out)
 intro g i;simp only[ex,ye];have f:=i.2.1;have q:=d g f;go_wp2_with (go_at_call 127;refine q.mono ?_;rintro e u⟨rfl,r,c3⟩)
 go_end0
 exact⟨rfl,(h f).map r c3,(Chg.of_below (S:=fun b=>b=cb) (j.symm▸f)).trans c3.chg (fun _ _ x=>x) (fun _ _ x=>x)⟩
theorem pS(h:Cm cb kind v n L W0 W)(n1:Int)(s:ByteArray)(hs:s.size<=12)(hl:L.length+1<=999999):Calls prog 99 #[.pointer (some ⟨cb,0,none⟩),.agg #[.int .i64 2,.int .i64 n1,.string s]] W fun e g=>e=.returned (.tuple #[])/\Cm cb kind v n (mr (wd s) L) W0 g/\Chg (fun b=>b=cb) W g:=by
 have k:=h.lt;have a:=z7 W (.cells #[.int .i64 2,.int .i64 n1,.string s] 32);have c:=aD W (.cells #[.int .i64 2,.int .i64 n1,.string s] 32);obtain⟨B,j⟩:=ae W.heap.size;have l:=pQ hs;rw[j]at a c k
 have o:=aa (show(fun w:World=>w.cell? ⟨B,2,none⟩=some (.string s)/\Below B W w/\B<w.heap.size) (W.alloc (.cells #[.int .i64 2,.int .i64 n1,.string s] 32)).drew from
  ⟨aA a 2,c.drew,by show B<(W.alloc _).heap.size;simp;omega⟩)
 have h:∀{y:World},Below B W y->Cm cb kind v n L W0 y:=(fun p=>h.later (j▸p));have d:=(fun(y:World) (hy:Below B W y)=>Iu (wd s) (h hy).dm hl);simp only[l]at d;clear a c;go_enter func99,ntmps99;go_wp2_with fail;refine Par.ag 5 [.pointer (some ⟨cb,0,none⟩),.pointer (some ⟨cb,0,none⟩),.pointer (some ⟨cb,2,none⟩),.pointer (some ⟨B,2,none⟩),.string s] (fun w=>w.cell? ⟨B,2,none⟩=some (.string s)/\Below B W w/\B<w.heap.size) ?A2 ?hm2 ?hB2 ?hA2 o.out ?hop2 ?hT2
 case hm2=>kernel_rfl
 case hB2=>kernel_rfl
 case hA2 =>
  simp only[Par.am,Par.ai,Act.put,eh,ez,dz,eo,ew,ey,ed,ic,gy];rfl
 case hop2 =>
  simp only[en,zh,Par.ah,yo];and_intros<;>intro g i<;>have m:=aa i
  rotate_left 4
  ·obtain⟨b2,t,j⟩:=i;simp only[Par.Gives];go_simp;all_goals exact m.out
  all_goals(clear i;simp only[Par.Gives];go_simp;all_goals exact m.out)
 intro g i;simp only[ex,ye];have f:=i.2.1;have q:=d g f;go_wp2_with (go_at_call 126;refine q.mono ?_;rintro e u⟨rfl,r,c3⟩)
 go_end0
 exact⟨rfl,(h f).map r c3,(Chg.of_below (S:=fun b=>b=cb) (j.symm▸f)).trans c3.chg (fun _ _ x=>x) (fun _ _ x=>x)⟩
theorem BZ{l:List T3}{base:Nat}(h:Cm cb kind v n L W0 W)(hr:ac W base 32 3 v l.length (cells3 l))(i:Nat)(hi:i<l.length):Calls prog 84 #[.pointer (some ⟨cb,0,none⟩),.int .i64 (i:Int)] W fun e b=>e=.returned (.tuple #[.agg #[.int .i64 ((l[i]).1),.int .i64 ((l[i]).2.1),.string ((l[i]).2.2)],.bool true])/\Below W.heap.size W b:=by
 have q:=h.lt;have c1:=h.c1;have a:=(fun y(d:Below W.heap.size W y)=>rG (h.later d) (hr.later d));obtain⟨g,r,rfl,c,_⟩:=hr.slice (by omega);obtain⟨f,j,o⟩:=cQ l i hi;have t:=hr.cell f;have u:=hr.cell j;have w:=hr.cell o;have A:=(hr.lt g rfl).2;have b0:=a _ (aD W (.cells #[.int .i64 0,.int .i64 0,.string ⟨#[]⟩] 32));generalize l[i]=x at t u w ⊢;obtain⟨k,z,s⟩:=x;obtain⟨m,p⟩:=ae l.length;rw[p]at hi b0 c c1;have B:decide ((i:Int)<0)=false:=yp (by omega);have d1:decide ((m:Int)<=(i:Int))=false:=yp (by omega);have d2:(i:Int)<(m:Int):=(by omega);clear f j o a hr h p;go_enter func84,ntmps84;go_wp2_with (go_at_call 115;refine b0.mono ?_;rintro e b⟨rfl,E⟩;subst b);refine y8 (v:=.tuple #[.agg #[.int .i64 k,.int .i64 z,.string s],.bool true]) (by simp[results,results84,go_sem]) rfl ?_;exact⟨rfl,by first|exact aD W _|exact(aD W _).setCell (zo _) _⟩
end
