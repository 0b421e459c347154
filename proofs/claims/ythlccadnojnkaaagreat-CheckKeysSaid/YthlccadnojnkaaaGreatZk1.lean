import Derived.Below
import Derived.Lib.Hide
import Derived.RangeFuncNested
import Derived.RangeFuncBound
import Derived.RangeFuncCalls
import Derived.RangeFuncLeaves
import Derived.OwnWalkIn
namespace Go.Proofs.YthlccadnojnkaaaGreat
open Go Go.RowKit
theorem qAq {p:Prop}(h:p):Hid p:=Lib.hid h
theorem qBq {a b:Prop}(x:a)(y:b):a/\b:=⟨x,y⟩
abbrev qCq (a b:World):Prop:=Below a.heap.size a b
theorem qDq {α:Type}{l:List α}{i:Nat}:l.toArray[i]?=l[i]?:=List.getElem?_toArray
theorem qEq {α:Type}{a:α}{l:List α}:(a::l)[0]?=some a:=List.getElem?_cons_zero
theorem qFq {α:Type}{a:α}{l:List α}{i:Nat}:(a::l)[i+1]?=l[i]?:=List.getElem?_cons_succ
theorem qGq {α:Type}{l:List α}{i:Nat}{a:α}:l.toArray.setIfInBounds i a=(l.set i a).toArray:=List.setIfInBounds_toArray ..
theorem qHq {α:Type}{x:α}{l:List α}{a:α}:(x::l).set 0 a=a::l:=List.set_cons_zero
theorem qIq {α:Type}{x:α}{l:List α}{n:Nat}{a:α}:(x::l).set (n+1) a=x::l.set n a:=List.set_cons_succ
theorem qJq {α:Type}{x:α}{l:List α}{d:α}:(x::l).getD 0 d=x:=List.getD_cons_zero
theorem qKq {α:Type}{x:α}{l:List α}{n:Nat}{d:α}:(x::l).getD (n+1) d=l.getD n d:=List.getD_cons_succ
theorem qLq {α β:Type}{a:α}{f:α->Option β}:(some a).bind f=f a:=Option.bind_some ..
theorem qMq {α:Type}{x:α}{l:List α}{n:Nat}:(x::l).take (n+1)=x::l.take n:=List.take_succ_cons
theorem qNq {α:Type}{x:α}{l:List α}{n:Nat}:(x::l).drop (n+1)=l.drop n:=List.drop_succ_cons
structure Chg (S:Nat->Prop) (W W':World):Prop where
 os:W'.os=W.os
 tape:W'.tape=W.tape
 output:W'.output=W.output
 size:W.heap.size<=W'.heap.size
 block:∀ k,k<W.heap.size->¬ S k->W'.heap[k]?=W.heap[k]?
theorem Chg.refl (S:Nat->Prop) (W:World):Chg S W W:=⟨rfl,rfl,rfl,Nat.le_refl _,fun _ _ _=>rfl⟩
theorem Chg.trans {S S1 T:Nat->Prop} {A B C:World} (h:Chg S A B) (k:Chg S1 B C) (hs:∀ b,b<A.heap.size->S b->T b) (hs1:∀ b,b<A.heap.size->S1 b->T b):Chg T A C :=
 ⟨k.os.trans h.os,k.tape.trans h.tape,k.output.trans h.output,Nat.le_trans h.size k.size,fun b hb hn =>
  (k.block b (Nat.lt_of_lt_of_le hb h.size) (fun x=>hn (hs1 b hb x))).trans (h.block b hb (fun x=>hn (hs b hb x)))⟩
theorem Chg.mono {S T:Nat->Prop} {A B:World} (h:Chg S A B) (hs:∀ b,b<A.heap.size->S b->T b):Chg T A B :=
 ⟨h.os,h.tape,h.output,h.size,fun b hb hn=>h.block b hb (fun x=>hn (hs b hb x))⟩
theorem Chg.alloc {S:Nat->Prop} {A B:World} (h:Chg S A B) (o:Obj):Chg S A (B.alloc o) :=
 ⟨h.os,h.tape,h.output,by have:=h.size;simp;omega,fun b hb hn=>(Below.heap_alloc _ _ _ (Nat.lt_of_lt_of_le hb h.size)).trans (h.block b hb hn)⟩
theorem Chg.drew {S:Nat->Prop} {A B:World} (h:Chg S A B):Chg S A B.drew:=⟨h.os,h.tape,h.output,h.size,h.block⟩
theorem Chg.setCell {S:Nat->Prop} {A B:World} (h:Chg S A B) {p:Addr} (hp:p.block<A.heap.size->S p.block) (v:Value):Chg S A (B.setCell p v) :=
 ⟨h.os,h.tape,h.output,by have:=h.size;simpa [World.setCell] using this,fun b hb hn=>(Below.heap_setCell _ _ _ _ (fun e=>by subst e;exact hn (hp hb))).trans (h.block b hb hn)⟩
theorem Chg.putObj {S:Nat->Prop} {A B:World} (h:Chg S A B) {l:Nat} (hp:l<A.heap.size->S l) (o:Obj):Chg S A (B.putObj l o) :=
 ⟨h.os,h.tape,h.output,by have:=h.size;simpa using this,fun b hb hn=>(World.putObj_heap_other (fun e=>by subst e;exact hn (hp hb))).trans (h.block b hb hn)⟩
theorem Chg.grown {S:Nat->Prop} {A B C:World} {row:Option Nat} (h:Chg S A B) (hg:B.grownBy C row) (hr:∀ k,row=some k->k<A.heap.size->S k):Chg S A C :=
 ⟨hg.os.trans h.os,hg.tape.trans h.tape,hg.output.trans h.output,Nat.le_trans h.size hg.size,fun b hb hn=>(hg.block b (Nat.lt_of_lt_of_le hb h.size) (fun e=>hn (hr b e.symm hb))).trans (h.block b hb hn)⟩
theorem Chg.of_below {S:Nat->Prop} {A B:World} (h:Below A.heap.size A B):Chg S A B:=⟨h.os,h.tape,h.output,h.size,fun b hb _=>h.block b hb⟩
theorem Chg.below {S:Nat->Prop} {A B:World} (h:Chg S A B) {n:Nat} (hn:n<=A.heap.size) (hs:∀ b,b<n->¬ S b):Below n A B :=
 ⟨h.os,h.tape,h.output,h.size,fun b hb=>h.block b (Nat.lt_of_lt_of_le hb hn) (hs b hb)⟩
theorem Chg.cell {S:Nat->Prop} {A B:World} (h:Chg S A B) {p:Addr} (hp:p.block<A.heap.size) (hn:¬ S p.block):B.cell? p=A.cell? p:=World.cell?_of_block (w:=A) (h.block _ hp hn)
def Grows (S S':Nat->Prop) (W:World):Prop:=∀ b,S' b->S b∨W.heap.size<=b
theorem Grows.refl (S:Nat->Prop) (W:World):Grows S S W:=fun _ h=>.inl h
theorem Grows.trans {S S1 S2:Nat->Prop} {A B:World} (h:Grows S S1 A) (k:Grows S1 S2 B) (hs:A.heap.size<=B.heap.size):Grows S S2 A:=fun b hb=>by
 rcases k b hb with h1|h1
 ·exact h b h1
 ·exact .inr (Nat.le_trans hs h1)
def InW (S:Nat->Prop) (W:World):Prop:=∀ b,S b->b<W.heap.size
theorem InW.later {S:Nat->Prop} {A B:World} (h:InW S A) (k:A.heap.size<=B.heap.size):InW S B:=fun b hb=>Nat.lt_of_lt_of_le (h b hb) k
def Loc (J:(Nat->Prop)->World->Prop):Prop:=∀ S W W',J S W->InW S W->W.heap.size<=W'.heap.size->(∀ b,S b->W'.heap[b]?=W.heap[b]?)->J S W'
def CallsV (P:Program) (yv:Value) (args:Array Value) (W:World) (R:Ending->World->Prop):Prop :=
 (∃ g lb,yv=.func (.func g) #[] lb/\(∀ a w,(callFunc g a).run P w=.ok (.enter g a) w)/\Calls P g (args++lb) W R) ∨
 (∃ l fn tmps asg body,yv=.func (.yield l) #[] #[]/\(Instr.yield l args).run P W=.ok (.round l fn tmps asg body) W/\RoundIn Fence.wide 0 P l fn tmps asg body W R)
theorem CallsV.mono {P:Program} {yv:Value} {args:Array Value} {W:World} {R R':Ending->World->Prop} (h:CallsV P yv args W R) (hr:∀ e w,R e w->R' e w):CallsV P yv args W R':=by
 rcases h with ⟨g,lb,h1,h2,h3⟩ | ⟨l,fn,t,a,b,h1,h2,h3⟩
 ·exact .inl ⟨g,lb,h1,h2,h3.mono hr⟩
 exact .inr ⟨l,fn,t,a,b,h1,h2,h3.mono hr⟩
theorem lK {F:Fence} {n m:Nat} {P:Program} {l f:Nat} {tmps:Array Value} {a b:Code} {W:World} {R:Ending->World->Prop} (hF:F.plain=Fence.wide)
  (h:RoundIn Fence.wide m P l f tmps a b W R):RoundIn F n P l f tmps a b W R:=by
 have h':RoundIn F.plain n P l f tmps a b W R:=by
  rw[hF];exact⟨trivial,fun c cs _=>h.2 c cs (room_wide _)⟩
 exact h'
theorem aL {F:Fence} {n:Nat} {P:Program} {f:FuncId} {args:Array Value} {W:World} {R:Ending->World->Prop} (hF:F.plain=Fence.wide) (h:Calls P f args W R):CallsIn F n P f args W R:=by
 have h':CallsIn F.plain n P f args W R:=(by rw[hF];exact callsIn_wide.2 h);exact h'
theorem fM {F:Fence} {n:Nat} {P:Program} {ops:Array Oper} {rest:List Oper} {a:Act} {w:World} {Q:Exit->Act->World->Prop} {dst:Option Tmp} {g:Operand} {xl:List Operand} {tys:Array TypeId} {ty:TypeId} {pos:String} {after:Array Edge} {gd:Option (Nat×Bool)}
  (hw:Region.wanted { dst:=dst,op:=.call { callee:=.value g,args:=xl.toArray,argTypes:=tys },type:=ty,pos:=pos,after:=after,guard:=gd } (yielded ops a.tmps)=true) (hF:F.plain=Fence.wide) (yv:Value) (al:List Value) (hy:a.eval g=yv) (hx':xl.map a.eval=al)
  (h:CallsV P yv al.toArray w fun e w'=>∃ v,e=.returned v/\wpListIn F n P ops Q rest (a.put dst v) w') :
  wpListIn F n P ops Q ({ dst:=dst,op:=.call { callee:=.value g,args:=xl.toArray,argTypes:=tys },type:=ty,pos:=pos,after:=after,guard:=gd }::rest) a w:=by
 obtain⟨args,hargs⟩:∃ args,al.toArray=args:=⟨_,rfl⟩;rw[hargs] at h;have hx:xl.toArray.map a.eval=args:=by rw[<- hargs,<- hx'];simp
 have hfn:∀ f,F.fn f:=fun f=>by have:F.plain.fn f:=by rw[hF];trivial
                                exact this
 have hdp:F.depth=none:=by have:F.plain.depth=none:=by rw[hF];rfl
                           exact this
 refine wpListIn_step fun K hK=>?_
 rw[if_pos hw];unfold Oper.wpIn;refine⟨fun f _=>hfn f,?_⟩;rcases h with ⟨gf,lb,rfl,he,hc⟩ | ⟨l,fn,t,asg,body,rfl,hr,hc⟩
 ·rw[Oper.semAt_plain F _ _ (by intro c hc';cases hc')]
  have:(execOp a.eval { dst:=dst,op:=.call { callee:=.value g,args:=xl.toArray,argTypes:=tys },type:=ty,pos:=pos,after:=after,guard:=gd }).run P w=.ok (.enter gf (args++lb)) w:=by
   simp only[execOp,resolve,hy,hx];simp[Deferred.ofValue,invoke,he,go_sem]
  rw[this,Oper.uponIn_enter];refine⟨fun h=>by simp[hdp] at h,(aL hF hc).mono ?_⟩;rintro e w' ⟨v,rfl,h⟩;exact hK _ _ h
 rw[Oper.semAt_plain F _ _ (by intro c hc';cases hc')]
 have:(execOp a.eval { dst:=dst,op:=.call { callee:=.value g,args:=xl.toArray,argTypes:=tys },type:=ty,pos:=pos,after:=after,guard:=gd }).run P w=.ok (.round l fn t asg body) w:=by
  simp only[execOp,resolve,hy,hx];simp[Deferred.ofValue,invoke,hr,go_sem]
 rw[this,Oper.uponIn_round];refine⟨fun h=>by simp[hdp] at h,(lK hF hc).mono ?_⟩;rintro e w' ⟨v,rfl,h⟩;exact hK _ _ h
def Gives {α:Type} (P:Program) (sv:Value) (encs:α->Array Value) (xs:List α) (M Mm:Nat->Prop) (Q:Nat->World->Prop):Prop :=
 (∀ k W W',Q k W->InW M W->W.heap.size<=W'.heap.size->(∀ b,M b->W'.heap[b]?=W.heap[b]?)->Q k W')/\(∃ g lb,sv=.func (.func g) #[] lb)/\(∀ b,Mm b->M b) /\
 ∀ (yf:Fn) (yb:Array Value) (J Jx:Nat->(Nat->Prop)->World->Prop) (S:Nat->Prop) (W:World),(∀ k,Loc (J k))->(∀ k,Loc (Jx k)) ->
  InW S W->InW M W->(∀ b,S b->¬ M b)->Q 0 W->J 0 S W ->
  (∀ k (hk:k<xs.length) S1 W1,InW S1 W1->Chg (fun b=>S b∨Mm b) W W1->J k S1 W1 ->
   CallsV P (.func yf #[] yb) (encs xs[k]) W1 fun e W2=>∃ S2,Grows S1 S2 W1/\InW S2 W2/\Chg S1 W1 W2 /\
    ((e=.returned (.bool true)/\J (k+1) S2 W2)∨(e=.returned (.bool false)/\Jx (k+1) S2 W2))) ->
  CallsV P sv #[.func yf #[] yb] W fun e W'=>∃ v S',e=.returned v/\Grows S S' W/\InW S' W'/\Chg (fun b=>S b∨Mm b) W W' /\
   ((J xs.length S' W'/\Q xs.length W')∨∃ k,0<k/\k<=xs.length/\Jx k S' W'/\Q k W')
def GPost (S Mm:Nat->Prop) (J Jx:Nat->(Nat->Prop)->World->Prop) (Q:Nat->World->Prop) (n:Nat) (W:World) (e:Ending) (W':World):Prop :=
 ∃ v S',e=.returned v/\Grows S S' W/\InW S' W'/\Chg (fun b=>S b∨Mm b) W W'/\((J n S' W'/\Q n W')∨∃ k,0<k/\k<=n/\Jx k S' W'/\Q k W')
def sepPost (I:Nat->(Nat->Prop)->World->Prop) (Ix:Code->Nat->(Nat->Prop)->World->Prop) (k:Nat) (S1:Nat->Prop) (W1:World):Exit->Act->World->Prop
 | .normal,_,W2=>∃ S2,Grows S1 S2 W1/\InW S2 W2/\Chg S1 W1 W2/\I k S2 W2
 | .ret,_,W2=>∃ S2,Grows S1 S2 W1/\InW S2 W2/\Chg S1 W1 W2/\Ix .ret k S2 W2
 | .exit id,_,W2=>∃ S2,Grows S1 S2 W1/\InW S2 W2/\Chg S1 W1 W2/\Ix (.exit id) k S2 W2
 | _,_,_=>False
def markAt (D:Nat):Deferred:={ target:=.collected D,args:=#[] }
theorem wpIn_rangeFunc_sep {α:Type} {n:Nat} {P:Program} {g:Operand} {ps:Array Tmp} {assign body:Code} {Q:Exit->Act->World->Prop} {a:Act} {w:World}
  {sv:Value} (hg:a.eval g=sv) {encs:α->Array Value} {xs:List α} {M Mm:Nat->Prop} {Qi:Nat->World->Prop} (hgv:Gives P sv encs xs M Mm Qi) (hps:∀ x,(encs x).size=ps.size)
  (I:Nat->(Nat->Prop)->World->Prop) (Ix:Code->Nat->(Nat->Prop)->World->Prop) (hI:∀ k,Loc (I k)) (hIx:∀ c k,Loc (Ix c k))
  (S:Nat->Prop) (hS:InW S w) (hM:InW M w) (hSM:∀ b,S b->¬ M b) (hQ:Qi 0 w) (h0:I 0 S w) (a₁:α->Act)
  (hassign:∀ (l:Nat) (x:α) (W:World) (K:Act->World->Prop),K (a₁ x) W ->
   assign.wpIn (Fence.wide.inRound l) 0 P (Exit.then K (fun _ _ _=>False)) { tmps:=(ps.zip (encs x)).foldl (fun t (p,v)=>t.setIfInBounds p v) a.tmps,defers:=[] } W)
  (hbody:∀ (l k:Nat) (hk:k<xs.length) S1 W1,InW S1 W1->Chg (fun b=>S b∨Mm b) w W1->I k S1 W1->body.wpIn (Fence.wide.inRound l) 0 P (sepPost I Ix (k+1) S1 W1) (a₁ xs[k]) W1)
  (hdone:∀ S' W',Grows S S' w->InW S' W'->Chg (fun b=>S b∨Mm b) w W'->I xs.length S' W'->Qi xs.length W'->W'.heap[w.heap.size]?=some (.deferred (some []))->¬ S' w.heap.size ->
   Q .normal { a with defers:=markAt w.heap.size::a.defers } W')
  (hstop:∀ c k S' W',0<k->k<=xs.length->Grows S S' w->InW S' W'->Chg (fun b=>S b∨Mm b) w W'->Ix c k S' W'->Qi k W'->W'.heap[w.heap.size]?=some (.deferred (some []))->¬ S' w.heap.size ->
   c.wpIn Fence.wide n P Q { a with defers:=markAt w.heap.size::a.defers } W') :
  (Code.rangeFunc g ps assign body).wpIn Fence.wide n P Q a w:=by
 refine wpIn_rangeFunc ?_;intro fn hfn;obtain⟨D,hD⟩:∃ D,w.heap.size=D:=⟨_,rfl⟩;obtain⟨rec,hrec⟩:∃ rec:LoopState->Option Code->Loop,rec=fun st pe=>{ state:=st,pending:=pe,fn,tmps:=a.tmps,params:=ps,assign,body,defers:=D }:=⟨_,rfl⟩
 obtain⟨w1,hw1⟩:∃ w1,(w.alloc (.deferred (some []))).alloc (.loop (rec .ready none))=w1:=⟨_,rfl⟩
 have hL1:w1.heap[D+1]?=some (.loop (rec .ready none)):=by
  rw[<- hw1];have:=World.alloc_heap_new (w.alloc (.deferred (some []))) (.loop (rec .ready none));rw[World.size_alloc,hD] at this;exact this
 have hK1:w1.heap[D]?=some (.deferred (some [])):=by
  rw[<- hw1,<- hD];exact (Below.heap_alloc _ _ _ (by simp)).trans (World.alloc_heap_new w _)
 have hz1:w1.heap.size=D+2:=(by rw[<- hw1];simp[hD]);have hc1:Chg S w w1:=by rw[<- hw1];exact ((Chg.refl S w).alloc _).alloc _
 have hcB:∀ b,b<D->w1.heap[b]?=w.heap[b]?:=fun b hb=>by
  rw[<- hw1];exact (Below.heap_alloc _ _ _ (by simp;omega)).trans (Below.heap_alloc _ _ _ (by omega))
 have hS':∀ b,S b->b<D:=(fun b hb=>by rw[<- hD];exact hS b hb);have hM':∀ b,M b->b<D:=(fun b hb=>by rw[<- hD];exact hM b hb);have hMm:∀ b,Mm b->b<D:=fun b x=>hM' b (hgv.2.2.1 b x)
 have hcall:=hgv.2.2.2 (.yield (D+1)) #[]
  (fun k T W=>∃ T0,(∀ b,T b↔T0 b∨b=D+1∨b=D)/\¬ T0 (D+1)/\¬ T0 D/\I k T0 W/\D+2<=W.heap.size/\W.heap[D+1]?=some (.loop (rec .ready none))/\W.heap[D]?=some (.deferred (some [])))
  (fun k T W=>∃ T0,(∀ b,T b↔T0 b∨b=D+1∨b=D)/\¬ T0 (D+1)/\¬ T0 D/\D+2<=W.heap.size/\∃ c,Ix c k T0 W/\W.heap[D+1]?=some (.loop (rec .done (some c)))/\W.heap[D]?=some (.deferred (some [])))
  (fun b=>S b∨b=D+1∨b=D) w1
  (by
   rintro k T W W' ⟨T0,hT,h1,h2,hi,hz,hl,hd⟩ hin hsz hb;exact⟨T0,hT,h1,h2,hI k T0 W W' hi (fun b h=>hin b ((hT b).2 (.inl h))) hsz (fun b h=>hb b ((hT b).2 (.inl h))),by omega,(hb _ ((hT _).2 (.inr (.inl rfl)))).trans hl,(hb _ ((hT _).2 (.inr (.inr rfl)))).trans hd⟩)
  (by
   rintro k T W W' ⟨T0,hT,h1,h2,hz,c,hi,hl,hd⟩ hin hsz hb;exact⟨T0,hT,h1,h2,by omega,c,hIx c k T0 W W' hi (fun b h=>hin b ((hT b).2 (.inl h))) hsz (fun b h=>hb b ((hT b).2 (.inl h))),(hb _ ((hT _).2 (.inr (.inl rfl)))).trans hl,(hb _ ((hT _).2 (.inr (.inr rfl)))).trans hd⟩)
  (by rintro b (h|rfl|rfl) <;> rw[hz1]
      ·have:=hS' b h;omega
      ·omega
      ·omega)
  (fun b h=>by rw[hz1];have:=hM' b h;omega)
  (by rintro b (h|rfl|rfl) hm
      ·exact hSM b h hm
      ·have:=hM' _ hm;omega
      ·have:=hM' _ hm;omega)
  (hgv.1 0 w w1 hQ hM (by rw[hz1];omega) (fun b hb=>hcB b (hM' b hb)))
  ⟨S,fun _=>Iff.rfl,fun h=>by have:=hS' _ h;omega,fun h=>by have:=hS' _ h;omega,hI 0 S w w1 h0 hS (by rw[hz1];omega) (fun b hb=>hcB b (hS' b hb)),by omega,hL1,hK1⟩
  (by
   rintro k hk T W1 hin hchg1 ⟨T0,hT,hn1,hn2,hi,hz,hl,hd⟩;have hsz:=hchg1.size;have hlt:D+1<W1.heap.size:=(by omega);have hy:=run_yield (P:=P) (args:=encs xs[k]) hl (by rw[hrec];exact hps _);rw[hrec] at hy;refine .inr ⟨D+1,fn,_,assign,body,rfl,hy,roundIn_of_wpIn trivial (hassign _ xs[k] W1 _ ⟨_,run_beginRound hl (by rw[hrec]),?_⟩)⟩;obtain⟨W2,hW2⟩:∃ W2,W1.putObj (D+1) (.loop { rec .ready none with state:=.busy })=W2:=⟨_,rfl⟩;rw[hW2];have hz2:W2.heap.size=W1.heap.size:=(by rw[<- hW2];simp);have hl2:W2.heap[D+1]?=some (.loop { rec .ready none with state:=.busy }):=(by rw[<- hW2];exact World.putObj_heap_same hlt);have hd2:W2.heap[D]?=some (.deferred (some [])):=(by rw[<- hW2];exact (World.putObj_heap_other (by omega)).trans hd);have ho2:∀ b,b≠D+1->W2.heap[b]?=W1.heap[b]?:=(fun b hb=>by rw[<- hW2];exact World.putObj_heap_other hb);have hin0:InW T0 W1:=(fun b h=>hin b ((hT b).2 (.inl h)));have hi2:I k T0 W2:=hI k T0 W1 W2 hi hin0 (by omega) (fun b h=>ho2 b (fun e=>hn1 (e▸h)))
   refine wpIn_mono (hbody (D+1) k hk T0 W2 (fun b h=>by rw[hz2];exact hin0 b h) (by
    have:Chg (fun b=>S b∨Mm b) w W1:=hc1.trans hchg1 (fun _ _ h=>.inl h) (fun b hb h=>by
     rcases h with (h|h|h) | h
     ·exact .inl h
     ·omega
     ·omega
     ·exact .inr h)
    rw[<- hW2];exact this.putObj (fun h=>by omega) _) hi2) ?_
   have hc2:Chg T W1 W2:=by rw[<- hW2];exact (Chg.refl T W1).putObj (fun _=>(hT _).2 (.inr (.inl rfl))) _
   have fin:∀ (jump:Option Code) (S2:Nat->Prop) (W3:World),Grows T0 S2 W2->InW S2 W3->Chg T0 W2 W3->∃ W4,
     (Instr.endRound (D+1) jump).run P W3=.ok (.bool jump.isNone) W4/\W4.heap.size=W3.heap.size/\(∀ b,b≠D+1->W4.heap[b]?=W3.heap[b]?) /\
     ¬ S2 (D+1)/\¬ S2 D/\Grows T (fun b=>S2 b∨b=D+1∨b=D) W1/\InW (fun b=>S2 b∨b=D+1∨b=D) W4/\Chg T W1 W4/\D+2<=W4.heap.size /\
     W4.heap[D+1]?=some (.loop (rec (if jump.isNone then .ready else .done) jump))/\W4.heap[D]?=some (.deferred (some [])):=fun jump S2 W3 hgr hin2 hch=>by
    have hz3:=hch.size;have hl3:W3.heap[D+1]?=some (.loop { rec .ready none with state:=.busy }):=(hch.block _ (by omega) hn1).trans hl2;have hd3:W3.heap[D]?=some (.deferred (some [])):=(hch.block _ (by omega) hn2).trans hd2
    have hs1:¬ S2 (D+1):=fun h=>by
     rcases hgr _ h with h1|h1
     ·exact hn1 h1
     ·omega
    have hs2:¬ S2 D:=fun h=>by
     rcases hgr _ h with h1|h1
     ·exact hn2 h1
     ·omega
    have her:=run_endRound (P:=P) jump hl3;refine⟨_,her,by simp,fun b hb=>World.putObj_heap_other hb,hs1,hs2,?_,?_,?_,by simp;omega,?_,(World.putObj_heap_other (by omega)).trans hd3⟩
    ·rintro b (h|h|h)
     ·rcases hgr b h with h1|h1
      ·exact .inl ((hT b).2 (.inl h1))
      ·exact .inr (by omega)
     ·exact .inl ((hT b).2 (.inr (.inl h)))
     ·exact .inl ((hT b).2 (.inr (.inr h)))
    ·rintro b (h|h|h)
     ·have:=hin2 b h;simpa using this
     ·simp;omega
     ·simp;omega
    ·refine (hc2.trans hch (fun _ _ h=>h) (fun b _ h=>(hT b).2 (.inl h))).putObj (fun _=>(hT _).2 (.inr (.inl rfl))) _
    ·rw[World.putObj_heap_same (by omega),hrec]
   rintro e a3 W3 hp;cases e with
   | normal =>
    obtain⟨S2,hgr,hin2,hch,hi3⟩:=hp;obtain⟨W4,hr,hz4,ho4,hs1,hs2,hg4,hi4,hc4,hm4,hl4,hd4⟩:=fin none S2 W3 hgr hin2 hch;exact⟨_,_,hr,_,hg4,hi4,hc4,.inl ⟨rfl,S2,fun _=>Iff.rfl,hs1,hs2,hI _ _ _ _ hi3 hin2 (by omega) (fun b h=>ho4 b (fun e=>hs1 (e▸h))),hm4,hl4,hd4⟩⟩
   | ret =>
    obtain⟨S2,hgr,hin2,hch,hi3⟩:=hp;obtain⟨W4,hr,hz4,ho4,hs1,hs2,hg4,hi4,hc4,hm4,hl4,hd4⟩:=fin (some .ret) S2 W3 hgr hin2 hch;exact⟨_,_,hr,_,hg4,hi4,hc4,.inr ⟨rfl,S2,fun _=>Iff.rfl,hs1,hs2,hm4,_,hIx _ _ _ _ _ hi3 hin2 (by omega) (fun b h=>ho4 b (fun e=>hs1 (e▸h))),hl4,hd4⟩⟩
   | exit id =>
    obtain⟨S2,hgr,hin2,hch,hi3⟩:=hp;obtain⟨W4,hr,hz4,ho4,hs1,hs2,hg4,hi4,hc4,hm4,hl4,hd4⟩:=fin (some (.exit id)) S2 W3 hgr hin2 hch;exact⟨_,_,hr,_,hg4,hi4,hc4,.inr ⟨rfl,S2,fun _=>Iff.rfl,hs1,hs2,hm4,_,hIx _ _ _ _ _ hi3 hin2 (by omega) (fun b h=>ho4 b (fun e=>hs1 (e▸h))),hl4,hd4⟩⟩
   | goto t=>exact hp.elim
   | panic ch=>exact hp.elim
   | outgrown=>exact hp.elim)
 have hev:a.eval g=sv:=hg
 have hpost:∀ e W2,(∃ v S',e=Ending.returned v/\Grows (fun b=>S b∨b=D+1∨b=D) S' w1/\InW S' W2/\Chg (fun b=>(S b∨b=D+1∨b=D)∨Mm b) w1 W2 /\
   (((∃ T0,(∀ b,S' b↔T0 b∨b=D+1∨b=D)/\¬ T0 (D+1)/\¬ T0 D/\I xs.length T0 W2/\D+2<=W2.heap.size/\W2.heap[D+1]?=some (.loop (rec .ready none))/\W2.heap[D]?=some (.deferred (some [])))/\Qi xs.length W2) ∨
    ∃ k,0<k/\k<=xs.length/\(∃ T0,(∀ b,S' b↔T0 b∨b=D+1∨b=D)/\¬ T0 (D+1)/\¬ T0 D/\D+2<=W2.heap.size/\∃ c,Ix c k T0 W2/\W2.heap[D+1]?=some (.loop (rec .done (some c)))/\W2.heap[D]?=some (.deferred (some [])))/\Qi k W2)) ->
   rangePost Fence.wide n P (D+1) Q { a with defers:=[markAt D]++a.defers } e W2:=by
  rintro e W2 ⟨v,S',rfl,hgr,hin,hch,hend⟩
  have grow:∀ T0:Nat->Prop,(∀ b,S' b↔T0 b∨b=D+1∨b=D)->¬ T0 (D+1)->¬ T0 D->Grows S T0 w:=fun T0 hT hn1 hn2 b hb=>by
   rcases hgr b ((hT b).2 (.inl hb)) with (h1|h1|h1) | h1
   ·exact .inl h1
   ·exact absurd (h1▸hb) hn1
   ·exact absurd (h1▸hb) hn2
   ·exact .inr (by omega)
  have hchg:∀ o:Obj,Chg (fun b=>S b∨Mm b) w (W2.putObj (D+1) o):=fun o =>
   ((hc1.trans hch (T:=fun b=>S b∨Mm b) (fun _ _ h=>.inl h) (fun b hb h=>by
    rcases h with (h|h|h) | h
    ·exact .inl h
    ·omega
    ·omega
    ·exact .inr h)).putObj (fun h=>by omega) o)
  rcases hend with ⟨⟨T0,hT,hn1,hn2,hi,hz,hl,hd⟩,hq⟩ | ⟨k,hk0,hk,⟨T0,hT,hn1,hn2,hz,c,hi,hl,hd⟩,hq⟩
  ·have hin0:InW T0 W2:=(fun b h=>hin b ((hT b).2 (.inl h)));refine⟨none,_,by have:=run_endLoop (P:=P) hl (by rw[hrec];simp);rw[hrec] at this;exact this,?_⟩
   have:=hdone T0 (W2.putObj (D+1) (.loop { rec .ready none with state:=.exhausted })) (grow T0 hT hn1 hn2) (fun b h=>by simpa using hin0 b h) (hchg _)
    (hI _ _ _ _ hi hin0 (by simp) (fun b h=>World.putObj_heap_other (fun e=>hn1 (e▸h))))
    (hgv.1 _ _ _ hq (fun b h=>by have:=hM' b h;omega) (by simp) (fun b h=>World.putObj_heap_other (by have:=hM' b h;omega)))
    (by rw[hD];exact (World.putObj_heap_other (by omega)).trans hd) (by rw[hD];exact hn2)
   rw[hD,hrec] at this;exact this
  ·have hin0:InW T0 W2:=(fun b h=>hin b ((hT b).2 (.inl h)));refine⟨some c,_,by have:=run_endLoop (P:=P) hl (by rw[hrec];simp);rw[hrec] at this;exact this,?_⟩
   have:=hstop c k T0 (W2.putObj (D+1) (.loop { rec .done (some c) with state:=.exhausted })) hk0 hk (grow T0 hT hn1 hn2) (fun b h=>by simpa using hin0 b h) (hchg _)
    (hIx _ _ _ _ _ hi hin0 (by simp) (fun b h=>World.putObj_heap_other (fun e=>hn1 (e▸h))))
    (hgv.1 _ _ _ hq (fun b h=>by have:=hM' b h;omega) (by simp) (fun b h=>World.putObj_heap_other (by have:=hM' b h;omega)))
    (by rw[hD];exact (World.putObj_heap_other (by omega)).trans hd) (by rw[hD];exact hn2)
   rw[hD,hrec] at this;exact this
 rcases hcall with ⟨gf,lb,rfl,he,hc⟩ | ⟨l',_,_,_,_,rfl,hr',hc'⟩
 ·refine⟨D+1,[markAt D],w1,{ target:=.fn (.func gf) lb,args:=#[.func (.yield (D+1)) #[] #[]] },w1,gf,
   #[.func (.yield (D+1)) #[] #[]]++lb,w1,?_,?_,fun _ _=>trivial,?_,fun h=>by simp[Fence.wide] at h,?_⟩
  ·rw[<- hw1,hrec,<- hD];exact run_enterLoop_outer _ _ _ _ _
  ·simp only[resolve,hg];simp[go_sem]
  ·simp[invoke,go_sem,he]
  exact callsIn_wide.2 (hc.mono hpost)
 
 obtain⟨g',lb',hh⟩:=hgv.2.1;cases hh
theorem wH {F:Fence} {n:Nat} {P:Program} {fn:Func} {R:Ending->World->Prop} {tmps:Array Value} {w:World} {D:Nat} {t:Tmp} (hres:fn.results=#[.tmp t]) (hK:w.heap[D]?=some (.deferred (some [])))
  (h:∀ w',Chg (fun b=>b=D) w w'->w'.heap.size=w.heap.size->R (.returned (tmps.getD t undef)) w') :
  bodyPostM F n P fn R .ret { tmps:=tmps,defers:=[markAt D] } w:=by
 have:LeavesInM F n P fn tmps R [markAt D] .returning w:=by
  refine⟨by simp,.inl ⟨_,_,rfl,run_takeDeferred hK,?_⟩⟩;exact⟨_,results_tmp hres _ _ _,h _ ((Chg.refl (fun b=>b=D) w).putObj (l:=D) (fun _=>rfl) _) (by simp)⟩
 exact this
def Plus (own:Nat->Prop) (J:(Nat->Prop)->World->Prop) (C:World->Prop) (T:Nat->Prop) (W:World):Prop :=
 ∃ T0,(∀ b,T b↔T0 b∨own b)/\(∀ b,own b->¬ T0 b)/\J T0 W/\C W
def Cell (W:World) (b:Nat) (v:Value):Prop:=W.cell? ⟨b,0,none⟩=some v/\W.frozen? ⟨b,0,none⟩=false
theorem Cell.of {W W':World} {b:Nat} {v:Value} (h:Cell W b v) (hb:W'.heap[b]?=W.heap[b]?):Cell W' b v :=
 ⟨(World.cell?_of_block (w:=W) hb).trans h.1,(World.frozen?_of_block (w:=W) hb).trans h.2⟩
theorem Cell.lt {W:World} {b:Nat} {v:Value} (h:Cell W b v):b<W.heap.size:=World.block_lt_of_cell? W ⟨b,0,none⟩ h.1
theorem Cell.new (W:World) (v:Value) (t:TypeId):Cell (W.alloc (.cells #[v] t)) W.heap.size v:=by
 exact⟨by rw[World.cell?_alloc_new];rfl,World.frozen?_alloc_new W _ _ _⟩
theorem Cell.set {W:World} {b:Nat} {v:Value} (h:Cell W b v) (u:Value):Cell (W.setCell ⟨b,0,none⟩ u) b u :=
 ⟨World.cell?_setCell_same _ _ _ h.1,by rw[World.frozen?_setCell];exact h.2⟩
theorem Cell.drew {W:World} {b:Nat} {v:Value} (h:Cell W b v):Cell W.drew b v:=h
