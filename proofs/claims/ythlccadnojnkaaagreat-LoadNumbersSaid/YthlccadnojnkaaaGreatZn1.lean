import Derived.Lib.Hide
import Derived.RangeFuncNested
import Derived.RangeFuncBound
import Derived.OwnWalkIn
namespace Go.Proofs.YthlccadnojnkaaaGreat
open Go Go.RowKit
theorem z6:type_of% @List.getElem?_eq_getElem:=@List.getElem?_eq_getElem
theorem z7:type_of% @heap_alloc_new:=@heap_alloc_new
theorem z8:type_of% @List.getElem_mem:=@List.getElem_mem
theorem z9:type_of% @Nat.lt_of_lt_of_le:=@Nat.lt_of_lt_of_le
theorem za:type_of% @World.cell?_of_block:=@World.cell?_of_block
theorem zb:type_of% @Below.refl:=@Below.refl
theorem ze:type_of% @List.take_zero:=@List.take_zero
theorem zh:type_of% @Nat.zero_le:=@Nat.zero_le
theorem zj:type_of% @World.size_alloc:=@World.size_alloc
theorem zm:type_of% @Nat.le_refl:=@Nat.le_refl
theorem zo:type_of% @frozen_of_row:=@frozen_of_row
theorem zq:type_of% @if_neg:=@if_neg
theorem zu:type_of% @List.getD_eq_getElem?_getD:=@List.getD_eq_getElem?_getD
theorem zv:type_of% @if_pos:=@if_pos
theorem zw:type_of% @Nat.le_trans:=@Nat.le_trans
theorem zx:type_of% @Bool.and_eq_true:=@Bool.and_eq_true
theorem zy:type_of% @List.mem_singleton:=@List.mem_singleton
theorem y8:type_of% @List.length_append:=@List.length_append
theorem y9:type_of% @heap_setCell_same:=@heap_setCell_same
theorem ya:type_of% @bodyPost_ret:=@bodyPost_ret
theorem yd:type_of% @heap_setCell_other:=@heap_setCell_other
theorem ye:type_of% @List.getElem?_append_right:=@List.getElem?_append_right
theorem yh:type_of% @List.length_map:=@List.length_map
theorem ym:type_of% @List.drop_zero:=@List.drop_zero
theorem yo:type_of% @Nat.not_lt_zero:=@Nat.not_lt_zero
theorem yp:type_of% @List.take_succ_eq_append_getElem:=@List.take_succ_eq_append_getElem
theorem yq:type_of% @List.drop_nil:=@List.drop_nil
theorem yu:type_of% @and_true:=@and_true
theorem yw:type_of% @decide_eq_false:=@decide_eq_false
theorem yx:type_of% @World.putObj_heap_other:=@World.putObj_heap_other
theorem yy:type_of% @List.take_of_length_le:=@List.take_of_length_le
theorem xa:type_of% @List.getElem_map:=@List.getElem_map
theorem xc:type_of% @List.getElem_append_left:=@List.getElem_append_left
theorem xd:type_of% @decide_eq_true:=@decide_eq_true
theorem xe:type_of% @List.length_cons:=@List.length_cons
theorem xh:type_of% @List.mem_range:=@List.mem_range
theorem xm:type_of% @List.getElem?_map:=@List.getElem?_map
theorem xn:type_of% @World.block_lt_of_cell?:=@World.block_lt_of_cell?
theorem xp:type_of% @List.all_eq_true:=@List.all_eq_true
theorem xq:type_of% @Nat.zero_add:=@Nat.zero_add
theorem xu:type_of% @World.cell?_setCell_other:=@World.cell?_setCell_other
theorem xy:type_of% @Nat.le_of_eq:=@Nat.le_of_eq
theorem xz:type_of% @List.getElem_of_mem:=@List.getElem_of_mem
theorem we:type_of% @List.length_take:=@List.length_take
theorem wf:type_of% @List.getElem?_append_left:=@List.getElem?_append_left
theorem wg:type_of% @List.mem_cons:=@List.mem_cons
theorem wh:type_of% @decide_eq_true_eq:=@decide_eq_true_eq
theorem wi:type_of% @Below.heap_alloc:=@Below.heap_alloc
theorem wj:type_of% @of_decide_eq_true:=@of_decide_eq_true
theorem wk:type_of% @List.eq_nil_of_length_eq_zero:=@List.eq_nil_of_length_eq_zero
theorem wm:type_of% @Bool.or_eq_true:=@Bool.or_eq_true
theorem wq:type_of% @World.cell?_setCell_same:=@World.cell?_setCell_same
theorem wu:type_of% @ByteArray.toList_eq:=@ByteArray.toList_eq
theorem ww:type_of% @List.pairwise_cons:=@List.pairwise_cons
theorem v6:type_of% @Nat.lt_or_ge:=@Nat.lt_or_ge
theorem v7:type_of% @Int.toNat_natCast:=@Int.toNat_natCast
theorem vc:type_of% @World.frozen?_of_block:=@World.frozen?_of_block
theorem vd:type_of% @Array.getElem?_eq_none:=@Array.getElem?_eq_none
theorem ve:type_of% @List.pairwise_append:=@List.pairwise_append
theorem vf:type_of% @Bool.eq_iff_iff:=@Bool.eq_iff_iff
theorem vh:type_of% @List.flatMap_cons:=@List.flatMap_cons
theorem vk:type_of% @decide_eq_false_iff_not:=@decide_eq_false_iff_not
theorem vn:type_of% @List.any_eq_false:=@List.any_eq_false
theorem vp:type_of% @List.length_nil:=@List.length_nil
theorem vq:type_of% @List.any_eq_true:=@List.any_eq_true
theorem vt:type_of% @Bool.true_and:=@Bool.true_and
theorem vu:type_of% @List.getElem_append_right:=@List.getElem_append_right
theorem vw:type_of% @List.drop_eq_getElem_cons:=@List.drop_eq_getElem_cons
theorem vz:type_of% @List.not_mem_nil:=@List.not_mem_nil
theorem u6:type_of% @List.getElem?_eq_none:=@List.getElem?_eq_none
theorem u7:type_of% @List.length_set:=@List.length_set
theorem u9:type_of% @beq_iff_eq:=@beq_iff_eq
theorem ua:type_of% @List.length_drop:=@List.length_drop
theorem ub:type_of% @Nat.lt_irrefl:=@Nat.lt_irrefl
theorem uc:type_of% @List.map_append:=@List.map_append
theorem ud:type_of% @List.find?_eq_none:=@List.find?_eq_none
theorem ue:type_of% @List.mem_of_mem_take:=@List.mem_of_mem_take
theorem uf:type_of% @Nat.lt_succ_self:=@Nat.lt_succ_self
theorem ug:type_of% @List.ext_getElem?:=@List.ext_getElem?
theorem uh:type_of% @List.nil_append:=@List.nil_append
theorem ui:type_of% @List.cons_append:=@List.cons_append
theorem uj:type_of% @Below.heap_setCell:=@Below.heap_setCell
theorem um:type_of% @World.frozen?_setCell:=@World.frozen?_setCell
theorem uo:type_of% @List.take_append_drop:=@List.take_append_drop
theorem uq:type_of% @List.mem_map_of_mem:=@List.mem_map_of_mem
theorem ag.{u}{α:Sort u}(a:α):∃x,a=x:=⟨a,rfl⟩
theorem aa{p:Prop}(h:p):Hid p:=Lib.hid h
theorem ab{a b:Prop}(x:a)(y:b):a/\b:=⟨x,y⟩
abbrev LA(a b:World):Prop:=Below a.heap.size a b
theorem cy{α:Type}{l:List α}{i:Nat}:l.toArray[i]?=l[i]?:=List.getElem?_toArray
theorem db{α:Type}{a:α}{l:List α}:(a::l)[0]?=some a:=List.getElem?_cons_zero
theorem bt{α:Type}{a:α}{l:List α}{i:Nat}:(a::l)[i+1]?=l[i]?:=List.getElem?_cons_succ
theorem dc{α:Type}{l:List α}{i:Nat}{a:α}:l.toArray.setIfInBounds i a=(l.set i a).toArray:=List.setIfInBounds_toArray ..
theorem da{α:Type}{x:α}{l:List α}{a:α}:(x::l).set 0 a=a::l:=List.set_cons_zero
theorem bu{α:Type}{x:α}{l:List α}{n:Nat}{a:α}:(x::l).set (n+1) a=x::l.set n a:=List.set_cons_succ
theorem eg{α:Type}{x:α}{l:List α}{d:α}:(x::l).getD 0 d=x:=List.getD_cons_zero
theorem ed{α:Type}{x:α}{l:List α}{n:Nat}{d:α}:(x::l).getD (n+1) d=l.getD n d:=List.getD_cons_succ
theorem cp{α β:Type}{a:α}{f:α->Option β}:(some a).bind f=f a:=Option.bind_some ..
theorem ce{α:Type}{x:α}{l:List α}{n:Nat}:(x::l).take (n+1)=x::l.take n:=List.take_succ_cons
theorem cw{α:Type}{x:α}{l:List α}{n:Nat}:(x::l).drop (n+1)=l.drop n:=List.drop_succ_cons
structure Chg (S:Nat->Prop) (W W':World):Prop where
 os:W'.os=W.os
 tape:W'.tape=W.tape
 output:W'.output=W.output
 size:W.heap.size<=W'.heap.size
 block:∀k,k<W.heap.size->¬ S k->W'.heap[k]?=W.heap[k]?
theorem Chg.refl(S:Nat->Prop)(W:World):Chg S W W:=⟨rfl,rfl,rfl,zm _,fun _ _ _=>rfl⟩
theorem Chg.trans{S S1 T:Nat->Prop}{A B C:World}(h:Chg S A B)(k:Chg S1 B C)(hs:∀b,b<A.heap.size->S b->T b)(hs1:∀b,b<A.heap.size->S1 b->T b):Chg T A C:=
 ⟨k.os.trans h.os,k.tape.trans h.tape,k.output.trans h.output,zw h.size k.size,fun b a c =>
  (k.block b (z9 a h.size) (fun x=>c (hs1 b a x))).trans (h.block b a (fun x=>c (hs b a x)))⟩
theorem Chg.mono{S T:Nat->Prop}{A B:World}(h:Chg S A B)(hs:∀b,b<A.heap.size->S b->T b):Chg T A B:=
 ⟨h.os,h.tape,h.output,h.size,fun b a c=>h.block b a (fun x=>c (hs b a x))⟩
theorem Chg.alloc{S:Nat->Prop}{A B:World}(h:Chg S A B)(o:Obj):Chg S A (B.alloc o):=
 ⟨h.os,h.tape,h.output,by have:=h.size;simp;omega,fun b a c=>(wi _ _ _ (z9 a h.size)).trans (h.block b a c)⟩
theorem Chg.drew{S:Nat->Prop}{A B:World}(h:Chg S A B):Chg S A B.drew:=⟨h.os,h.tape,h.output,h.size,h.block⟩
theorem Chg.setCell{S:Nat->Prop}{A B:World}(h:Chg S A B){p:Addr}(hp:p.block<A.heap.size->S p.block)(v:Value):Chg S A (B.setCell p v):=
 ⟨h.os,h.tape,h.output,by have:=h.size;simpa [World.setCell]using this,fun b a c=>(uj _ _ _ _ (fun e=>by subst e;exact c (hp a))).trans (h.block b a c)⟩
theorem Chg.putObj{S:Nat->Prop}{A B:World}(h:Chg S A B){l:Nat}(hp:l<A.heap.size->S l)(o:Obj):Chg S A (B.putObj l o):=
 ⟨h.os,h.tape,h.output,by have:=h.size;simpa using this,fun b a c=>(yx (fun e=>by subst e;exact c (hp a))).trans (h.block b a c)⟩
theorem Chg.grown{S:Nat->Prop}{A B C:World}{row:Option Nat}(h:Chg S A B)(hg:B.grownBy C row)(hr:∀k,row=some k->k<A.heap.size->S k):Chg S A C:=
 ⟨hg.os.trans h.os,hg.tape.trans h.tape,hg.output.trans h.output,zw h.size hg.size,fun b a c=>(hg.block b (z9 a h.size) (fun e=>c (hr b e.symm a))).trans (h.block b a c)⟩
theorem Chg.of_below{S:Nat->Prop}{A B:World}(h:Below A.heap.size A B):Chg S A B:=⟨h.os,h.tape,h.output,h.size,fun b a _=>h.block b a⟩
theorem Chg.below{S:Nat->Prop}{A B:World}(h:Chg S A B){n:Nat}(hn:n<=A.heap.size)(hs:∀b,b<n->¬ S b):Below n A B:=
 ⟨h.os,h.tape,h.output,h.size,fun b a=>h.block b (z9 a hn) (hs b a)⟩
theorem Chg.cell{S:Nat->Prop}{A B:World}(h:Chg S A B){p:Addr}(hp:p.block<A.heap.size)(hn:¬ S p.block):B.cell? p=A.cell? p:=za (w:=A) (h.block _ hp hn)
def Grows(S S':Nat->Prop)(W:World):Prop:=∀b,S' b->S b∨W.heap.size<=b
theorem Grows.refl(S:Nat->Prop)(W:World):Grows S S W:=fun _ h=>.inl h
theorem Grows.trans{S S1 S2:Nat->Prop}{A B:World}(h:Grows S S1 A)(k:Grows S1 S2 B)(hs:A.heap.size<=B.heap.size):Grows S S2 A:=fun b c=>by
 rcases k b c with a|a
 ·exact h b a
 ·exact .inr (zw hs a)
def ie(S:Nat->Prop)(W:World):Prop:=∀b,S b->b<W.heap.size
theorem ie.later{S:Nat->Prop}{A B:World}(h:ie S A)(k:A.heap.size<=B.heap.size):ie S B:=fun b a=>z9 (h b a) k
def Loc(J:(Nat->Prop)->World->Prop):Prop:=∀S W W',J S W->ie S W->W.heap.size<=W'.heap.size->(∀b,S b->W'.heap[b]?=W.heap[b]?)->J S W'
def lf(P:Program)(yv:Value)(args:Array Value)(W:World)(R:Ending->World->Prop):Prop:=
 (∃g lb,yv=.func (.func g) #[] lb/\(∀a w,(callFunc g a).run P w=.ok (.enter g a) w)/\Calls P g (args++lb) W R) ∨
 (∃l fn tmps asg body,yv=.func (.yield l) #[] #[]/\(Instr.yield l args).run P W=.ok (.round l fn tmps asg body) W/\RoundIn Fence.wide 0 P l fn tmps asg body W R)
theorem lf.mono{P:Program}{yv:Value}{args:Array Value}{W:World}{R R':Ending->World->Prop}(h:lf P yv args W R)(hr:∀e w,R e w->R' e w):lf P yv args W R':=by
 rcases h with ⟨g,lb,c,d,f⟩ | ⟨l,fn,t,a,b,c,d,f⟩
 ·exact .inl ⟨g,lb,c,d,f.mono hr⟩
 exact .inr ⟨l,fn,t,a,b,c,d,f.mono hr⟩
theorem lK{F:Fence}{n m:Nat}{P:Program}{l f:Nat}{tmps:Array Value}{a b:Code}{W:World}{R:Ending->World->Prop}(hF:F.plain=Fence.wide)(h:RoundIn Fence.wide m P l f tmps a b W R):RoundIn F n P l f tmps a b W R:=by
 have d:RoundIn F.plain n P l f tmps a b W R:=by
  rw[hF];exact⟨trivial,fun c cs _=>h.2 c cs (room_wide _)⟩
 exact d
theorem aL{F:Fence}{n:Nat}{P:Program}{f:FuncId}{args:Array Value}{W:World}{R:Ending->World->Prop}(hF:F.plain=Fence.wide)(h:Calls P f args W R):CallsIn F n P f args W R:=by
 have a:CallsIn F.plain n P f args W R:=(by rw[hF];exact callsIn_wide.2 h);exact a
theorem fM{F:Fence}{n:Nat}{P:Program}{ops:Array Oper}{rest:List Oper}{a:Act}{w:World}{Q:Exit->Act->World->Prop}{dst:Option Tmp}{g:Operand}{xl:List Operand}{tys:Array TypeId}{ty:TypeId}{pos:String}{after:Array Edge}{gd:Option (Nat×Bool)}(hw:Region.wanted { dst:=dst,op:=.call { callee:=.value g,args:=xl.toArray,argTypes:=tys },type:=ty,pos:=pos,after:=after,guard:=gd } (yielded ops a.tmps)=true)(hF:F.plain=Fence.wide)(yv:Value)(al:List Value)(hy:a.eval g=yv)(hx':xl.map a.eval=al)(h:lf P yv al.toArray w fun e k=>∃v,e=.returned v/\wpListIn F n P ops Q rest (a.put dst v) k):wpListIn F n P ops Q ({ dst:=dst,op:=.call { callee:=.value g,args:=xl.toArray,argTypes:=tys },type:=ty,pos:=pos,after:=after,guard:=gd }::rest) a w:=by
 obtain⟨args,b⟩:=ag al.toArray;rw[b]at h;have q:xl.toArray.map a.eval=args:=by rw[<-b,<-hx'];simp
 have m:∀f,F.fn f:=fun f=>by
  have:F.plain.fn f:=by rw[hF];trivial
  exact this
 have i:F.depth=none:=by
  have:F.plain.depth=none:=by rw[hF];rfl
  exact this
 refine wpListIn_step fun K r=>?_
 rw[zv hw];unfold Oper.wpIn;refine⟨fun f _=>m f,?_⟩;rcases h with ⟨s,lb,rfl,u,o⟩ | ⟨l,fn,t,p,j,rfl,x,o⟩
 ·rw[Oper.semAt_plain F _ _ (by intro c d;cases d)]
  have:(execOp a.eval { dst:=dst,op:=.call { callee:=.value g,args:=xl.toArray,argTypes:=tys },type:=ty,pos:=pos,after:=after,guard:=gd }).run P w=.ok (.enter s (args++lb)) w:=by
   simp only[execOp,resolve,hy,q];simp[Deferred.ofValue,invoke,u,go_sem]
  rw[this,Oper.uponIn_enter];refine⟨fun h=>by simp[i]at h,(aL hF o).mono ?_⟩;rintro e k⟨v,rfl,h⟩;exact r _ _ h
 rw[Oper.semAt_plain F _ _ (by intro c d;cases d)]
 have:(execOp a.eval { dst:=dst,op:=.call { callee:=.value g,args:=xl.toArray,argTypes:=tys },type:=ty,pos:=pos,after:=after,guard:=gd }).run P w=.ok (.round l fn t p j) w:=by
  simp only[execOp,resolve,hy,q];simp[Deferred.ofValue,invoke,x,go_sem]
 rw[this,Oper.uponIn_round];refine⟨fun h=>by simp[i]at h,(lK hF o).mono ?_⟩;rintro e k⟨v,rfl,h⟩;exact r _ _ h
def Gives{α:Type}(P:Program)(sv:Value)(encs:α->Array Value)(xs:List α)(M Mm:Nat->Prop)(Q:Nat->World->Prop):Prop:=
 (∀k W W',Q k W->ie M W->W.heap.size<=W'.heap.size->(∀b,M b->W'.heap[b]?=W.heap[b]?)->Q k W')/\(∃g lb,sv=.func (.func g) #[] lb)/\(∀b,Mm b->M b)/\∀(yf:Fn) (yb:Array Value) (J Jx:Nat->(Nat->Prop)->World->Prop) (S:Nat->Prop) (W:World),(∀k,Loc (J k))->(∀k,Loc (Jx k)) ->
  ie S W->ie M W->(∀b,S b->¬ M b)->Q 0 W->J 0 S W ->
  (∀k (hk:k<xs.length) S1 W1,ie S1 W1->Chg (fun b=>S b∨Mm b) W W1->J k S1 W1 ->
   lf P (.func yf #[] yb) (encs xs[k]) W1 fun e W2=>∃S2,Grows S1 S2 W1/\ie S2 W2/\Chg S1 W1 W2/\((e=.returned (.bool true)/\J (k+1) S2 W2)∨(e=.returned (.bool false)/\Jx (k+1) S2 W2))) ->
  lf P sv #[.func yf #[] yb] W fun e W'=>∃v S',e=.returned v/\Grows S S' W/\ie S' W'/\Chg (fun b=>S b∨Mm b) W W'/\((J xs.length S' W'/\Q xs.length W')∨∃k,0<k/\k<=xs.length/\Jx k S' W'/\Q k W')
def DE(S Mm:Nat->Prop)(J Jx:Nat->(Nat->Prop)->World->Prop)(Q:Nat->World->Prop)(n:Nat)(W:World)(e:Ending)(W':World):Prop:=
 ∃v S',e=.returned v/\Grows S S' W/\ie S' W'/\Chg (fun b=>S b∨Mm b) W W'/\((J n S' W'/\Q n W')∨∃k,0<k/\k<=n/\Jx k S' W'/\Q k W')
def tw(I:Nat->(Nat->Prop)->World->Prop)(Ix:Code->Nat->(Nat->Prop)->World->Prop)(k:Nat)(S1:Nat->Prop)(W1:World):Exit->Act->World->Prop
 | .normal,_,W2=>∃S2,Grows S1 S2 W1/\ie S2 W2/\Chg S1 W1 W2/\I k S2 W2
 | .ret,_,W2=>∃S2,Grows S1 S2 W1/\ie S2 W2/\Chg S1 W1 W2/\Ix .ret k S2 W2
 | .exit id,_,W2=>∃S2,Grows S1 S2 W1/\ie S2 W2/\Chg S1 W1 W2/\Ix (.exit id) k S2 W2
 | _,_,_=>False
def jm(D:Nat):Deferred:={ target:=.collected D,args:=#[] }
theorem ff{α:Type}{n:Nat}{P:Program}{g:Operand}{ps:Array Tmp}{assign body:Code}{Q:Exit->Act->World->Prop}{a:Act}{w:World}{sv:Value}(hg:a.eval g=sv){encs:α->Array Value}{xs:List α}{M Mm:Nat->Prop}{Qi:Nat->World->Prop}(hgv:Gives P sv encs xs M Mm Qi)(hps:∀x,(encs x).size=ps.size)(I:Nat->(Nat->Prop)->World->Prop)(Ix:Code->Nat->(Nat->Prop)->World->Prop)(hI:∀k,Loc (I k))(hIx:∀c k,Loc (Ix c k))(S:Nat->Prop)(hS:ie S w)(hM:ie M w)(hSM:∀b,S b->¬ M b)(hQ:Qi 0 w)(h0:I 0 S w)(a₁:α->Act)(hassign:∀(l:Nat) (x:α) (W:World) (K:Act->World->Prop),K (a₁ x) W -> assign.wpIn (Fence.wide.inRound l) 0 P (Exit.then K (fun _ _ _=>False)) { tmps:=(ps.zip (encs x)).foldl (fun t(p,v)=>t.setIfInBounds p v) a.tmps,defers:=[] } W)(hbody:∀(l k:Nat) (hk:k<xs.length) S1 G,ie S1 G->Chg (fun b=>S b∨Mm b) w G->I k S1 G->body.wpIn (Fence.wide.inRound l) 0 P (tw I Ix (k+1) S1 G) (a₁ xs[k]) G)(hdone:∀N J,Grows S N w->ie N J->Chg (fun b=>S b∨Mm b) w J->I xs.length N J->Qi xs.length J->J.heap[w.heap.size]?=some (.deferred (some []))->¬ N w.heap.size -> Q .normal { a with defers:=jm w.heap.size::a.defers } J)(hstop:∀c k N J,0<k->k<=xs.length->Grows S N w->ie N J->Chg (fun b=>S b∨Mm b) w J->Ix c k N J->Qi k J->J.heap[w.heap.size]?=some (.deferred (some []))->¬ N w.heap.size -> c.wpIn Fence.wide n P Q { a with defers:=jm w.heap.size::a.defers } J):(Code.rangeFunc g ps assign body).wpIn Fence.wide n P Q a w:=by
 refine wpIn_rangeFunc ?_;intro fn d7;obtain⟨D,X⟩:=ag w.heap.size;obtain⟨j,f⟩:∃j:LoopState->Option Code->Loop,j=fun st pe=>{ state:=st,pending:=pe,fn,tmps:=a.tmps,params:=ps,assign,body,defers:=D }:=⟨_,rfl⟩
 obtain⟨U,V⟩:=ag ((w.alloc (.deferred (some []))).alloc (.loop (j .ready none)))
 have c1:U.heap[D+1]?=some (.loop (j .ready none)):=by
  rw[<-V];have:=World.alloc_heap_new (w.alloc (.deferred (some []))) (.loop (j .ready none));rw[zj,X]at this;exact this
 have c4:U.heap[D]?=some (.deferred (some [])):=by
  rw[<-V,<-X];exact(wi _ _ _ (by simp)).trans (World.alloc_heap_new w _)
 have a9:U.heap.size=D+2:=(by rw[<-V];simp[X]);have b7:Chg S w U:=by rw[<-V];exact((Chg.refl S w).alloc _).alloc _
 have b8:∀b,b<D->U.heap[b]?=w.heap[b]?:=fun b q=>by
  rw[<-V];exact(wi _ _ _ (by simp;omega)).trans (wi _ _ _ (by omega))
 have b0:∀b,S b->b<D:=(fun b q=>by rw[<-X];exact hS b q);have E:∀b,M b->b<D:=(fun b q=>by rw[<-X];exact hM b q);have d8:∀b,Mm b->b<D:=fun b x=>E b (hgv.2.2.1 b x)
 have b4:=hgv.2.2.2 (.yield (D+1)) #[]
  (fun k T W=>∃d,(∀b,T b↔d b∨b=D+1∨b=D)/\¬ d (D+1)/\¬ d D/\I k d W/\D+2<=W.heap.size/\W.heap[D+1]?=some (.loop (j .ready none))/\W.heap[D]?=some (.deferred (some [])))
  (fun k T W=>∃d,(∀b,T b↔d b∨b=D+1∨b=D)/\¬ d (D+1)/\¬ d D/\D+2<=W.heap.size/\∃c,Ix c k d W/\W.heap[D+1]?=some (.loop (j .done (some c)))/\W.heap[D]?=some (.deferred (some [])))
  (fun b=>S b∨b=D+1∨b=D) U
  (by
   rintro k T W J⟨d,hT,F,h2,hi,hz,hl,hd⟩ L b1 q;exact⟨d,hT,F,h2,hI k d W J hi (fun b h=>L b ((hT b).2 (.inl h))) b1 (fun b h=>q b ((hT b).2 (.inl h))),by omega,(q _ ((hT _).2 (.inr (.inl rfl)))).trans hl,(q _ ((hT _).2 (.inr (.inr rfl)))).trans hd⟩)
  (by
   rintro k T W J⟨d,hT,F,h2,hz,c,hi,hl,hd⟩ L b1 q;exact⟨d,hT,F,h2,by omega,c,hIx c k d W J hi (fun b h=>L b ((hT b).2 (.inl h))) b1 (fun b h=>q b ((hT b).2 (.inl h))),(q _ ((hT _).2 (.inr (.inl rfl)))).trans hl,(q _ ((hT _).2 (.inr (.inr rfl)))).trans hd⟩)
  (by
   rintro b(h|rfl|rfl) <;> rw[a9]
   ·have:=b0 b h;omega
   ·omega
   ·omega)
  (fun b h=>by rw[a9];have:=E b h;omega)
  (by
   rintro b(h|rfl|rfl) hm
   ·exact hSM b h hm
   ·have:=E _ hm;omega
   ·have:=E _ hm;omega)
  (hgv.1 0 w U hQ hM (by rw[a9];omega) (fun b q=>b8 b (E b q)))
  ⟨S,fun _=>Iff.rfl,fun h=>by have:=b0 _ h;omega,fun h=>by have:=b0 _ h;omega,hI 0 S w U h0 hS (by rw[a9];omega) (fun b q=>b8 b (b0 b q)),by omega,c1,c4⟩
  (by
   rintro k hk T G L Z⟨d,hT,u,z,hi,hz,hl,hd⟩;have b1:=Z.size;have c5:D+1<G.heap.size:=(by omega);have hy:=run_yield (P:=P) (args:=encs xs[k]) hl (by rw[f];exact hps _);rw[f]at hy;refine .inr ⟨D+1,fn,_,assign,body,rfl,hy,roundIn_of_wpIn trivial (hassign _ xs[k] G _ ⟨_,run_beginRound hl (by rw[f]),?_⟩)⟩;obtain⟨m,O⟩:=ag (G.putObj (D+1) (.loop { j .ready none with state:=.busy }));rw[O];have c6:m.heap.size=G.heap.size:=(by rw[<-O];simp);have c7:m.heap[D+1]?=some (.loop { j .ready none with state:=.busy }):=(by rw[<-O];exact World.putObj_heap_same c5);have c8:m.heap[D]?=some (.deferred (some [])):=(by rw[<-O];exact(yx (by omega)).trans hd);have d0:∀b,b≠D+1->m.heap[b]?=G.heap[b]?:=(fun b q=>by rw[<-O];exact yx q);have r:ie d G:=(fun b h=>L b ((hT b).2 (.inl h)));have d1:I k d m:=hI k d G m hi r (by omega) (fun b h=>d0 b (fun e=>u (e▸h)))
   refine wpIn_mono (hbody (D+1) k hk d m (fun b h=>by rw[c6];exact r b h) (by
    have:Chg (fun b=>S b∨Mm b) w G:=b7.trans Z (fun _ _ h=>.inl h) (fun b q h=>by
     rcases h with (h|h|h) | h
     ·exact .inl h
     ·omega
     ·omega
     ·exact .inr h)
    rw[<-O];exact this.putObj (fun h=>by omega) _) d1) ?_
   have d2:Chg T G m:=by rw[<-O];exact(Chg.refl T G).putObj (fun _=>(hT _).2 (.inr (.inl rfl))) _
   have b5:∀(B:Option Code) (H:Nat->Prop) (Y:World),Grows d H m->ie H Y->Chg d m Y->∃W4,
     (Instr.endRound (D+1) B).run P Y=.ok (.bool B.isNone) W4/\W4.heap.size=Y.heap.size/\(∀b,b≠D+1->W4.heap[b]?=Y.heap[b]?)/\¬ H (D+1)/\¬ H D/\Grows T (fun b=>H b∨b=D+1∨b=D) G/\ie (fun b=>H b∨b=D+1∨b=D) W4/\Chg T G W4/\D+2<=W4.heap.size/\W4.heap[D+1]?=some (.loop (j (if B.isNone then .ready else .done) B))/\W4.heap[D]?=some (.deferred (some [])):=fun B H Y y i s=>by
    have d9:=s.size;have d3:Y.heap[D+1]?=some (.loop { j .ready none with state:=.busy }):=(s.block _ (by omega) u).trans c7;have d4:Y.heap[D]?=some (.deferred (some [])):=(s.block _ (by omega) z).trans c8
    have A:¬ H (D+1):=fun h=>by
     rcases y _ h with F|F
     ·exact u F
     ·omega
    have R:¬ H D:=fun h=>by
     rcases y _ h with F|F
     ·exact z F
     ·omega
    have d5:=run_endRound (P:=P) B d3;refine⟨_,d5,by simp,fun b q=>yx q,A,R,?_,?_,?_,by simp;omega,?_,(yx (by omega)).trans d4⟩
    ·rintro b(h|h|h)
     ·rcases y b h with F|F
      ·exact .inl ((hT b).2 (.inl F))
      ·exact .inr (by omega)
     ·exact .inl ((hT b).2 (.inr (.inl h)))
     ·exact .inl ((hT b).2 (.inr (.inr h)))
    ·rintro b(h|h|h)
     ·have:=i b h;simpa using this
     ·simp;omega
     ·simp;omega
    ·refine(d2.trans s (fun _ _ h=>h) (fun b _ h=>(hT b).2 (.inl h))).putObj (fun _=>(hT _).2 (.inr (.inl rfl))) _
    ·rw[World.putObj_heap_same (by omega),f]
   rintro e a3 Y hp;cases e with
   | normal =>
    obtain⟨H,y,i,s,a0⟩:=hp;obtain⟨W4,hr,b9,a1,A,R,a2,a4,a5,a6,a7,a8⟩:=b5 none H Y y i s;exact⟨_,_,hr,_,a2,a4,a5,.inl ⟨rfl,H,fun _=>Iff.rfl,A,R,hI _ _ _ _ a0 i (by omega) (fun b h=>a1 b (fun e=>A (e▸h))),a6,a7,a8⟩⟩
   | ret =>
    obtain⟨H,y,i,s,a0⟩:=hp;obtain⟨W4,hr,b9,a1,A,R,a2,a4,a5,a6,a7,a8⟩:=b5 (some .ret) H Y y i s;exact⟨_,_,hr,_,a2,a4,a5,.inr ⟨rfl,H,fun _=>Iff.rfl,A,R,a6,_,hIx _ _ _ _ _ a0 i (by omega) (fun b h=>a1 b (fun e=>A (e▸h))),a7,a8⟩⟩
   | exit id =>
    obtain⟨H,y,i,s,a0⟩:=hp;obtain⟨W4,hr,b9,a1,A,R,a2,a4,a5,a6,a7,a8⟩:=b5 (some (.exit id)) H Y y i s;exact⟨_,_,hr,_,a2,a4,a5,.inr ⟨rfl,H,fun _=>Iff.rfl,A,R,a6,_,hIx _ _ _ _ _ a0 i (by omega) (fun b h=>a1 b (fun e=>A (e▸h))),a7,a8⟩⟩
   | goto t=>exact hp.elim
   | panic ch=>exact hp.elim
   | outgrown=>exact hp.elim)
 have e1:a.eval g=sv:=hg
 have b6:∀e m,(∃v N,e=Ending.returned v/\Grows (fun b=>S b∨b=D+1∨b=D) N U/\ie N m/\Chg (fun b=>(S b∨b=D+1∨b=D)∨Mm b) U m/\(((∃d,(∀b,N b↔d b∨b=D+1∨b=D)/\¬ d (D+1)/\¬ d D/\I xs.length d m/\D+2<=m.heap.size/\m.heap[D+1]?=some (.loop (j .ready none))/\m.heap[D]?=some (.deferred (some [])))/\Qi xs.length m) ∨
    ∃k,0<k/\k<=xs.length/\(∃d,(∀b,N b↔d b∨b=D+1∨b=D)/\¬ d (D+1)/\¬ d D/\D+2<=m.heap.size/\∃c,Ix c k d m/\m.heap[D+1]?=some (.loop (j .done (some c)))/\m.heap[D]?=some (.deferred (some [])))/\Qi k m)) ->
   rangePost Fence.wide n P (D+1) Q { a with defers:=[jm D]++a.defers } e m:=by
  rintro e m⟨v,N,rfl,y,L,s,c0⟩
  have b2:∀d:Nat->Prop,(∀b,N b↔d b∨b=D+1∨b=D)->¬ d (D+1)->¬ d D->Grows S d w:=fun d hT u z b q=>by
   rcases y b ((hT b).2 (.inl q))with (F|F|F) | F
   ·exact .inl F
   ·exact absurd (F▸q) u
   ·exact absurd (F▸q) z
   ·exact .inr (by omega)
  have b3:∀o:Obj,Chg (fun b=>S b∨Mm b) w (m.putObj (D+1) o):=fun o =>
   ((b7.trans s (T:=fun b=>S b∨Mm b) (fun _ _ h=>.inl h) (fun b q h=>by
    rcases h with (h|h|h) | h
    ·exact .inl h
    ·omega
    ·omega
    ·exact .inr h)).putObj (fun h=>by omega) o)
  rcases c0 with ⟨⟨d,hT,u,z,hi,hz,hl,hd⟩,hq⟩ | ⟨k,d6,hk,⟨d,hT,u,z,hz,c,hi,hl,hd⟩,hq⟩
  ·have r:ie d m:=(fun b h=>L b ((hT b).2 (.inl h)));refine⟨none,_,by have:=run_endLoop (P:=P) hl (by rw[f];simp);rw[f]at this;exact this,?_⟩
   have:=hdone d (m.putObj (D+1) (.loop { j .ready none with state:=.exhausted })) (b2 d hT u z) (fun b h=>by simpa using r b h) (b3 _)
    (hI _ _ _ _ hi r (by simp) (fun b h=>yx (fun e=>u (e▸h))))
    (hgv.1 _ _ _ hq (fun b h=>by have:=E b h;omega) (by simp) (fun b h=>yx (by have:=E b h;omega)))
    (by rw[X];exact(yx (by omega)).trans hd) (by rw[X];exact z)
   rw[X,f]at this;exact this
  ·have r:ie d m:=(fun b h=>L b ((hT b).2 (.inl h)));refine⟨some c,_,by have:=run_endLoop (P:=P) hl (by rw[f];simp);rw[f]at this;exact this,?_⟩
   have:=hstop c k d (m.putObj (D+1) (.loop { j .done (some c)with state:=.exhausted })) d6 hk (b2 d hT u z) (fun b h=>by simpa using r b h) (b3 _)
    (hIx _ _ _ _ _ hi r (by simp) (fun b h=>yx (fun e=>u (e▸h))))
    (hgv.1 _ _ _ hq (fun b h=>by have:=E b h;omega) (by simp) (fun b h=>yx (by have:=E b h;omega)))
    (by rw[X];exact(yx (by omega)).trans hd) (by rw[X];exact z)
   rw[X,f]at this;exact this
 rcases b4 with ⟨gf,lb,rfl,he,hc⟩ | ⟨l',_,_,_,_,rfl,e2,e3⟩
 ·refine⟨D+1,[jm D],U,{ target:=.fn (.func gf) lb,args:=#[.func (.yield (D+1)) #[] #[]] },U,gf,
   #[.func (.yield (D+1)) #[] #[]]++lb,U,?_,?_,fun _ _=>trivial,?_,fun h=>by simp[Fence.wide]at h,?_⟩
  ·rw[<-V,f,<-X];exact run_enterLoop_outer _ _ _ _ _
  ·simp only[resolve,hg];simp[go_sem]
  ·simp[invoke,go_sem,he]
  exact callsIn_wide.2 (hc.mono b6)

 obtain⟨g',e4,hh⟩:=hgv.2.1;cases hh
theorem wH{F:Fence}{n:Nat}{P:Program}{fn:Func}{R:Ending->World->Prop}{tmps:Array Value}{w:World}{D:Nat}{t:Tmp}(hres:fn.results=#[.tmp t])(hK:w.heap[D]?=some (.deferred (some [])))(h:∀a,Chg (fun b=>b=D) w a->a.heap.size=w.heap.size->R (.returned (tmps.getD t undef)) a):bodyPostM F n P fn R .ret { tmps:=tmps,defers:=[jm D] } w:=by
 have:LeavesInM F n P fn tmps R [jm D] .returning w:=by
  refine⟨by simp,.inl ⟨_,_,rfl,run_takeDeferred hK,?_⟩⟩;exact⟨_,results_tmp hres _ _ _,h _ ((Chg.refl (fun b=>b=D) w).putObj (l:=D) (fun _=>rfl) _) (by simp)⟩
 exact this
def Plus(own:Nat->Prop)(J:(Nat->Prop)->World->Prop)(C:World->Prop)(T:Nat->Prop)(W:World):Prop:=
 ∃T0,(∀b,T b↔T0 b∨own b)/\(∀b,own b->¬ T0 b)/\J T0 W/\C W
def Cell(W:World)(b:Nat)(v:Value):Prop:=W.cell? ⟨b,0,none⟩=some v/\W.frozen? ⟨b,0,none⟩=false
theorem Cell.of{W W':World}{b:Nat}{v:Value}(h:Cell W b v)(hb:W'.heap[b]?=W.heap[b]?):Cell W' b v:=
 ⟨(za (w:=W) hb).trans h.1,(vc (w:=W) hb).trans h.2⟩
theorem Cell.lt{W:World}{b:Nat}{v:Value}(h:Cell W b v):b<W.heap.size:=xn W ⟨b,0,none⟩ h.1
theorem Cell.new(W:World)(v:Value)(t:TypeId):Cell (W.alloc (.cells #[v] t)) W.heap.size v:=by
 exact⟨by rw[World.cell?_alloc_new];rfl,World.frozen?_alloc_new W _ _ _⟩
theorem Cell.set{W:World}{b:Nat}{v:Value}(h:Cell W b v)(u:Value):Cell (W.setCell ⟨b,0,none⟩ u) b u:=
 ⟨wq _ _ _ h.1,by rw[um];exact h.2⟩
theorem Cell.drew{W:World}{b:Nat}{v:Value}(h:Cell W b v):Cell W.drew b v:=h
