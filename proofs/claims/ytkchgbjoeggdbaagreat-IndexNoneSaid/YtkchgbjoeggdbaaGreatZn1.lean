import Derived.Lib.Hide
import Derived.RangeFuncNested
import Derived.RangeFuncBound
import Derived.OwnWalkIn
namespace Go.Proofs.YtkchgbjoeggdbaaGreat
open Go Go.RowKit
theorem z6:type_of% @List.getElem?_eq_getElem:=@List.getElem?_eq_getElem
theorem z7:type_of% @heap_alloc_new:=@heap_alloc_new
theorem z8:type_of% @List.getElem_mem:=@List.getElem_mem
theorem z9:type_of% @Nat.lt_of_lt_of_le:=@Nat.lt_of_lt_of_le
theorem ze:type_of% @World.cell?_of_block:=@World.cell?_of_block
theorem zg:type_of% @Below.refl:=@Below.refl
theorem zh:type_of% @List.take_zero:=@List.take_zero
theorem zj:type_of% @Nat.zero_le:=@Nat.zero_le
theorem zm:type_of% @World.size_alloc:=@World.size_alloc
theorem zo:type_of% @Nat.le_refl:=@Nat.le_refl
theorem zq:type_of% @frozen_of_row:=@frozen_of_row
theorem zu:type_of% @if_neg:=@if_neg
theorem zv:type_of% @List.getD_eq_getElem?_getD:=@List.getD_eq_getElem?_getD
theorem zw:type_of% @if_pos:=@if_pos
theorem zx:type_of% @Nat.le_trans:=@Nat.le_trans
theorem zy:type_of% @Bool.and_eq_true:=@Bool.and_eq_true
theorem zz:type_of% @List.mem_singleton:=@List.mem_singleton
theorem y6:type_of% @List.length_append:=@List.length_append
theorem y7:type_of% @heap_setCell_same:=@heap_setCell_same
theorem y8:type_of% @bodyPost_ret:=@bodyPost_ret
theorem y9:type_of% @heap_setCell_other:=@heap_setCell_other
theorem ya:type_of% @List.getElem?_append_right:=@List.getElem?_append_right
theorem yd:type_of% @List.length_map:=@List.length_map
theorem ye:type_of% @List.drop_zero:=@List.drop_zero
theorem yh:type_of% @Nat.not_lt_zero:=@Nat.not_lt_zero
theorem yi:type_of% @List.take_succ_eq_append_getElem:=@List.take_succ_eq_append_getElem
theorem ym:type_of% @List.drop_nil:=@List.drop_nil
theorem yo:type_of% @and_true:=@and_true
theorem yp:type_of% @decide_eq_false:=@decide_eq_false
theorem yq:type_of% @World.putObj_heap_other:=@World.putObj_heap_other
theorem yu:type_of% @List.take_of_length_le:=@List.take_of_length_le
theorem yw:type_of% @List.getElem_map:=@List.getElem_map
theorem yx:type_of% @List.getElem_append_left:=@List.getElem_append_left
theorem yy:type_of% @decide_eq_true:=@decide_eq_true
theorem xa:type_of% @List.length_cons:=@List.length_cons
theorem xd:type_of% @List.mem_range:=@List.mem_range
theorem xe:type_of% @List.getElem?_map:=@List.getElem?_map
theorem xh:type_of% @World.block_lt_of_cell?:=@World.block_lt_of_cell?
theorem xi:type_of% @List.all_eq_true:=@List.all_eq_true
theorem xj:type_of% @Nat.zero_add:=@Nat.zero_add
theorem xm:type_of% @World.cell?_setCell_other:=@World.cell?_setCell_other
theorem xn:type_of% @Nat.le_of_eq:=@Nat.le_of_eq
theorem xp:type_of% @List.getElem_of_mem:=@List.getElem_of_mem
theorem xq:type_of% @List.length_take:=@List.length_take
theorem xu:type_of% @List.getElem?_append_left:=@List.getElem?_append_left
theorem xy:type_of% @List.mem_cons:=@List.mem_cons
theorem xz:type_of% @decide_eq_true_eq:=@decide_eq_true_eq
theorem we:type_of% @Below.heap_alloc:=@Below.heap_alloc
theorem wf:type_of% @of_decide_eq_true:=@of_decide_eq_true
theorem wg:type_of% @List.eq_nil_of_length_eq_zero:=@List.eq_nil_of_length_eq_zero
theorem wh:type_of% @Bool.or_eq_true:=@Bool.or_eq_true
theorem wi:type_of% @World.cell?_setCell_same:=@World.cell?_setCell_same
theorem wj:type_of% @ByteArray.toList_eq:=@ByteArray.toList_eq
theorem wk:type_of% @List.pairwise_cons:=@List.pairwise_cons
theorem wm:type_of% @Nat.lt_or_ge:=@Nat.lt_or_ge
theorem wo:type_of% @Int.toNat_natCast:=@Int.toNat_natCast
theorem wq:type_of% @World.frozen?_of_block:=@World.frozen?_of_block
theorem wt:type_of% @Array.getElem?_eq_none:=@Array.getElem?_eq_none
theorem wu:type_of% @Bool.eq_iff_iff:=@Bool.eq_iff_iff
theorem wv:type_of% @List.flatMap_cons:=@List.flatMap_cons
theorem ww:type_of% @decide_eq_false_iff_not:=@decide_eq_false_iff_not
theorem v6:type_of% @List.any_eq_false:=@List.any_eq_false
theorem vc:type_of% @List.length_nil:=@List.length_nil
theorem vd:type_of% @List.any_eq_true:=@List.any_eq_true
theorem ve:type_of% @Bool.true_and:=@Bool.true_and
theorem vf:type_of% @List.getElem_append_right:=@List.getElem_append_right
theorem vh:type_of% @List.drop_eq_getElem_cons:=@List.drop_eq_getElem_cons
theorem vk:type_of% @List.not_mem_nil:=@List.not_mem_nil
theorem vn:type_of% @List.getElem?_eq_none:=@List.getElem?_eq_none
theorem vp:type_of% @List.length_set:=@List.length_set
theorem vq:type_of% @beq_iff_eq:=@beq_iff_eq
theorem vt:type_of% @List.length_drop:=@List.length_drop
theorem vu:type_of% @Nat.lt_irrefl:=@Nat.lt_irrefl
theorem vw:type_of% @List.map_append:=@List.map_append
theorem vz:type_of% @List.find?_eq_none:=@List.find?_eq_none
theorem IW:type_of% @Nat.lt_succ_self:=@Nat.lt_succ_self
theorem IQ:type_of% @List.ext_getElem?:=@List.ext_getElem?
theorem IU:type_of% @List.nil_append:=@List.nil_append
theorem IV:type_of% @List.cons_append:=@List.cons_append
theorem ua:type_of% @Below.heap_setCell:=@Below.heap_setCell
theorem ub:type_of% @World.frozen?_setCell:=@World.frozen?_setCell
theorem uc:type_of% @List.take_append_drop:=@List.take_append_drop
theorem ud:type_of% @List.mem_map_of_mem:=@List.mem_map_of_mem
theorem ae.{u}{α:Sort u}(a:α):∃x,a=x:=⟨a,rfl⟩
theorem aa{p:Prop}(h:p):Hid p:=Lib.hid h
theorem ab{a b:Prop}(x:a)(y:b):a/\b:=⟨x,y⟩
abbrev II(a b:World):Prop:=Below a.heap.size a b
theorem eh{α:Type}{l:List α}{i:Nat}:l.toArray[i]?=l[i]?:=List.getElem?_toArray
theorem ez{α:Type}{a:α}{l:List α}:(a::l)[0]?=some a:=List.getElem?_cons_zero
theorem dz{α:Type}{a:α}{l:List α}{i:Nat}:(a::l)[i+1]?=l[i]?:=List.getElem?_cons_succ
theorem ew{α:Type}{l:List α}{i:Nat}{a:α}:l.toArray.setIfInBounds i a=(l.set i a).toArray:=List.setIfInBounds_toArray ..
theorem ey{α:Type}{x:α}{l:List α}{a:α}:(x::l).set 0 a=a::l:=List.set_cons_zero
theorem ed{α:Type}{x:α}{l:List α}{n:Nat}{a:α}:(x::l).set (n+1) a=x::l.set n a:=List.set_cons_succ
theorem ic{α:Type}{x:α}{l:List α}{d:α}:(x::l).getD 0 d=x:=List.getD_cons_zero
theorem gy{α:Type}{x:α}{l:List α}{n:Nat}{d:α}:(x::l).getD (n+1) d=l.getD n d:=List.getD_cons_succ
theorem eo{α β:Type}{a:α}{f:α->Option β}:(some a).bind f=f a:=Option.bind_some ..
theorem en{α:Type}{x:α}{l:List α}{n:Nat}:(x::l).take (n+1)=x::l.take n:=List.take_succ_cons
theorem ex{α:Type}{x:α}{l:List α}{n:Nat}:(x::l).drop (n+1)=l.drop n:=List.drop_succ_cons
structure Chg (S:Nat->Prop) (W W':World):Prop where
 os:W'.os=W.os
 tape:W'.tape=W.tape
 output:W'.output=W.output
 size:W.heap.size<=W'.heap.size
 block:∀k,k<W.heap.size->¬ S k->W'.heap[k]?=W.heap[k]?
theorem Chg.refl(S:Nat->Prop)(W:World):Chg S W W:=⟨rfl,rfl,rfl,zo _,fun _ _ _=>rfl⟩
theorem Chg.trans{S S1 T:Nat->Prop}{A B C:World}(h:Chg S A B)(k:Chg S1 B C)(hs:∀b,b<A.heap.size->S b->T b)(hs1:∀b,b<A.heap.size->S1 b->T b):Chg T A C:=
 ⟨k.os.trans h.os,k.tape.trans h.tape,k.output.trans h.output,zx h.size k.size,fun b a c =>
  (k.block b (z9 a h.size) (fun x=>c (hs1 b a x))).trans (h.block b a (fun x=>c (hs b a x)))⟩
theorem Chg.mono{S T:Nat->Prop}{A B:World}(h:Chg S A B)(hs:∀b,b<A.heap.size->S b->T b):Chg T A B:=
 ⟨h.os,h.tape,h.output,h.size,fun b a c=>h.block b a (fun x=>c (hs b a x))⟩
theorem Chg.alloc{S:Nat->Prop}{A B:World}(h:Chg S A B)(o:Obj):Chg S A (B.alloc o):=
 ⟨h.os,h.tape,h.output,by have:=h.size;simp;omega,fun b a c=>(we _ _ _ (z9 a h.size)).trans (h.block b a c)⟩
theorem Chg.drew{S:Nat->Prop}{A B:World}(h:Chg S A B):Chg S A B.drew:=⟨h.os,h.tape,h.output,h.size,h.block⟩
theorem Chg.setCell{S:Nat->Prop}{A B:World}(h:Chg S A B){p:Addr}(hp:p.block<A.heap.size->S p.block)(v:Value):Chg S A (B.setCell p v):=
 ⟨h.os,h.tape,h.output,by have:=h.size;simpa [World.setCell]using this,fun b a c=>(ua _ _ _ _ (fun e=>by subst e;exact c (hp a))).trans (h.block b a c)⟩
theorem Chg.putObj{S:Nat->Prop}{A B:World}(h:Chg S A B){l:Nat}(hp:l<A.heap.size->S l)(o:Obj):Chg S A (B.putObj l o):=
 ⟨h.os,h.tape,h.output,by have:=h.size;simpa using this,fun b a c=>(yq (fun e=>by subst e;exact c (hp a))).trans (h.block b a c)⟩
theorem Chg.grown{S:Nat->Prop}{A B C:World}{row:Option Nat}(h:Chg S A B)(hg:B.grownBy C row)(hr:∀k,row=some k->k<A.heap.size->S k):Chg S A C:=
 ⟨hg.os.trans h.os,hg.tape.trans h.tape,hg.output.trans h.output,zx h.size hg.size,fun b a c=>(hg.block b (z9 a h.size) (fun e=>c (hr b e.symm a))).trans (h.block b a c)⟩
theorem Chg.of_below{S:Nat->Prop}{A B:World}(h:Below A.heap.size A B):Chg S A B:=⟨h.os,h.tape,h.output,h.size,fun b a _=>h.block b a⟩
theorem Chg.below{S:Nat->Prop}{A B:World}(h:Chg S A B){n:Nat}(hn:n<=A.heap.size)(hs:∀b,b<n->¬ S b):Below n A B:=
 ⟨h.os,h.tape,h.output,h.size,fun b a=>h.block b (z9 a hn) (hs b a)⟩
theorem Chg.cell{S:Nat->Prop}{A B:World}(h:Chg S A B){p:Addr}(hp:p.block<A.heap.size)(hn:¬ S p.block):B.cell? p=A.cell? p:=ze (w:=A) (h.block _ hp hn)
def Grows(S S':Nat->Prop)(W:World):Prop:=∀b,S' b->S b∨W.heap.size<=b
theorem Grows.refl(S:Nat->Prop)(W:World):Grows S S W:=fun _ h=>.inl h
theorem Grows.trans{S S1 S2:Nat->Prop}{A B:World}(h:Grows S S1 A)(k:Grows S1 S2 B)(hs:A.heap.size<=B.heap.size):Grows S S2 A:=fun b c=>by
 rcases k b c with a|a
 ·exact h b a
 ·exact .inr (zx hs a)
def fi(S:Nat->Prop)(W:World):Prop:=∀b,S b->b<W.heap.size
theorem fi.later{S:Nat->Prop}{A B:World}(h:fi S A)(k:A.heap.size<=B.heap.size):fi S B:=fun b a=>z9 (h b a) k
def Loc(J:(Nat->Prop)->World->Prop):Prop:=∀S W W',J S W->fi S W->W.heap.size<=W'.heap.size->(∀b,S b->W'.heap[b]?=W.heap[b]?)->J S W'
def ig(P:Program)(yv:Value)(args:Array Value)(W:World)(R:Ending->World->Prop):Prop:=
 (∃g lb,yv=.func (.func g) #[] lb/\(∀a w,(callFunc g a).run P w=.ok (.enter g a) w)/\Calls P g (args++lb) W R) ∨
 (∃l fn tmps asg body,yv=.func (.yield l) #[] #[]/\(Instr.yield l args).run P W=.ok (.round l fn tmps asg body) W/\RoundIn Fence.wide 0 P l fn tmps asg body W R)
theorem ig.mono{P:Program}{yv:Value}{args:Array Value}{W:World}{R R':Ending->World->Prop}(h:ig P yv args W R)(hr:∀e w,R e w->R' e w):ig P yv args W R':=by
 rcases h with ⟨g,lb,c,d,f⟩ | ⟨l,fn,t,a,b,c,d,f⟩
 ·exact .inl ⟨g,lb,c,d,f.mono hr⟩
 exact .inr ⟨l,fn,t,a,b,c,d,f.mono hr⟩
theorem eX{F:Fence}{n m:Nat}{P:Program}{l f:Nat}{tmps:Array Value}{a b:Code}{W:World}{R:Ending->World->Prop}(hF:F.plain=Fence.wide)(h:RoundIn Fence.wide m P l f tmps a b W R):RoundIn F n P l f tmps a b W R:=by
 have d:RoundIn F.plain n P l f tmps a b W R:=by
  rw[hF];exact⟨trivial,fun c cs _=>h.2 c cs (room_wide _)⟩
 exact d
theorem aI{F:Fence}{n:Nat}{P:Program}{f:FuncId}{args:Array Value}{W:World}{R:Ending->World->Prop}(hF:F.plain=Fence.wide)(h:Calls P f args W R):CallsIn F n P f args W R:=by
 have a:CallsIn F.plain n P f args W R:=(by rw[hF];exact callsIn_wide.2 h);exact a
theorem lG{F:Fence}{n:Nat}{P:Program}{ops:Array Oper}{rest:List Oper}{a:Act}{w:World}{Q:Exit->Act->World->Prop}{dst:Option Tmp}{g:Operand}{xl:List Operand}{tys:Array TypeId}{ty:TypeId}{pos:String}{after:Array Edge}{gd:Option (Nat×Bool)}(hw:Region.wanted { dst:=dst,op:=.call { callee:=.value g,args:=xl.toArray,argTypes:=tys },type:=ty,pos:=pos,after:=after,guard:=gd } (yielded ops a.tmps)=true)(hF:F.plain=Fence.wide)(yv:Value)(al:List Value)(hy:a.eval g=yv)(hx':xl.map a.eval=al)(h:ig P yv al.toArray w fun e k=>∃v,e=.returned v/\wpListIn F n P ops Q rest (a.put dst v) k):wpListIn F n P ops Q ({ dst:=dst,op:=.call { callee:=.value g,args:=xl.toArray,argTypes:=tys },type:=ty,pos:=pos,after:=after,guard:=gd }::rest) a w:=by
 obtain⟨args,b⟩:=ae al.toArray;rw[b]at h;have q:xl.toArray.map a.eval=args:=by rw[<-b,<-hx'];simp
 have m:∀f,F.fn f:=fun f=>by
  have:F.plain.fn f:=by rw[hF];trivial
  exact this
 have i:F.depth=none:=by
  have:F.plain.depth=none:=by rw[hF];rfl
  exact this
 refine wpListIn_step fun K r=>?_
 rw[zw hw];unfold Oper.wpIn;refine⟨fun f _=>m f,?_⟩;rcases h with ⟨s,lb,rfl,u,o⟩ | ⟨l,fn,t,p,j,rfl,x,o⟩
 ·rw[Oper.semAt_plain F _ _ (by intro c d;cases d)]
  have:(execOp a.eval { dst:=dst,op:=.call { callee:=.value g,args:=xl.toArray,argTypes:=tys },type:=ty,pos:=pos,after:=after,guard:=gd }).run P w=.ok (.enter s (args++lb)) w:=by
   simp only[execOp,resolve,hy,q];simp[Deferred.ofValue,invoke,u,go_sem]
  rw[this,Oper.uponIn_enter];refine⟨fun h=>by simp[i]at h,(aI hF o).mono ?_⟩;rintro e k⟨v,rfl,h⟩;exact r _ _ h
 rw[Oper.semAt_plain F _ _ (by intro c d;cases d)]
 have:(execOp a.eval { dst:=dst,op:=.call { callee:=.value g,args:=xl.toArray,argTypes:=tys },type:=ty,pos:=pos,after:=after,guard:=gd }).run P w=.ok (.round l fn t p j) w:=by
  simp only[execOp,resolve,hy,q];simp[Deferred.ofValue,invoke,x,go_sem]
 rw[this,Oper.uponIn_round];refine⟨fun h=>by simp[i]at h,(eX hF o).mono ?_⟩;rintro e k⟨v,rfl,h⟩;exact r _ _ h
def Gives{α:Type}(P:Program)(sv:Value)(encs:α->Array Value)(xs:List α)(M Mm:Nat->Prop)(Q:Nat->World->Prop):Prop:=
 (∀k W W',Q k W->fi M W->W.heap.size<=W'.heap.size->(∀b,M b->W'.heap[b]?=W.heap[b]?)->Q k W')/\(∃g lb,sv=.func (.func g) #[] lb)/\(∀b,Mm b->M b)/\∀(yf:Fn) (yb:Array Value) (J Jx:Nat->(Nat->Prop)->World->Prop) (S:Nat->Prop) (W:World),(∀k,Loc (J k))->(∀k,Loc (Jx k)) ->
  fi S W->fi M W->(∀b,S b->¬ M b)->Q 0 W->J 0 S W ->
  (∀k (hk:k<xs.length) S1 W1,fi S1 W1->Chg (fun b=>S b∨Mm b) W W1->J k S1 W1 ->
   ig P (.func yf #[] yb) (encs xs[k]) W1 fun e W2=>∃S2,Grows S1 S2 W1/\fi S2 W2/\Chg S1 W1 W2/\((e=.returned (.bool true)/\J (k+1) S2 W2)∨(e=.returned (.bool false)/\Jx (k+1) S2 W2))) ->
  ig P sv #[.func yf #[] yb] W fun e W'=>∃v S',e=.returned v/\Grows S S' W/\fi S' W'/\Chg (fun b=>S b∨Mm b) W W'/\((J xs.length S' W'/\Q xs.length W')∨∃k,0<k/\k<=xs.length/\Jx k S' W'/\Q k W')
def Cj(S Mm:Nat->Prop)(J Jx:Nat->(Nat->Prop)->World->Prop)(Q:Nat->World->Prop)(n:Nat)(W:World)(e:Ending)(W':World):Prop:=
 ∃v S',e=.returned v/\Grows S S' W/\fi S' W'/\Chg (fun b=>S b∨Mm b) W W'/\((J n S' W'/\Q n W')∨∃k,0<k/\k<=n/\Jx k S' W'/\Q k W')
def sw(I:Nat->(Nat->Prop)->World->Prop)(Ix:Code->Nat->(Nat->Prop)->World->Prop)(k:Nat)(S1:Nat->Prop)(W1:World):Exit->Act->World->Prop
 | .normal,_,W2=>∃S2,Grows S1 S2 W1/\fi S2 W2/\Chg S1 W1 W2/\I k S2 W2
 | .ret,_,W2=>∃S2,Grows S1 S2 W1/\fi S2 W2/\Chg S1 W1 W2/\Ix .ret k S2 W2
 | .exit id,_,W2=>∃S2,Grows S1 S2 W1/\fi S2 W2/\Chg S1 W1 W2/\Ix (.exit id) k S2 W2
 | _,_,_=>False
def gj(D:Nat):Deferred:={ target:=.collected D,args:=#[] }
theorem yZ{F:Fence}{n:Nat}{P:Program}{fn:Func}{R:Ending->World->Prop}{tmps:Array Value}{w:World}{D:Nat}(hres:fn.results=#[])(hK:w.heap[D]?=some (.deferred (some [])))(h:∀a,Chg (fun b=>b=D) w a->a.heap.size=w.heap.size->R (.returned (.tuple #[])) a):bodyPostM F n P fn R .normal { tmps:=tmps,defers:=[gj D] } w/\bodyPostM F n P fn R .ret { tmps:=tmps,defers:=[gj D] } w:=by
 have:LeavesInM F n P fn tmps R [gj D] .returning w:=by
  refine⟨by simp,.inl ⟨_,_,rfl,run_takeDeferred hK,?_⟩⟩;exact⟨_,results_none hres _ _ _,h _ ((Chg.refl (fun b=>b=D) w).putObj (l:=D) (fun _=>rfl) _) (by simp)⟩
 exact⟨this,this⟩
theorem lH{F:Fence}{n:Nat}{P:Program}{fn:Func}{R:Ending->World->Prop}{tmps:Array Value}{w:World}{D:Nat}{t:Tmp}(hres:fn.results=#[.tmp t])(hK:w.heap[D]?=some (.deferred (some [])))(h:∀a,Chg (fun b=>b=D) w a->a.heap.size=w.heap.size->R (.returned (tmps.getD t undef)) a):bodyPostM F n P fn R .ret { tmps:=tmps,defers:=[gj D] } w:=by
 have:LeavesInM F n P fn tmps R [gj D] .returning w:=by
  refine⟨by simp,.inl ⟨_,_,rfl,run_takeDeferred hK,?_⟩⟩;exact⟨_,results_tmp hres _ _ _,h _ ((Chg.refl (fun b=>b=D) w).putObj (l:=D) (fun _=>rfl) _) (by simp)⟩
 exact this
def Plus(own:Nat->Prop)(J:(Nat->Prop)->World->Prop)(C:World->Prop)(T:Nat->Prop)(W:World):Prop:=
 ∃T0,(∀b,T b↔T0 b∨own b)/\(∀b,own b->¬ T0 b)/\J T0 W/\C W
def Cell(W:World)(b:Nat)(v:Value):Prop:=W.cell? ⟨b,0,none⟩=some v/\W.frozen? ⟨b,0,none⟩=false
theorem Cell.of{W W':World}{b:Nat}{v:Value}(h:Cell W b v)(hb:W'.heap[b]?=W.heap[b]?):Cell W' b v:=
 ⟨(ze (w:=W) hb).trans h.1,(wq (w:=W) hb).trans h.2⟩
theorem Cell.lt{W:World}{b:Nat}{v:Value}(h:Cell W b v):b<W.heap.size:=xh W ⟨b,0,none⟩ h.1
theorem Cell.new(W:World)(v:Value)(t:TypeId):Cell (W.alloc (.cells #[v] t)) W.heap.size v:=by
 exact⟨by rw[World.cell?_alloc_new];rfl,World.frozen?_alloc_new W _ _ _⟩
theorem Cell.set{W:World}{b:Nat}{v:Value}(h:Cell W b v)(u:Value):Cell (W.setCell ⟨b,0,none⟩ u) b u:=
 ⟨wi _ _ _ h.1,by rw[ub];exact h.2⟩
theorem Cell.drew{W:World}{b:Nat}{v:Value}(h:Cell W b v):Cell W.drew b v:=h
theorem cL{α:Type}{n:Nat}{P:Program}{g:Operand}{ps:Array Tmp}{assign body:Code}{Q:Exit->Act->World->Prop}{a:Act}{w:World}{sv:Value}(hg:a.eval g=sv){encs:α->Array Value}{xs:List α}{M Mm:Nat->Prop}{Qi:Nat->World->Prop}(hgv:Gives P sv encs xs M Mm Qi)(hps:∀x,(encs x).size=ps.size)(I:Nat->(Nat->Prop)->World->Prop)(Ix:Code->Nat->(Nat->Prop)->World->Prop)(hI:∀k,Loc (I k))(hIx:∀c k,Loc (Ix c k))(S:Nat->Prop)(hS:fi S w)(hM:fi M w)(hSM:∀b,S b->¬ M b)(hQ:Qi 0 w)(h0:I 0 S w)(a₁:α->Nat->Act)(cv:α->Array Value)(ty:TypeId)(hassign:∀(l:Nat) (x:α) (W:World) (K:Act->World->Prop),K (a₁ x W.heap.size) (W.alloc (.cells (cv x) ty)) -> assign.wpIn (Fence.wide.inRound l) 0 P (Exit.then K (fun _ _ _=>False)) { tmps:=(ps.zip (encs x)).foldl (fun t(p,v)=>t.setIfInBounds p v) a.tmps,defers:=[] } W)(hbody:∀(l k:Nat) (hk:k<xs.length) S1 r V,fi S1 r->Chg (fun b=>S b∨Mm b) w r->I k S1 r->r.heap[V]?=some (.cells (cv xs[k]) ty)->¬ S1 V->body.wpIn (Fence.wide.inRound l) 0 P (sw I Ix (k+1) S1 r) (a₁ xs[k] V) r)(hdone:∀N J,Grows S N w->fi N J->Chg (fun b=>S b∨Mm b) w J->I xs.length N J->Qi xs.length J->J.heap[w.heap.size]?=some (.deferred (some []))->¬ N w.heap.size -> Q .normal { a with defers:=gj w.heap.size::a.defers } J)(hstop:∀c k N J,0<k->k<=xs.length->Grows S N w->fi N J->Chg (fun b=>S b∨Mm b) w J->Ix c k N J->Qi k J->J.heap[w.heap.size]?=some (.deferred (some []))->¬ N w.heap.size -> c.wpIn Fence.wide n P Q { a with defers:=gj w.heap.size::a.defers } J):(Code.rangeFunc g ps assign body).wpIn Fence.wide n P Q a w:=by
 refine wpIn_rangeFunc ?_;intro fn e3;obtain⟨D,Y⟩:=ae w.heap.size;obtain⟨m,f⟩:∃m:LoopState->Option Code->Loop,m=fun st pe=>{ state:=st,pending:=pe,fn,tmps:=a.tmps,params:=ps,assign,body,defers:=D }:=⟨_,rfl⟩
 obtain⟨U,X⟩:=ae ((w.alloc (.deferred (some []))).alloc (.loop (m .ready none)))
 have d0:U.heap[D+1]?=some (.loop (m .ready none)):=by
  rw[<-X];have:=World.alloc_heap_new (w.alloc (.deferred (some []))) (.loop (m .ready none));rw[zm,Y]at this;exact this
 have d1:U.heap[D]?=some (.deferred (some [])):=by
  rw[<-X,<-Y];exact(we _ _ _ (by simp)).trans (World.alloc_heap_new w _)
 have b0:U.heap.size=D+2:=(by rw[<-X];simp[Y]);have c0:Chg S w U:=by rw[<-X];exact((Chg.refl S w).alloc _).alloc _
 have c1:∀b,b<D->U.heap[b]?=w.heap[b]?:=fun b s=>by
  rw[<-X];exact(we _ _ _ (by simp;omega)).trans (we _ _ _ (by omega))
 have b1:∀b,S b->b<D:=(fun b s=>by rw[<-Y];exact hS b s);have F:∀b,M b->b<D:=(fun b s=>by rw[<-Y];exact hM b s);have e4:∀b,Mm b->b<D:=fun b x=>F b (hgv.2.2.1 b x)
 have b6:=hgv.2.2.2 (.yield (D+1)) #[]
  (fun k T W=>∃d,(∀b,T b↔d b∨b=D+1∨b=D)/\¬ d (D+1)/\¬ d D/\I k d W/\D+2<=W.heap.size/\W.heap[D+1]?=some (.loop (m .ready none))/\W.heap[D]?=some (.deferred (some [])))
  (fun k T W=>∃d,(∀b,T b↔d b∨b=D+1∨b=D)/\¬ d (D+1)/\¬ d D/\D+2<=W.heap.size/\∃c,Ix c k d W/\W.heap[D+1]?=some (.loop (m .done (some c)))/\W.heap[D]?=some (.deferred (some [])))
  (fun b=>S b∨b=D+1∨b=D) U
  (by
   rintro k T W J⟨d,hT,G,h2,hi,hz,hl,hd⟩ L b2 s;exact⟨d,hT,G,h2,hI k d W J hi (fun b h=>L b ((hT b).2 (.inl h))) b2 (fun b h=>s b ((hT b).2 (.inl h))),by omega,(s _ ((hT _).2 (.inr (.inl rfl)))).trans hl,(s _ ((hT _).2 (.inr (.inr rfl)))).trans hd⟩)
  (by
   rintro k T W J⟨d,hT,G,h2,hz,c,hi,hl,hd⟩ L b2 s;exact⟨d,hT,G,h2,by omega,c,hIx c k d W J hi (fun b h=>L b ((hT b).2 (.inl h))) b2 (fun b h=>s b ((hT b).2 (.inl h))),(s _ ((hT _).2 (.inr (.inl rfl)))).trans hl,(s _ ((hT _).2 (.inr (.inr rfl)))).trans hd⟩)
  (by
   rintro b(h|rfl|rfl) <;> rw[b0]
   ·have:=b1 b h;omega
   ·omega
   ·omega)
  (fun b h=>by rw[b0];have:=F b h;omega)
  (by
   rintro b(h|rfl|rfl) hm
   ·exact hSM b h hm
   ·have:=F _ hm;omega
   ·have:=F _ hm;omega)
  (hgv.1 0 w U hQ hM (by rw[b0];omega) (fun b s=>c1 b (F b s)))
  ⟨S,fun _=>Iff.rfl,fun h=>by have:=b1 _ h;omega,fun h=>by have:=b1 _ h;omega,hI 0 S w U h0 hS (by rw[b0];omega) (fun b s=>c1 b (b1 b s)),by omega,d0,d1⟩
  (by
   rintro k hk T r L a0⟨d,hT,y,A,hi,hz,hl,hd⟩;have b2:=a0.size;have c2:D+1<r.heap.size:=(by omega);have hy:=run_yield (P:=P) (args:=encs xs[k]) hl (by rw[f];exact hps _);rw[f]at hy;have c3:=(we r (.cells (cv xs[k]) ty) _ c2).trans hl;refine .inr ⟨D+1,fn,_,assign,body,rfl,hy,roundIn_of_wpIn trivial (hassign _ xs[k] r _ ⟨_,run_beginRound c3 (by rw[f]),?_⟩)⟩;have b3:Below r.heap.size r (r.alloc (.cells (cv xs[k]) ty)):=(zg _ r).alloc (zo _) _;have c4:=World.alloc_heap_new r (.cells (cv xs[k]) ty);have c5:Chg T r (r.alloc (.cells (cv xs[k]) ty)):=(Chg.refl T r).alloc _;obtain⟨WA,b7⟩:=ae (r.alloc (.cells (cv xs[k]) ty));rw[b7]at c3 b3 c4 c5;rw[b7];have c6:=b3.size;have d2:=(b3.block D (by omega)).trans hd;obtain⟨q,O⟩:=ae (WA.putObj (D+1) (.loop { m .ready none with state:=.busy }));rw[O];have d3:q.heap.size=WA.heap.size:=(by rw[<-O];simp);have d4:q.heap[D+1]?=some (.loop { m .ready none with state:=.busy }):=(by rw[<-O];exact World.putObj_heap_same (z9 c2 c6));have d5:q.heap[D]?=some (.deferred (some [])):=(by rw[<-O];exact(yq (by omega)).trans d2);have c7:∀b,b≠D+1->q.heap[b]?=WA.heap[b]?:=(fun b s=>by rw[<-O];exact yq s);have i:fi d r:=(fun b h=>L b ((hT b).2 (.inl h)));have d6:I k d q:=hI k d r q hi i (by omega) (fun b h=>(c7 b (fun e=>y (e▸h))).trans (b3.block b (i b h)))
   refine wpIn_mono (hbody (D+1) k hk d q r.heap.size (fun b h=>by rw[d3];exact z9 (i b h) c6) (by
    have:Chg (fun b=>S b∨Mm b) w r:=c0.trans a0 (fun _ _ h=>.inl h) (fun b s h=>by
     rcases h with (h|h|h) | h
     ·exact .inl h
     ·omega
     ·omega
     ·exact .inr h)
    rw[<-O,<-b7];exact(this.alloc _).putObj (fun h=>by omega) _) d6 ((c7 _ (by omega)).trans c4) (fun h=>absurd (i _ h) (vu _))) ?_
   have d7:Chg T r q:=by rw[<-O];exact c5.putObj (fun _=>(hT _).2 (.inr (.inl rfl))) _
   have b8:∀(E:Option Code) (H:Nat->Prop) (Z:World),Grows d H q->fi H Z->Chg d q Z->∃W4,
     (Instr.endRound (D+1) E).run P Z=.ok (.bool E.isNone) W4/\W4.heap.size=Z.heap.size/\(∀b,b≠D+1->W4.heap[b]?=Z.heap[b]?)/\¬ H (D+1)/\¬ H D/\Grows T (fun b=>H b∨b=D+1∨b=D) r/\fi (fun b=>H b∨b=D+1∨b=D) W4/\Chg T r W4/\D+2<=W4.heap.size/\W4.heap[D+1]?=some (.loop (m (if E.isNone then .ready else .done) E))/\W4.heap[D]?=some (.deferred (some [])):=fun E H Z z j u=>by
    have e5:=u.size;have d8:Z.heap[D+1]?=some (.loop { m .ready none with state:=.busy }):=(u.block _ (by omega) y).trans d4;have d9:Z.heap[D]?=some (.deferred (some [])):=(u.block _ (by omega) A).trans d5
    have B:¬ H (D+1):=fun h=>by
     rcases z _ h with G|G
     ·exact y G
     ·omega
    have R:¬ H D:=fun h=>by
     rcases z _ h with G|G
     ·exact A G
     ·omega
    have e1:=run_endRound (P:=P) E d8;refine⟨_,e1,by simp,fun b s=>yq s,B,R,?_,?_,?_,by simp;omega,?_,(yq (by omega)).trans d9⟩
    ·rintro b(h|h|h)
     ·rcases z b h with G|G
      ·exact .inl ((hT b).2 (.inl G))
      ·exact .inr (by omega)
     ·exact .inl ((hT b).2 (.inr (.inl h)))
     ·exact .inl ((hT b).2 (.inr (.inr h)))
    ·rintro b(h|h|h)
     ·have:=j b h;simpa using this
     ·simp;omega
     ·simp;omega
    ·refine(d7.trans u (fun _ _ h=>h) (fun b _ h=>(hT b).2 (.inl h))).putObj (fun _=>(hT _).2 (.inr (.inl rfl))) _
    ·rw[World.putObj_heap_same (by omega),f]
   rintro e a3 Z hp;cases e with
   | normal =>
    obtain⟨H,z,j,u,a1⟩:=hp;obtain⟨W4,hr,c8,a2,B,R,a4,a5,a6,a7,a8,a9⟩:=b8 none H Z z j u;exact⟨_,_,hr,_,a4,a5,a6,.inl ⟨rfl,H,fun _=>Iff.rfl,B,R,hI _ _ _ _ a1 j (by omega) (fun b h=>a2 b (fun e=>B (e▸h))),a7,a8,a9⟩⟩
   | ret =>
    obtain⟨H,z,j,u,a1⟩:=hp;obtain⟨W4,hr,c8,a2,B,R,a4,a5,a6,a7,a8,a9⟩:=b8 (some .ret) H Z z j u;exact⟨_,_,hr,_,a4,a5,a6,.inr ⟨rfl,H,fun _=>Iff.rfl,B,R,a7,_,hIx _ _ _ _ _ a1 j (by omega) (fun b h=>a2 b (fun e=>B (e▸h))),a8,a9⟩⟩
   | exit id =>
    obtain⟨H,z,j,u,a1⟩:=hp;obtain⟨W4,hr,c8,a2,B,R,a4,a5,a6,a7,a8,a9⟩:=b8 (some (.exit id)) H Z z j u;exact⟨_,_,hr,_,a4,a5,a6,.inr ⟨rfl,H,fun _=>Iff.rfl,B,R,a7,_,hIx _ _ _ _ _ a1 j (by omega) (fun b h=>a2 b (fun e=>B (e▸h))),a8,a9⟩⟩
   | goto t=>exact hp.elim
   | panic ch=>exact hp.elim
   | outgrown=>exact hp.elim)
 have e6:a.eval g=sv:=hg
 have b9:∀e q,(∃v N,e=Ending.returned v/\Grows (fun b=>S b∨b=D+1∨b=D) N U/\fi N q/\Chg (fun b=>(S b∨b=D+1∨b=D)∨Mm b) U q/\(((∃d,(∀b,N b↔d b∨b=D+1∨b=D)/\¬ d (D+1)/\¬ d D/\I xs.length d q/\D+2<=q.heap.size/\q.heap[D+1]?=some (.loop (m .ready none))/\q.heap[D]?=some (.deferred (some [])))/\Qi xs.length q) ∨
    ∃k,0<k/\k<=xs.length/\(∃d,(∀b,N b↔d b∨b=D+1∨b=D)/\¬ d (D+1)/\¬ d D/\D+2<=q.heap.size/\∃c,Ix c k d q/\q.heap[D+1]?=some (.loop (m .done (some c)))/\q.heap[D]?=some (.deferred (some [])))/\Qi k q)) ->
   rangePost Fence.wide n P (D+1) Q { a with defers:=[gj D]++a.defers } e q:=by
  rintro e q⟨v,N,rfl,z,L,u,c9⟩
  have b4:∀d:Nat->Prop,(∀b,N b↔d b∨b=D+1∨b=D)->¬ d (D+1)->¬ d D->Grows S d w:=fun d hT y A b s=>by
   rcases z b ((hT b).2 (.inl s))with (G|G|G) | G
   ·exact .inl G
   ·exact absurd (G▸s) y
   ·exact absurd (G▸s) A
   ·exact .inr (by omega)
  have b5:∀o:Obj,Chg (fun b=>S b∨Mm b) w (q.putObj (D+1) o):=fun o =>
   ((c0.trans u (T:=fun b=>S b∨Mm b) (fun _ _ h=>.inl h) (fun b s h=>by
    rcases h with (h|h|h) | h
    ·exact .inl h
    ·omega
    ·omega
    ·exact .inr h)).putObj (fun h=>by omega) o)
  rcases c9 with ⟨⟨d,hT,y,A,hi,hz,hl,hd⟩,hq⟩ | ⟨k,e2,hk,⟨d,hT,y,A,hz,c,hi,hl,hd⟩,hq⟩
  ·have i:fi d q:=(fun b h=>L b ((hT b).2 (.inl h)));refine⟨none,_,by have:=run_endLoop (P:=P) hl (by rw[f];simp);rw[f]at this;exact this,?_⟩
   have:=hdone d (q.putObj (D+1) (.loop { m .ready none with state:=.exhausted })) (b4 d hT y A) (fun b h=>by simpa using i b h) (b5 _)
    (hI _ _ _ _ hi i (by simp) (fun b h=>yq (fun e=>y (e▸h))))
    (hgv.1 _ _ _ hq (fun b h=>by have:=F b h;omega) (by simp) (fun b h=>yq (by have:=F b h;omega)))
    (by rw[Y];exact(yq (by omega)).trans hd) (by rw[Y];exact A)
   rw[Y,f]at this;exact this
  ·have i:fi d q:=(fun b h=>L b ((hT b).2 (.inl h)));refine⟨some c,_,by have:=run_endLoop (P:=P) hl (by rw[f];simp);rw[f]at this;exact this,?_⟩
   have:=hstop c k d (q.putObj (D+1) (.loop { m .done (some c)with state:=.exhausted })) e2 hk (b4 d hT y A) (fun b h=>by simpa using i b h) (b5 _)
    (hIx _ _ _ _ _ hi i (by simp) (fun b h=>yq (fun e=>y (e▸h))))
    (hgv.1 _ _ _ hq (fun b h=>by have:=F b h;omega) (by simp) (fun b h=>yq (by have:=F b h;omega)))
    (by rw[Y];exact(yq (by omega)).trans hd) (by rw[Y];exact A)
   rw[Y,f]at this;exact this
 rcases b6 with ⟨gf,lb,rfl,he,hc⟩ | ⟨l',_,_,_,_,rfl,e7,e8⟩
 ·refine⟨D+1,[gj D],U,{ target:=.fn (.func gf) lb,args:=#[.func (.yield (D+1)) #[] #[]] },U,gf,
   #[.func (.yield (D+1)) #[] #[]]++lb,U,?_,?_,fun _ _=>trivial,?_,fun h=>by simp[Fence.wide]at h,?_⟩
  ·rw[<-X,f,<-Y];exact run_enterLoop_outer _ _ _ _ _
  ·simp only[resolve,hg];simp[go_sem]
  ·simp[invoke,go_sem,he]
  exact callsIn_wide.2 (hc.mono b9)

 obtain⟨g',e9,hh⟩:=hgv.2.1;cases hh
