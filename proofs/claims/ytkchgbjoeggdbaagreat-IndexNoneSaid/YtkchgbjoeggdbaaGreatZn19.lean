import Derived.Test.YtkchgbjoeggdbaaGreatZn2
import Derived.Test.YtkchgbjoeggdbaaGreatProg
namespace Go.Proofs.YtkchgbjoeggdbaaGreat
open Go.Proofs.Tryz
open Go Go.RowKit Go.Proofs Go.Maps
abbrev iL(x:Int):Lit:=.int .i64 x
abbrev lg(x:Int):Prop:=-9223372036854775808<=x/\x<=9223372036854775807
theorem zN:Keyed prog 3:=int_keyed underlying3
theorem CI(w:World):(zeroValue 3).run prog w=.ok (.int .i64 0) w:=by kernel_rfl
theorem Br{x:Int}(h:lg x):keyOf prog 3 (.int .i64 x)=some (iL x):=keyOf_int_mk underlying3 (WalkArith.wf_i64 h)
theorem Cu(x:Int):WideAt.IsKeyLit (iL x):=True.intro
def sy(f:Int->Option Nat)(x:Int)(p:Nat):Int->Option Nat:=fun y=>if y=x then some p else f y
def qo(f:Int->Option Nat)(x:Int):Int->Option Nat:=fun y=>if y=x then none else f y
structure Mi (W:World) (b:Nat) (f:Int->Option Nat) (n m:Nat):Prop where
 own:∃D:DataW Unit,W.ownsMap prog 3 (plainElem prog 3) b m D/\Maps.size D=n/\(∀x,Maps.has D (iL x)=(f x).isSome)/\∀x p,f x=some p->∀z,D.atKey (iL x) z=.lit (.int .i64 (p:Int))
section
variable{W W':World}{b n m:Nat}{f:Int->Option Nat}
theorem Mi.made(W:World):Mi (W.alloc (.map #[] 0)) W.heap.size (fun _=>none) 0 0:=
 ⟨.map [],World.ownsMap_made _ _ _ _,rfl,fun _=>rfl,fun _ _ h=>by cases h⟩
theorem Mi.of(h:Mi W b f n m)(hb:W'.heap[b]?=W.heap[b]?):Mi W' b f n m:=by
 obtain⟨D,⟨a,c,d,e⟩,g⟩:=h.own;exact⟨D,⟨a,c,hb.trans d,e⟩,g⟩
theorem Mi.isMap(h:Mi W b f n m):∃a c,W.heap[b]?=some (.map a c):=by
 obtain⟨D,⟨a,c,d,e⟩,g⟩:=h.own;exact⟨a,c,d⟩
theorem Mi.look(h:Mi W b f n m){x:Int}(hx:lg x):(Instr.lookup 103 (.map (some b)) (.int .i64 x) true).run prog W=.ok (.tuple #[.int .i64 (((f x).getD 0:Nat):Int),.bool (f x).isSome]) W:=by
 obtain⟨D,i,o,e,j⟩:=h.own;obtain⟨v,ps,d,k⟩:=i.look_ok zN underlying103 (CI W) (zd:=.lit (.int .i64 0)) (zp:=[]) (plainElem_int underlying3 (by decide)) (Br hx);obtain⟨c,rfl,a,_⟩:=plainElem_int_inv underlying3 k;rw[d,e x]
 have l:c=(((f x).getD 0:Nat):Int):=by
  cases g:f x with
  | none =>
   have:=e x
   rw[g]at this;rw[Maps.atKey_of_not_has this]at a;simp at a;simp[a]
  | some p =>
   rw[j x p g]at a;simp at a;simp[a]
 rw[l]
theorem Mi.len(h:Mi W b f n m)(ty:TypeId):(Builtin.len_ #[103] ty #[.map (some b)]).run prog W=.ok (.int .i64 (n:Int)) W:=by
 obtain⟨D,a,c,_⟩:=h.own;rw[<-c];exact a.len underlying103 ty
theorem Mi.put(h:Mi W b f n m){x:Int}{p:Nat}(hx:lg x)(hp:p<=1000000)(hf:f x=none)(hm:m<=1000000):∃w',(Instr.mapUpdate 103 (.map (some b)) (.int .i64 x) (.int .i64 (p:Int))).run prog W=.ok () w'/\Mi w' b (sy f x p) (n+1) (m+1)/\W.grownBy w' (some b):=by
 obtain⟨D,g,j,i,k⟩:=h.own;obtain⟨w',c,l,o⟩:=g.update zN underlying103 (by unfold maxLen;omega) (Br hx) (plainElem_int (a:=(p:Int)) underlying3 (WalkArith.wf_i64 (by omega)));refine⟨w',c,⟨_,l,?_,fun y=>?_,fun y q d z=>?_⟩,o⟩
 ·rw[Maps.size_put (g.tidy zN),i x,hf];simp[j]
 ·unfold sy;by_cases e:y=x
  ·subst e;rw[zw rfl,Maps.has_put_same g.isMap (Cu _)];rfl
  rw[zu e,Maps.has_put_other (fun h=>e (by cases h;rfl)),i y]
 unfold sy at d;by_cases e:y=x
 ·subst e;rw[zw rfl]at d;cases d;exact Maps.atKey_put_same g.isMap (Cu _) _ _
 rw[zu e]at d;rw[Maps.atKey_put_other (fun h=>e (by cases h;rfl))];exact k y q d z
theorem Mi.del(h:Mi W b f n m){x:Int}(hx:lg x){p:Nat}(hf:f x=some p)(ty:TypeId):∃w',(Builtin.delete_ #[103,3] ty #[.map (some b),.int .i64 x]).run prog W=.ok (.tuple #[]) w'/\Mi w' b (qo f x) (n-1) m/\W.grownBy w' (some b):=by
 obtain⟨D,d,o,g,i⟩:=h.own;obtain⟨w',a,j,l⟩:=d.drop zN underlying103 (Br hx) ty;refine⟨w',a,⟨_,j,?_,fun y=>?_,fun y q c z=>?_⟩,l.grown⟩
 ·have:=Maps.size_del (k:=iL x) (d.tidy zN)
  rw[g x,hf]at this;simp at this;omega
 ·unfold qo;by_cases e:y=x
  ·subst e;rw[zw rfl,Maps.has_del_same];rfl
  rw[zu e,Maps.has_del_other (fun h=>e (by cases h;rfl)),g y]
 unfold qo at c;by_cases e:y=x
 ·rw[zw e]at c;cases c
 rw[zu e]at c;rw[Maps.atKey_del_other (fun h=>e (by cases h;rfl))];exact i y q c z
theorem vI{x:Int}(hx:lg x)(W:World):(Instr.lookup 103 (.map none) (.int .i64 x) true).run prog W=.ok (.tuple #[.int .i64 0,.bool false]) W:=by
 have:=Maps.look_nil (w:=W) true zN underlying103 (CI W) (Br hx)
 simpa using this
end
def Pm(W:World)(v:Value)(f:Int->Option Nat)(n m:Nat):Prop:=(v=.map none/\n=0/\∀x,f x=none)∨∃b,v=.map (some b)/\Mi W b f n m
section
variable{W W':World}{v:Value}{n m:Nat}{f:Int->Option Nat}
def mapBlock:Value->Option Nat
 | .map b=>b
 | _=>none
theorem Pm.of(h:Pm W v f n m)(hb:∀b,mapBlock v=some b->W'.heap[b]?=W.heap[b]?):Pm W' v f n m:=by
 rcases h with h|⟨b,rfl,h⟩
 ·exact .inl h
 exact .inr ⟨b,rfl,h.of (hb b rfl)⟩
theorem Pm.look(h:Pm W v f n m){x:Int}(hx:lg x):(Instr.lookup 103 v (.int .i64 x) true).run prog W=.ok (.tuple #[.int .i64 (((f x).getD 0:Nat):Int),.bool (f x).isSome]) W:=by
 rcases h with ⟨rfl,_,a⟩ | ⟨b,rfl,h⟩
 ·rw[a x];exact vI hx W
 exact h.look hx
theorem Pm.len(h:Pm W v f n m)(ty:TypeId):(Builtin.len_ #[103] ty #[v]).run prog W=.ok (.int .i64 (n:Int)) W:=by
 rcases h with ⟨rfl,rfl,a⟩ | ⟨b,rfl,h⟩
 ·exact Maps.len_nil underlying103 ty
 exact h.len ty
end
section
variable{P:Program}{w w':World}{ops:Array Oper}{rest:List Oper}{o:Oper}{a:Act}{Q:Exit->Act->World->Prop}{v:Value}
theorem rQ(hg:o.guard=none)(m x:Operand)(t:TypeId)(c:Bool)(hop:o.op=Op.lookup t m x c){vm vx:Value}(hm:a.eval m=vm)(hx:a.eval x=vx)(hrun:(Instr.lookup t vm vx c).run P w=.ok v w)(hK:wpList P ops Q rest (a.put o.dst v) w):wpList P ops Q (o::rest) a w:=by
 refine wpList_plain hg fun d b=>?_
 unfold Oper.wp;simp[execOp,hop,hm,hx,hrun,Result.andThen];exact b _ _ hK
theorem eK(hg:o.guard=none)(m x y:Operand)(t:TypeId)(hop:o.op=Op.mapUpdate t m x y){vm vx vy:Value}(hm:a.eval m=vm)(hx:a.eval x=vx)(hy:a.eval y=vy)(hrun:(Instr.mapUpdate t vm vx vy).run P w=.ok () w')(hK:wpList P ops Q rest (a.put o.dst undef) w'):wpList P ops Q (o::rest) a w:=by
 refine wpList_plain hg fun c b=>?_
 unfold Oper.wp;simp[execOp,hop,hm,hx,hy,hrun,Result.andThen];exact b _ _ hK
theorem vJ(hg:o.guard=none)(m x:Operand)(t k:TypeId)(hop:o.op=Op.call { callee:=Callee.builtin Builtin.delete,args:=#[m,x],argTypes:=#[t,k] }){vm vx:Value}(hm:a.eval m=vm)(hx:a.eval x=vx)(hrun:(Builtin.delete_ #[t,k] o.type #[vm,vx]).run P w=.ok (.tuple #[]) w')(hK:wpList P ops Q rest (a.put o.dst (.tuple #[])) w'):wpList P ops Q (o::rest) a w:=by
 refine wpList_plain hg fun c b=>?_
 unfold Oper.wp;simp[execOp,hop,resolve,invoke,builtin,hm,hx,hrun,Result.andThen];exact b _ _ hK
theorem rR(hg:o.guard=none)(m:Operand)(t:TypeId)(hop:o.op=Op.call { callee:=Callee.builtin Builtin.len,args:=#[m],argTypes:=#[t] }){vm:Value}(hm:a.eval m=vm)(hrun:(Builtin.len_ #[t] o.type #[vm]).run P w=.ok v w)(hK:wpList P ops Q rest (a.put o.dst v) w):wpList P ops Q (o::rest) a w:=by
 refine wpList_plain hg fun c b=>?_
 unfold Oper.wp;simp[execOp,hop,resolve,invoke,builtin,hm,hrun,Result.andThen];exact b _ _ hK
end
end Go.Proofs.YtkchgbjoeggdbaaGreat
namespace Go.Proofs.YtkchgbjoeggdbaaGreat
open Go.Proofs.Tryz
open Go Go.RowKit Go.Proofs Go.Maps Go.WideMaps
abbrev sL(s:ByteArray):Lit:=.string s.data.toList
theorem vK{s t:ByteArray}(h:sL s=sL t):s=t:=by
 simp only[sL,Lit.string.injEq]at h;obtain⟨⟨x⟩⟩:=s;obtain⟨⟨y⟩⟩:=t;simp at h;simp[h]
theorem zP:Keyed prog 9:=string_keyed underlying9
theorem CN(w:World):(zeroValue 48).run prog w=.ok (.pointer none) w:=by kernel_rfl
theorem B2{s:ByteArray}(h:s.size<=maxLen):keyOf prog 9 (.string s)=some (sL s):=keyOf_string_mk underlying9 h
theorem kX(s:ByteArray):WideAt.IsKeyLit (sL s):=True.intro
def uq(f:ByteArray->Option Nat)(x:ByteArray)(p:Nat):ByteArray->Option Nat:=fun y=>if y=x then some p else f y
def mz(v:Value):Option (DataW Unit×List MemPlace):=
 match v with
 | .pointer none=>some (.lit (.bool false),[])
 | .pointer (some a)=>if a.off=0/\a.spot=none then some (.lit (.int .i64 (a.block:Int)),[])else none
 | _=>none
theorem F8{v:Value}{ps:List MemPlace}(h:mz v=some (.lit (.bool false),ps)):v=.pointer none:=by
 unfold mz at h;split at h
 ·rfl
 ·split at h
  ·cases h
  cases h
 cases h
theorem xT{v:Value}{b:Nat}{ps:List MemPlace}(h:mz v=some (.lit (.int .i64 (b:Int)),ps)):v=.pointer (some ⟨b,0,none⟩):=by
 unfold mz at h;split at h
 ·cases h
 ·rename_i a;split at h
  ·rename_i d;obtain⟨e,c,spot⟩:=a;obtain⟨rfl,rfl⟩:c=0/\spot=none:=d;simp at h;have:e=b:=(by have:=h.1;omega);rw[this]
  cases h
 cases h
theorem Et(b:Nat):mz (.pointer (some ⟨b,0,none⟩))=some (.lit (.int .i64 (b:Int)),[]):=by simp[mz]
structure Mp (W:World) (b:Nat) (f:ByteArray->Option Nat) (n m:Nat):Prop where
 own:∃D:DataW Unit,W.ownsMap prog 9 mz b m D/\Maps.size D=n/\(∀x,Maps.has D (sL x)=(f x).isSome)/\∀x p,f x=some p->∀z,D.atKey (sL x) z=.lit (.int .i64 (p:Int))
def rk:Option Nat->Value
 | none=>.pointer none
 | some b=>.pointer (some ⟨b,0,none⟩)
section
variable{W W':World}{b n m:Nat}{f:ByteArray->Option Nat}
theorem Mp.made(W:World):Mp (W.alloc (.map #[] 0)) W.heap.size (fun _=>none) 0 0:=
 ⟨.map [],World.ownsMap_made _ _ _ _,rfl,fun _=>rfl,fun _ _ h=>by cases h⟩
theorem Mp.lt(h:Mp W b f n m):b<W.heap.size:=by
 obtain⟨D,a,_⟩:=h.own;exact a.lt
theorem Mp.of(h:Mp W b f n m)(hb:W'.heap[b]?=W.heap[b]?):Mp W' b f n m:=by
 obtain⟨D,⟨a,c,d,e⟩,g⟩:=h.own;exact⟨D,⟨a,c,hb.trans d,e⟩,g⟩
theorem Mp.isMap(h:Mp W b f n m):∃a c,W.heap[b]?=some (.map a c):=by
 obtain⟨D,⟨a,c,d,e⟩,g⟩:=h.own;exact⟨a,c,d⟩
theorem Mp.mono(h:Mp W b f n m){m':Nat}(hm:m<=m'):Mp W b f n m':=by
 obtain⟨D,a,c⟩:=h.own;exact⟨D,a.mono hm,c⟩
theorem Mp.look(h:Mp W b f n m){x:ByteArray}(hx:x.size<=maxLen):(Instr.lookup 64 (.map (some b)) (.string x) false).run prog W=.ok (rk (f x)) W:=by
 obtain⟨D,e,k,g,i⟩:=h.own;obtain⟨v,ps,a,c⟩:=e.lookup zP underlying64 (CN W) (zd:=.lit (.bool false)) (zp:=[]) rfl (B2 hx);rw[a]
 have j:v=rk (f x):=by
  cases d:f x with
  | none =>
   have:=g x
   rw[d]at this;rw[Maps.atKey_of_not_has this]at c;exact F8 c
  | some p =>
   rw[i x p d]at c;exact xT c
 rw[j]
theorem Mp.put(h:Mp W b f n m){x:ByteArray}{p:Nat}(hx:x.size<=maxLen)(hf:f x=none)(hm:m<=1000000):∃w',(Instr.mapUpdate 64 (.map (some b)) (.string x) (.pointer (some ⟨p,0,none⟩))).run prog W=.ok () w'/\Mp w' b (uq f x p) (n+1) (m+1)/\W.grownBy w' (some b):=by
 obtain⟨D,d,i,g,j⟩:=h.own;obtain⟨w',a,k,l⟩:=d.update zP underlying64 (by unfold maxLen;omega) (B2 hx) (Et p);refine⟨w',a,⟨_,k,?_,fun y=>?_,fun y q c z=>?_⟩,l⟩
 ·rw[Maps.size_put (d.tidy zP),g x,hf];simp[i]
 ·unfold uq;by_cases e:y=x
  ·subst e;rw[zw rfl,Maps.has_put_same d.isMap (kX _)];rfl
  rw[zu e,Maps.has_put_other (fun h=>e (vK h)),g y]
 unfold uq at c;by_cases e:y=x
 ·subst e;rw[zw rfl]at c;cases c;exact Maps.atKey_put_same d.isMap (kX _) _ _
 rw[zu e]at c;rw[Maps.atKey_put_other (fun h=>e (vK h))];exact j y q c z
theorem vL{x:ByteArray}(hx:x.size<=maxLen)(W:World):(Instr.lookup 64 (.map none) (.string x) false).run prog W=.ok (.pointer none) W:=by
 have:=Maps.look_nil (w:=W) false zP underlying64 (CN W) (B2 hx)
 simpa using this
end
