import Derived.Test.YthlccadnojnkaaaGreatZk2
import Derived.Test.YthlccadnojnkaaaGreatProg
import Derived.Maps.OwnSet
import Derived.StringKeys
namespace Go.Proofs.YthlccadnojnkaaaGreat
open Go Go.RowKit Go.Proofs Go.Maps
abbrev iL (x:Int):Lit:=.int .i64 x
abbrev F64 (x:Int):Prop:=-9223372036854775808<=x/\x<=9223372036854775807
theorem aBb:Keyed Tryz.prog 3:=int_keyed Tryz.underlying3
theorem aGB (w:World):(zeroValue 3).run Tryz.prog w=.ok (.int .i64 0) w:=by kernel_rfl
theorem aEW {x:Int} (h:F64 x):keyOf Tryz.prog 3 (.int .i64 x)=some (iL x):=keyOf_int_mk Tryz.underlying3 (WalkArith.wf_i64 h)
theorem aCG (x:Int):WideAt.IsKeyLit (iL x):=True.intro
def upF (f:Int->Option Nat) (x:Int) (p:Nat):Int->Option Nat:=fun y=>if y=x then some p else f y
def delF (f:Int->Option Nat) (x:Int):Int->Option Nat:=fun y=>if y=x then none else f y
structure Mi (W:World) (b:Nat) (f:Int->Option Nat) (n m:Nat):Prop where
 own:∃ D:DataW Unit,W.ownsMap Tryz.prog 3 (plainElem Tryz.prog 3) b m D/\Maps.size D=n/\(∀ x,Maps.has D (iL x)=(f x).isSome)/\∀ x p,f x=some p->∀ z,D.atKey (iL x) z=.lit (.int .i64 (p:Int))
section
variable {W W':World} {b n m:Nat} {f:Int->Option Nat}
theorem Mi.made (W:World):Mi (W.alloc (.map #[] 0)) W.heap.size (fun _=>none) 0 0 :=
 ⟨.map [],World.ownsMap_made _ _ _ _,rfl,fun _=>rfl,fun _ _ h=>by cases h⟩
theorem Mi.of (h:Mi W b f n m) (hb:W'.heap[b]?=W.heap[b]?):Mi W' b f n m:=by
 obtain⟨D,⟨es,ck,h1,h2⟩,h3⟩:=h.own;exact⟨D,⟨es,ck,hb.trans h1,h2⟩,h3⟩
theorem Mi.isMap (h:Mi W b f n m):∃ es ck,W.heap[b]?=some (.map es ck):=by
 obtain⟨D,⟨es,ck,h1,h2⟩,h3⟩:=h.own;exact⟨es,ck,h1⟩
theorem Mi.look (h:Mi W b f n m) {x:Int} (hx:F64 x):(Instr.lookup 114 (.map (some b)) (.int .i64 x) true).run Tryz.prog W=.ok (.tuple #[.int .i64 (((f x).getD 0:Nat):Int),.bool (f x).isSome]) W:=by
 obtain⟨D,h1,h2,h3,h4⟩:=h.own;obtain⟨v,ps,hrun,hv⟩:=h1.look_ok aBb Tryz.underlying114 (aGB W) (zd:=.lit (.int .i64 0)) (zp:=[]) (plainElem_int Tryz.underlying3 (by decide)) (aEW hx);obtain⟨c,rfl,hc,_⟩:=plainElem_int_inv Tryz.underlying3 hv;rw[hrun,h3 x]
 have he:c=(((f x).getD 0:Nat):Int):=by
  cases hf:f x with
  | none =>
   have:=h3 x
   rw[hf] at this;rw[Maps.atKey_of_not_has this] at hc;simp at hc;simp[hc]
  | some p =>
   rw[h4 x p hf] at hc;simp at hc;simp[hc]
 rw[he]
theorem Mi.len (h:Mi W b f n m) (ty:TypeId):(Builtin.len_ #[114] ty #[.map (some b)]).run Tryz.prog W=.ok (.int .i64 (n:Int)) W:=by
 obtain⟨D,h1,h2,_⟩:=h.own;rw[<- h2];exact h1.len Tryz.underlying114 ty
theorem Mi.put (h:Mi W b f n m) {x:Int} {p:Nat} (hx:F64 x) (hp:p<=1000000) (hf:f x=none) (hm:m<=1000000):∃ w',(Instr.mapUpdate 114 (.map (some b)) (.int .i64 x) (.int .i64 (p:Int))).run Tryz.prog W=.ok () w'/\Mi w' b (upF f x p) (n+1) (m+1)/\W.grownBy w' (some b):=by
 obtain⟨D,h1,h2,h3,h4⟩:=h.own;obtain⟨w',hrun,ho,hg⟩:=h1.update aBb Tryz.underlying114 (by unfold maxLen;omega) (aEW hx) (plainElem_int (a:=(p:Int)) Tryz.underlying3 (WalkArith.wf_i64 (by omega)));refine⟨w',hrun,⟨_,ho,?_,fun y=>?_,fun y q hq z=>?_⟩,hg⟩
 ·rw[Maps.size_put (h1.tidy aBb),h3 x,hf];simp[h2]
 ·unfold upF;by_cases e:y=x
  ·subst e;rw[if_pos rfl,Maps.has_put_same h1.isMap (aCG _)];rfl
  rw[if_neg e,Maps.has_put_other (fun h=>e (by cases h;rfl)),h3 y]
 unfold upF at hq;by_cases e:y=x
 ·subst e;rw[if_pos rfl] at hq;cases hq;exact Maps.atKey_put_same h1.isMap (aCG _) _ _
 rw[if_neg e] at hq;rw[Maps.atKey_put_other (fun h=>e (by cases h;rfl))];exact h4 y q hq z
theorem Mi.del (h:Mi W b f n m) {x:Int} (hx:F64 x) {p:Nat} (hf:f x=some p) (ty:TypeId):∃ w',(Builtin.delete_ #[114,3] ty #[.map (some b),.int .i64 x]).run Tryz.prog W=.ok (.tuple #[]) w'/\Mi w' b (delF f x) (n-1) m/\W.grownBy w' (some b):=by
 obtain⟨D,h1,h2,h3,h4⟩:=h.own;obtain⟨w',hrun,ho,hg⟩:=h1.drop aBb Tryz.underlying114 (aEW hx) ty;refine⟨w',hrun,⟨_,ho,?_,fun y=>?_,fun y q hq z=>?_⟩,hg.grown⟩
 ·have:=Maps.size_del (k:=iL x) (h1.tidy aBb)
  rw[h3 x,hf] at this;simp at this;omega
 ·unfold delF;by_cases e:y=x
  ·subst e;rw[if_pos rfl,Maps.has_del_same];rfl
  rw[if_neg e,Maps.has_del_other (fun h=>e (by cases h;rfl)),h3 y]
 unfold delF at hq;by_cases e:y=x
 ·rw[if_pos e] at hq;cases hq
 rw[if_neg e] at hq;rw[Maps.atKey_del_other (fun h=>e (by cases h;rfl))];exact h4 y q hq z
theorem wZ {x:Int} (hx:F64 x) (W:World):(Instr.lookup 114 (.map none) (.int .i64 x) true).run Tryz.prog W=.ok (.tuple #[.int .i64 0,.bool false]) W:=by
 have:=Maps.look_nil (w:=W) true aBb Tryz.underlying114 (aGB W) (aEW hx)
 simpa using this
end
def Pm (W:World) (v:Value) (f:Int->Option Nat) (n m:Nat):Prop:=(v=.map none/\n=0/\∀ x,f x=none)∨∃ b,v=.map (some b)/\Mi W b f n m
section
variable {W W':World} {v:Value} {n m:Nat} {f:Int->Option Nat}
def mapBlock:Value->Option Nat
 | .map b=>b
 | _=>none
theorem Pm.of (h:Pm W v f n m) (hb:∀ b,mapBlock v=some b->W'.heap[b]?=W.heap[b]?):Pm W' v f n m:=by
 rcases h with h|⟨b,rfl,h⟩
 ·exact .inl h
 exact .inr ⟨b,rfl,h.of (hb b rfl)⟩
theorem Pm.look (h:Pm W v f n m) {x:Int} (hx:F64 x):(Instr.lookup 114 v (.int .i64 x) true).run Tryz.prog W=.ok (.tuple #[.int .i64 (((f x).getD 0:Nat):Int),.bool (f x).isSome]) W:=by
 rcases h with ⟨rfl,_,hf⟩ | ⟨b,rfl,h⟩
 ·rw[hf x];exact wZ hx W
 exact h.look hx
theorem Pm.len (h:Pm W v f n m) (ty:TypeId):(Builtin.len_ #[114] ty #[v]).run Tryz.prog W=.ok (.int .i64 (n:Int)) W:=by
 rcases h with ⟨rfl,rfl,hf⟩ | ⟨b,rfl,h⟩
 ·exact Maps.len_nil Tryz.underlying114 ty
 exact h.len ty
end
section
variable {P:Program} {w w':World} {ops:Array Oper} {rest:List Oper} {o:Oper} {a:Act} {Q:Exit->Act->World->Prop} {v:Value}
theorem sW (hg:o.guard=none) (m x:Operand) (t:TypeId) (c:Bool) (hop:o.op=Op.lookup t m x c) {vm vx:Value} (hm:a.eval m=vm) (hx:a.eval x=vx)
  (hrun:(Instr.lookup t vm vx c).run P w=.ok v w) (hK:wpList P ops Q rest (a.put o.dst v) w):wpList P ops Q (o::rest) a w:=by
 refine wpList_plain hg fun K' hK'=>?_
 unfold Oper.wp;simp[execOp,hop,hm,hx,hrun,Result.andThen];exact hK' _ _ hK
theorem fA (hg:o.guard=none) (m x y:Operand) (t:TypeId) (hop:o.op=Op.mapUpdate t m x y) {vm vx vy:Value} (hm:a.eval m=vm) (hx:a.eval x=vx) (hy:a.eval y=vy)
  (hrun:(Instr.mapUpdate t vm vx vy).run P w=.ok () w') (hK:wpList P ops Q rest (a.put o.dst undef) w'):wpList P ops Q (o::rest) a w:=by
 refine wpList_plain hg fun K' hK'=>?_
 unfold Oper.wp;simp[execOp,hop,hm,hx,hy,hrun,Result.andThen];exact hK' _ _ hK
theorem xA (hg:o.guard=none) (m x:Operand) (t k:TypeId) (hop:o.op=Op.call { callee:=Callee.builtin Builtin.delete,args:=#[m,x],argTypes:=#[t,k] }) {vm vx:Value} (hm:a.eval m=vm) (hx:a.eval x=vx)
  (hrun:(Builtin.delete_ #[t,k] o.type #[vm,vx]).run P w=.ok (.tuple #[]) w') (hK:wpList P ops Q rest (a.put o.dst (.tuple #[])) w'):wpList P ops Q (o::rest) a w:=by
 refine wpList_plain hg fun K' hK'=>?_
 unfold Oper.wp;simp[execOp,hop,resolve,invoke,builtin,hm,hx,hrun,Result.andThen];exact hK' _ _ hK
theorem sX (hg:o.guard=none) (m:Operand) (t:TypeId) (hop:o.op=Op.call { callee:=Callee.builtin Builtin.len,args:=#[m],argTypes:=#[t] }) {vm:Value} (hm:a.eval m=vm)
  (hrun:(Builtin.len_ #[t] o.type #[vm]).run P w=.ok v w) (hK:wpList P ops Q rest (a.put o.dst v) w):wpList P ops Q (o::rest) a w:=by
 refine wpList_plain hg fun K' hK'=>?_
 unfold Oper.wp;simp[execOp,hop,resolve,invoke,builtin,hm,hrun,Result.andThen];exact hK' _ _ hK
end
end Go.Proofs.YthlccadnojnkaaaGreat
namespace Go.Proofs.YthlccadnojnkaaaGreat
open Go Go.RowKit Go.Proofs Go.Maps Go.WideMaps
abbrev sL (s:ByteArray):Lit:=.string s.data.toList
theorem xB {s t:ByteArray} (h:sL s=sL t):s=t:=by
 simp only[sL,Lit.string.injEq] at h;obtain⟨⟨x⟩⟩:=s;obtain⟨⟨y⟩⟩:=t;simp at h;simp[h]
theorem aBc:Keyed Tryz.prog 9:=string_keyed Tryz.underlying9
theorem aCH (w:World):(zeroValue 62).run Tryz.prog w=.ok (.pointer none) w:=by kernel_rfl
theorem aGX {s:ByteArray} (h:s.size<=maxLen):keyOf Tryz.prog 9 (.string s)=some (sL s):=keyOf_string_mk Tryz.underlying9 h
theorem lQ (s:ByteArray):WideAt.IsKeyLit (sL s):=True.intro
def upS (f:ByteArray->Option Nat) (x:ByteArray) (p:Nat):ByteArray->Option Nat:=fun y=>if y=x then some p else f y
def ptrR (v:Value):Option (DataW Unit×List MemPlace) :=
 match v with
 | .pointer none=>some (.lit (.bool false),[])
 | .pointer (some a)=>if a.off=0/\a.spot=none then some (.lit (.int .i64 (a.block:Int)),[]) else none
 | _=>none
theorem aCI {v:Value} {ps:List MemPlace} (h:ptrR v=some (.lit (.bool false),ps)):v=.pointer none:=by
 unfold ptrR at h;split at h
 ·rfl
 ·split at h
  ·cases h
  cases h
 cases h
theorem zN {v:Value} {b:Nat} {ps:List MemPlace} (h:ptrR v=some (.lit (.int .i64 (b:Int)),ps)):v=.pointer (some ⟨b,0,none⟩):=by
 unfold ptrR at h;split at h
 ·cases h
 ·rename_i a;split at h
  ·rename_i hc;obtain⟨b',off,spot⟩:=a;obtain⟨rfl,rfl⟩:off=0/\spot=none:=hc;simp at h;have:b'=b:=(by have:=h.1;omega);rw[this]
  cases h
 cases h
theorem aEX (b:Nat):ptrR (.pointer (some ⟨b,0,none⟩))=some (.lit (.int .i64 (b:Int)),[]):=by simp[ptrR]
structure Mp (W:World) (b:Nat) (f:ByteArray->Option Nat) (n m:Nat):Prop where
 own:∃ D:DataW Unit,W.ownsMap Tryz.prog 9 ptrR b m D/\Maps.size D=n/\(∀ x,Maps.has D (sL x)=(f x).isSome)/\∀ x p,f x=some p->∀ z,D.atKey (sL x) z=.lit (.int .i64 (p:Int))
def ptrV:Option Nat->Value
 | none=>.pointer none
 | some b=>.pointer (some ⟨b,0,none⟩)
section
variable {W W':World} {b n m:Nat} {f:ByteArray->Option Nat}
theorem Mp.made (W:World):Mp (W.alloc (.map #[] 0)) W.heap.size (fun _=>none) 0 0 :=
 ⟨.map [],World.ownsMap_made _ _ _ _,rfl,fun _=>rfl,fun _ _ h=>by cases h⟩
theorem Mp.lt (h:Mp W b f n m):b<W.heap.size:=by
 obtain⟨D,h1,_⟩:=h.own;exact h1.lt
theorem Mp.of (h:Mp W b f n m) (hb:W'.heap[b]?=W.heap[b]?):Mp W' b f n m:=by
 obtain⟨D,⟨es,ck,h1,h2⟩,h3⟩:=h.own;exact⟨D,⟨es,ck,hb.trans h1,h2⟩,h3⟩
theorem Mp.isMap (h:Mp W b f n m):∃ es ck,W.heap[b]?=some (.map es ck):=by
 obtain⟨D,⟨es,ck,h1,h2⟩,h3⟩:=h.own;exact⟨es,ck,h1⟩
theorem Mp.mono (h:Mp W b f n m) {m':Nat} (hm:m<=m'):Mp W b f n m':=by
 obtain⟨D,h1,h2⟩:=h.own;exact⟨D,h1.mono hm,h2⟩
theorem Mp.look (h:Mp W b f n m) {x:ByteArray} (hx:x.size<=maxLen):(Instr.lookup 120 (.map (some b)) (.string x) false).run Tryz.prog W=.ok (ptrV (f x)) W:=by
 obtain⟨D,h1,h2,h3,h4⟩:=h.own;obtain⟨v,ps,hrun,hv⟩:=h1.lookup aBc Tryz.underlying120 (aCH W) (zd:=.lit (.bool false)) (zp:=[]) rfl (aGX hx);rw[hrun]
 have he:v=ptrV (f x):=by
  cases hf:f x with
  | none =>
   have:=h3 x
   rw[hf] at this;rw[Maps.atKey_of_not_has this] at hv;exact aCI hv
  | some p =>
   rw[h4 x p hf] at hv;exact zN hv
 rw[he]
theorem Mp.put (h:Mp W b f n m) {x:ByteArray} {p:Nat} (hx:x.size<=maxLen) (hf:f x=none) (hm:m<=1000000):∃ w',(Instr.mapUpdate 120 (.map (some b)) (.string x) (.pointer (some ⟨p,0,none⟩))).run Tryz.prog W=.ok () w'/\Mp w' b (upS f x p) (n+1) (m+1)/\W.grownBy w' (some b):=by
 obtain⟨D,h1,h2,h3,h4⟩:=h.own;obtain⟨w',hrun,ho,hg⟩:=h1.update aBc Tryz.underlying120 (by unfold maxLen;omega) (aGX hx) (aEX p);refine⟨w',hrun,⟨_,ho,?_,fun y=>?_,fun y q hq z=>?_⟩,hg⟩
 ·rw[Maps.size_put (h1.tidy aBc),h3 x,hf];simp[h2]
 ·unfold upS;by_cases e:y=x
  ·subst e;rw[if_pos rfl,Maps.has_put_same h1.isMap (lQ _)];rfl
  rw[if_neg e,Maps.has_put_other (fun h=>e (xB h)),h3 y]
 unfold upS at hq;by_cases e:y=x
 ·subst e;rw[if_pos rfl] at hq;cases hq;exact Maps.atKey_put_same h1.isMap (lQ _) _ _
 rw[if_neg e] at hq;rw[Maps.atKey_put_other (fun h=>e (xB h))];exact h4 y q hq z
theorem xC {x:ByteArray} (hx:x.size<=maxLen) (W:World):(Instr.lookup 120 (.map none) (.string x) false).run Tryz.prog W=.ok (.pointer none) W:=by
 have:=Maps.look_nil (w:=W) false aBc Tryz.underlying120 (aCH W) (aGX hx)
 simpa using this
end
