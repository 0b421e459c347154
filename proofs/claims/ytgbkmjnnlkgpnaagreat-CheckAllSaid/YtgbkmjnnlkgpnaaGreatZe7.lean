import Derived.Test.YtgbkmjnnlkgpnaaGreatZe1
import Derived.Test.YtgbkmjnnlkgpnaaGreatProg
import Derived.WalkKit
import Derived.StillTail
namespace Go.Proofs.YtgbkmjnnlkgpnaaGreat
open Go Go.RowKit Go.Proofs
section
variable {P:Program} {w:World}
theorem wY (d:Nat) (t:TypeId) (ps rs:Array TypeId) (v:Bool) (h:P.underlying t=some (.func ps rs v)):(Op.equalIn (d+1) t .nilFunc .nilFunc).run P w=.ok true w:=by
 simp[Op.equalIn,run_underlying h]
theorem wZ (d:Nat) (t:TypeId) (ps rs:Array TypeId) (v:Bool) (f:Fn) (a b:Array Value) (h:P.underlying t=some (.func ps rs v)):(Op.equalIn (d+1) t (.func f a b) .nilFunc).run P w=.ok false w:=by
 simp[Op.equalIn,run_underlying h]
theorem aCq (t:TypeId) (ps rs:Array TypeId) (v:Bool) (h:P.underlying t=some (.func ps rs v)):(Op.equal t .nilFunc .nilFunc).run P w=.ok true w:=wY 9999 t ps rs v h
theorem aCr (t:TypeId) (ps rs:Array TypeId) (v:Bool) (f:Fn) (a b:Array Value) (h:P.underlying t=some (.func ps rs v)):(Op.equal t (.func f a b) .nilFunc).run P w=.ok false w:=wZ 9999 t ps rs v f a b h
theorem qL (t:TypeId) (ps rs:Array TypeId) (v:Bool) (h:P.underlying t=some (.func ps rs v)):(binOp .eql t .nilFunc .nilFunc).run P w=.ok (.bool true) w:=by
 simp only[binOp];simp[aCq t ps rs v h]
theorem qM (t:TypeId) (ps rs:Array TypeId) (v:Bool) (f:Fn) (a b:Array Value) (h:P.underlying t=some (.func ps rs v)):(binOp .eql t (.func f a b) .nilFunc).run P w=.ok (.bool false) w:=by
 simp only[binOp];simp[aCr t ps rs v f a b h]
theorem jC:(binOp .eql 133 .nilFunc .nilFunc).run Tryz.prog w=.ok (.bool true) w:=qL _ _ _ _ Tryz.underlying133
theorem jD (f:Fn) (a b:Array Value):(binOp .eql 133 (.func f a b) .nilFunc).run Tryz.prog w=.ok (.bool false) w:=qM _ _ _ _ _ _ _ Tryz.underlying133
theorem aEs:(binOp .eql 145 .nilFunc .nilFunc).run Tryz.prog w=.ok (.bool true) w:=qL _ _ _ _ Tryz.underlying145
theorem aEt (f:Fn) (a b:Array Value):(binOp .eql 145 (.func f a b) .nilFunc).run Tryz.prog w=.ok (.bool false) w:=qM _ _ _ _ _ _ _ Tryz.underlying145
end
theorem dD {P:Program} {ops:Array Oper} {a:Act} {w:World} {K:Act->World->Prop} {Q:Exit->Act->World->Prop} {E:Prop} {dst:Option Tmp} {f:FuncId} {xl:List Operand} {tys:Array TypeId} {ty:TypeId} {pos:String} {after:Array Edge}
  (he:∀ a w,(callFunc f a).run P w=.ok (.enter f a) w) (al:List Value) (hx':xl.map a.eval=al) (h:Calls P f al.toArray w fun e w'=>∃ v,e=.returned v/\K (a.put dst v) w') :
  if Region.wanted { dst:=dst,op:=.call { callee:=.value (.func f),args:=xl.toArray,argTypes:=tys },type:=ty,pos:=pos,after:=after,guard:=none } (yielded ops a.tmps)=true then
   Oper.wp P { dst:=dst,op:=.call { callee:=.value (.func f),args:=xl.toArray,argTypes:=tys },type:=ty,pos:=pos,after:=after,guard:=none } a w K Q else E:=by
 have hw:Region.wanted { dst:=dst,op:=.call { callee:=.value (.func f),args:=xl.toArray,argTypes:=tys },type:=ty,pos:=pos,after:=after,guard:=none } (yielded ops a.tmps)=true:=rfl;rw[if_pos hw];have hx:xl.toArray.map a.eval=al.toArray:=by rw[<- hx'];simp
 have:(execOp a.eval { dst:=dst,op:=.call { callee:=.value (.func f),args:=xl.toArray,argTypes:=tys },type:=ty,pos:=pos,after:=after,guard:=none }).run P w=.ok (.enter f al.toArray) w:=by
  simp only[execOp,resolve,hx];simp[Act.eval,Deferred.ofValue,invoke,he,go_sem]
 unfold Oper.wp;rw[this];refine Calls.mono h ?_;rintro e w' ⟨v,rfl,hk⟩;exact hk
def calm (Q:Exit->Act->World->Prop):Exit->Act->World->Prop
 | .panic _,_,_=>False
 | e,a,w=>Q e a w
theorem aAY {P:Program} {c:Code} {K:Act->World->Prop} {Q:Exit->Act->World->Prop} {a:Act} {w:World} (h:c.wp P (Exit.then K (calm Q)) a w):c.wp P (Exit.then K Q) a w :=
 Code.wp_mono (fun e a w q=>by cases e <;> first|exact q|exact q.elim) h
