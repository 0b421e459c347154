import Derived.Test.YtkchgbjoeggdbaaGreatZn1
import Derived.Test.YtkchgbjoeggdbaaGreatProg
import Derived.WalkKit
import Derived.StillTail
namespace Go.Proofs.YtkchgbjoeggdbaaGreat
open Go.Proofs.Tryz
open Go Go.RowKit Go.Proofs
section
variable{P:Program}{w:World}
theorem uN(d:Nat)(t:TypeId)(ps rs:Array TypeId)(v:Bool)(h:P.underlying t=some (.func ps rs v)):(Op.equalIn (d+1) t .nilFunc .nilFunc).run P w=.ok true w:=by
 simp[Op.equalIn,run_underlying h]
theorem uO(d:Nat)(t:TypeId)(ps rs:Array TypeId)(v:Bool)(f:Fn)(a b:Array Value)(h:P.underlying t=some (.func ps rs v)):(Op.equalIn (d+1) t (.func f a b) .nilFunc).run P w=.ok false w:=by
 simp[Op.equalIn,run_underlying h]
theorem CZ(t:TypeId)(ps rs:Array TypeId)(v:Bool)(h:P.underlying t=some (.func ps rs v)):(Op.equal t .nilFunc .nilFunc).run P w=.ok true w:=uN 9999 t ps rs v h
theorem Ex(t:TypeId)(ps rs:Array TypeId)(v:Bool)(f:Fn)(a b:Array Value)(h:P.underlying t=some (.func ps rs v)):(Op.equal t (.func f a b) .nilFunc).run P w=.ok false w:=uO 9999 t ps rs v f a b h
theorem gX(t:TypeId)(ps rs:Array TypeId)(v:Bool)(h:P.underlying t=some (.func ps rs v)):(binOp .eql t .nilFunc .nilFunc).run P w=.ok (.bool true) w:=by
 simp only[binOp];simp[CZ t ps rs v h]
theorem gY(t:TypeId)(ps rs:Array TypeId)(v:Bool)(f:Fn)(a b:Array Value)(h:P.underlying t=some (.func ps rs v)):(binOp .eql t (.func f a b) .nilFunc).run P w=.ok (.bool false) w:=by
 simp only[binOp];simp[Ex t ps rs v f a b h]
theorem fK:(binOp .eql 47 .nilFunc .nilFunc).run prog w=.ok (.bool true) w:=gX _ _ _ _ underlying47
theorem fL(f:Fn)(a b:Array Value):(binOp .eql 47 (.func f a b) .nilFunc).run prog w=.ok (.bool false) w:=gY _ _ _ _ _ _ _ underlying47
theorem Cp:(binOp .eql 94 .nilFunc .nilFunc).run prog w=.ok (.bool true) w:=gX _ _ _ _ underlying94
theorem B6(f:Fn)(a b:Array Value):(binOp .eql 94 (.func f a b) .nilFunc).run prog w=.ok (.bool false) w:=gY _ _ _ _ _ _ _ underlying94
end
theorem bM{P:Program}{ops:Array Oper}{a:Act}{w:World}{K:Act->World->Prop}{Q:Exit->Act->World->Prop}{E:Prop}{dst:Option Tmp}{f:FuncId}{xl:List Operand}{tys:Array TypeId}{ty:TypeId}{pos:String}{after:Array Edge}(he:∀a w,(callFunc f a).run P w=.ok (.enter f a) w)(al:List Value)(hx':xl.map a.eval=al)(h:Calls P f al.toArray w fun e b=>∃v,e=.returned v/\K (a.put dst v) b):if Region.wanted { dst:=dst,op:=.call { callee:=.value (.func f),args:=xl.toArray,argTypes:=tys },type:=ty,pos:=pos,after:=after,guard:=none } (yielded ops a.tmps)=true then
   Oper.wp P { dst:=dst,op:=.call { callee:=.value (.func f),args:=xl.toArray,argTypes:=tys },type:=ty,pos:=pos,after:=after,guard:=none } a w K Q else E:=by
 have c:Region.wanted { dst:=dst,op:=.call { callee:=.value (.func f),args:=xl.toArray,argTypes:=tys },type:=ty,pos:=pos,after:=after,guard:=none } (yielded ops a.tmps)=true:=rfl;rw[zw c];have d:xl.toArray.map a.eval=al.toArray:=by rw[<-hx'];simp
 have:(execOp a.eval { dst:=dst,op:=.call { callee:=.value (.func f),args:=xl.toArray,argTypes:=tys },type:=ty,pos:=pos,after:=after,guard:=none }).run P w=.ok (.enter f al.toArray) w:=by
  simp only[execOp,resolve,d];simp[Act.eval,Deferred.ofValue,invoke,he,go_sem]
 unfold Oper.wp;rw[this];refine Calls.mono h ?_;rintro e b⟨v,rfl,g⟩;exact g
def calm(Q:Exit->Act->World->Prop):Exit->Act->World->Prop
 | .panic _,_,_=>False
 | e,a,w=>Q e a w
theorem qZ{P:Program}{c:Code}{K:Act->World->Prop}{Q:Exit->Act->World->Prop}{a:Act}{w:World}(h:c.wp P (Exit.then K (calm Q)) a w):c.wp P (Exit.then K Q) a w:=
 Code.wp_mono (fun e a w q=>by cases e <;> first|exact q|exact q.elim) h
