/- Equality of functions and nil;steps of calls. -/
import Derived.Test.YtgbkmjnnlkgpnaaGreatProg
import Derived.WalkKit
import Derived.StillTail
namespace Go.Proofs.YtgbkmjnnlkgpnaaGreat
open Go Go.RowKit Go.Proofs

section
variable {P:Program} {w:World}
theorem run_eqIn_nn (d:Nat) (t:TypeId) (ps rs:Array TypeId) (v:Bool) (h:P.underlying t = some (.func ps rs v)):(Op.equalIn (d + 1) t .nilFunc .nilFunc).run P w = .ok true w := by
  simp[Op.equalIn, run_underlying h]
theorem run_eqIn_fn (d:Nat) (t:TypeId) (ps rs:Array TypeId) (v:Bool) (f:Fn) (a b:Array Value) (h:P.underlying t = some (.func ps rs v)):(Op.equalIn (d + 1) t (.func f a b) .nilFunc).run P w = .ok false w := by
  simp[Op.equalIn, run_underlying h]
theorem run_eq_nn (t:TypeId) (ps rs:Array TypeId) (v:Bool) (h:P.underlying t = some (.func ps rs v)):(Op.equal t .nilFunc .nilFunc).run P w = .ok true w := run_eqIn_nn 9999 t ps rs v h
theorem run_eq_fn (t:TypeId) (ps rs:Array TypeId) (v:Bool) (f:Fn) (a b:Array Value) (h:P.underlying t = some (.func ps rs v)):(Op.equal t (.func f a b) .nilFunc).run P w = .ok false w := run_eqIn_fn 9999 t ps rs v f a b h
theorem run_eql_nn (t:TypeId) (ps rs:Array TypeId) (v:Bool) (h:P.underlying t = some (.func ps rs v)):(binOp .eql t .nilFunc .nilFunc).run P w = .ok (.bool true) w := by
  simp only[binOp];simp[run_eq_nn t ps rs v h]
theorem run_eql_fn (t:TypeId) (ps rs:Array TypeId) (v:Bool) (f:Fn) (a b:Array Value) (h:P.underlying t = some (.func ps rs v)):(binOp .eql t (.func f a b) .nilFunc).run P w = .ok (.bool false) w := by
  simp only[binOp];simp[run_eq_fn t ps rs v f a b h]
theorem eql51n:(binOp .eql 133 .nilFunc .nilFunc).run Tryz.prog w = .ok (.bool true) w := run_eql_nn _ _ _ _ Tryz.underlying133
theorem eql51f (f:Fn) (a b:Array Value):(binOp .eql 133 (.func f a b) .nilFunc).run Tryz.prog w = .ok (.bool false) w := run_eql_fn _ _ _ _ _ _ _ Tryz.underlying133
theorem eql44n:(binOp .eql 145 .nilFunc .nilFunc).run Tryz.prog w = .ok (.bool true) w := run_eql_nn _ _ _ _ Tryz.underlying145
theorem eql44f (f:Fn) (a b:Array Value):(binOp .eql 145 (.func f a b) .nilFunc).run Tryz.prog w = .ok (.bool false) w := run_eql_fn _ _ _ _ _ _ _ Tryz.underlying145
end
/-- A call of a function, as one step of a region that draws. -/
theorem step_call {P:Program} {ops:Array Oper} {a:Act} {w:World} {K:Act -> World -> Prop} {Q:Exit -> Act -> World -> Prop} {E:Prop} {dst:Option Tmp} {f:FuncId} {xl:List Operand} {tys:Array TypeId} {ty:TypeId} {pos:String} {after:Array Edge}
    (he:∀ a w, (callFunc f a).run P w = .ok (.enter f a) w) (al:List Value) (hx':xl.map a.eval = al) (h:Calls P f al.toArray w fun e w' => ∃ v, e = .returned v /\ K (a.put dst v) w') :
    if Region.wanted { dst := dst, op := .call { callee := .value (.func f), args := xl.toArray, argTypes := tys }, type := ty, pos := pos, after := after, guard := none } (yielded ops a.tmps) = true then
      Oper.wp P { dst := dst, op := .call { callee := .value (.func f), args := xl.toArray, argTypes := tys }, type := ty, pos := pos, after := after, guard := none } a w K Q else E := by
  have hw:Region.wanted { dst := dst, op := .call { callee := .value (.func f), args := xl.toArray, argTypes := tys }, type := ty, pos := pos, after := after, guard := none } (yielded ops a.tmps) = true := rfl;rw[if_pos hw];have hx:xl.toArray.map a.eval = al.toArray := by rw[<- hx'];simp
  have:(execOp a.eval { dst := dst, op := .call { callee := .value (.func f), args := xl.toArray, argTypes := tys }, type := ty, pos := pos, after := after, guard := none }).run P w = .ok (.enter f al.toArray) w := by
    simp only[execOp, resolve, hx];simp[Act.eval, Deferred.ofValue, invoke, he, go_sem]
  unfold Oper.wp;rw[this];refine Calls.mono h ?_;rintro e w' ⟨v, rfl, hk⟩;exact hk


/-- No panic is asked for: what stands behind a panic need not be the same at every frame. -/
def calm (Q:Exit -> Act -> World -> Prop):Exit -> Act -> World -> Prop
  | .panic _, _, _ => False
  | e, a, w => Q e a w
theorem wp_calm {P:Program} {c:Code} {K:Act -> World -> Prop} {Q:Exit -> Act -> World -> Prop} {a:Act} {w:World} (h:c.wp P (Exit.then K (calm Q)) a w):c.wp P (Exit.then K Q) a w :=
  Code.wp_mono (fun e a w q => by cases e <;> first|exact q|exact q.elim) h
