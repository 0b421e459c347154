/-  -/
import Derived.Test.YtmfkkpogmmoflaaGreatH
import Derived.WalkKit
import Derived.StillTail
namespace Go.Proofs.YtmfkkpogmmoflaaGreat
open Go Go.RowKit Go.Proofs

/-- A call of a function, as one step of a region that draws. -/
theorem step_call {P : Program} {ops : Array Oper} {a : Act} {w : World} {K : Act → World → Prop} {Q : Exit → Act → World → Prop} {E : Prop} {dst : Option Tmp} {f : FuncId} {xl : List Operand} {tys : Array TypeId} {ty : TypeId} {pos : String} {after : Array Edge}
    (he : ∀ a w, (callFunc f a).run P w = .ok (.enter f a) w) (al : List Value) (hx' : xl.map a.eval = al) (h : Calls P f al.toArray w fun e w' => ∃ v, e = .returned v ∧ K (a.put dst v) w') :
    if Region.wanted { dst := dst, op := .call { callee := .value (.func f), args := xl.toArray, argTypes := tys }, type := ty, pos := pos, after := after, guard := none } (yielded ops a.tmps) = true then
      Oper.wp P { dst := dst, op := .call { callee := .value (.func f), args := xl.toArray, argTypes := tys }, type := ty, pos := pos, after := after, guard := none } a w K Q else E := by
  have hw : Region.wanted { dst := dst, op := .call { callee := .value (.func f), args := xl.toArray, argTypes := tys }, type := ty, pos := pos, after := after, guard := none } (yielded ops a.tmps) = true := rfl
  rw [if_pos hw]
  have hx : xl.toArray.map a.eval = al.toArray := by rw [← hx']; simp
  have : (execOp a.eval { dst := dst, op := .call { callee := .value (.func f), args := xl.toArray, argTypes := tys }, type := ty, pos := pos, after := after, guard := none }).run P w = .ok (.enter f al.toArray) w := by
    simp only [execOp, resolve, hx]
    simp [Act.eval, Deferred.ofValue, invoke, he, go_sem]
  unfold Oper.wp
  rw [this]
  refine Calls.mono h ?_
  rintro e w' ⟨v, rfl, hk⟩
  exact hk


/-- No panic is asked for: what stands behind a panic need not be the same at every frame. -/
def calm (Q : Exit → Act → World → Prop) : Exit → Act → World → Prop
  | .panic _, _, _ => False
  | e, a, w => Q e a w
theorem wp_calm {P : Program} {c : Code} {K : Act → World → Prop} {Q : Exit → Act → World → Prop} {a : Act} {w : World} (h : c.wp P (Exit.then K (calm Q)) a w) : c.wp P (Exit.then K Q) a w :=
  Code.wp_mono (fun e a w q => by cases e <;> first | exact q | exact q.elim) h
end Go.Proofs.YtmfkkpogmmoflaaGreat
