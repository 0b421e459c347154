import Derived.Test.YtieohdlmighmkaaSep
import Derived.Shelf.Abstract
namespace Go.Proofs.Ytieohdlmighmkaa
open Go Go.RowKit Go.Shelf Go.Proofs

theorem wide_fn (f : FuncId) : Fence.wide.fn f = True := rfl
theorem wide_depth : Fence.wide.depth = none := rfl
/-- The call of a function value, at an operation, in a fence. -/
theorem operIn_callV {F : Fence} {n : Nat} {P : Program} {a : Act} {w : World} {K : Act → World → Prop} {Q : Exit → Act → World → Prop} {dst : Option Tmp} {g : Operand} {xl : List Operand} {tys : Array TypeId} {ty : TypeId} {pos : String} {after : Array Edge} {gd : Option (Nat × Bool)}
    (hF : F.plain = Fence.wide) (yv : Value) (al : List Value) (hy : a.eval g = yv) (hx' : xl.map a.eval = al)
    (h : CallsV P yv al.toArray w fun e w' => ∃ v, e = .returned v ∧ K (a.put dst v) w') :
    Oper.wpIn F n P { dst := dst, op := .call { callee := .value g, args := xl.toArray, argTypes := tys }, type := ty, pos := pos, after := after, guard := gd } a w K Q := by
  obtain ⟨args, hargs⟩ : ∃ args, al.toArray = args := ⟨_, rfl⟩
  rw [hargs] at h
  have hx : xl.toArray.map a.eval = args := by rw [← hargs, ← hx']; simp
  have hfn : ∀ f, F.fn f := fun f => by have : F.plain.fn f := by rw [hF]; trivial
                                        exact this
  have hdp : F.depth = none := by have : F.plain.depth = none := by rw [hF]; rfl
                                  exact this
  unfold Oper.wpIn
  refine ⟨fun f _ => hfn f, ?_⟩
  rcases h with ⟨gf, lb, rfl, he, hc⟩ | ⟨l, fn, t, asg, body, rfl, hr, hc⟩
  · rw [Oper.semAt_plain F _ _ (by intro c hc'; cases hc')]
    have : (execOp a.eval { dst := dst, op := .call { callee := .value g, args := xl.toArray, argTypes := tys }, type := ty, pos := pos, after := after, guard := gd }).run P w = .ok (.enter gf (args ++ lb)) w := by
      simp only [execOp, resolve, hy, hx]
      simp [Deferred.ofValue, invoke, he, go_sem]
    rw [this, Oper.uponIn_enter]
    refine ⟨fun h => by simp [hdp] at h, (callsIn_of_calls hF hc).mono ?_⟩
    rintro e w' ⟨v, rfl, h⟩
    exact h
  · rw [Oper.semAt_plain F _ _ (by intro c hc'; cases hc')]
    have : (execOp a.eval { dst := dst, op := .call { callee := .value g, args := xl.toArray, argTypes := tys }, type := ty, pos := pos, after := after, guard := gd }).run P w = .ok (.round l fn t asg body) w := by
      simp only [execOp, resolve, hy, hx]
      simp [Deferred.ofValue, invoke, hr, go_sem]
    rw [this, Oper.uponIn_round]
    refine ⟨fun h => by simp [hdp] at h, (roundIn_of_wide hF hc).mono ?_⟩
    rintro e w' ⟨v, rfl, h⟩
    exact h
theorem nt {b : Bool} (h : b = false) : ¬ b = true := by rw [h]; simp
/-- A load, in a fence. -/
theorem operIn_load {F : Fence} {n : Nat} {P : Program} {a : Act} {w : World} {K : Act → World → Prop} {Q : Exit → Act → World → Prop} {dst : Option Tmp} {t : TypeId} {x : Operand} {ty : TypeId} {pos : String} {after : Array Edge} {gd : Option (Nat × Bool)} {ad : Addr} {v : Value}
    (hag : (isAgg t).run P w = .ok false w) (he : a.eval x = .pointer (some ad)) (hc : w.cell? ad = some v) (h : K (a.put dst v) w) :
    Oper.wpIn F n P { dst := dst, op := .load t x, type := ty, pos := pos, after := after, guard := gd } a w K Q := by
  unfold Oper.wpIn
  refine ⟨fun f hf => by simp [Oper.about] at hf, ?_⟩
  rw [Oper.semAt_plain F _ _ (by intro c hc'; cases hc')]
  have hr : (execOp a.eval { dst := dst, op := .load t x, type := ty, pos := pos, after := after, guard := gd }).run P w = .ok (.value v) w := by
    simp only [execOp, he]
    simp [hc, hag, go_sem]
  rw [hr]
  exact h
end Go.Proofs.Ytieohdlmighmkaa
