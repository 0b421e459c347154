import Derived.Test.YtjlnfeableleeaaR
import Derived.Laws.OwnMore
namespace Go.Proofs.Ytjlnfeableleeaa
open Go Go.RowKit Go.Shelf Go.Proofs

theorem run_append_ints {W : World} {base : Nat} {v : Value} {xs : List Int} {vx : Value} {ys : List Int} {B : Nat → Prop} (ty : TypeId) (hr : Row W base v xs) (hx : Ints W vx ys B) (hlen : xs.length + ys.length ≤ 1000000) (hb : base ≤ W.heap.size) :
    ∃ v' w', (Builtin.append_ #[22, 22] ty #[v, vx]).run Try.prog W = .ok v' w' ∧ Row w' base v' (xs ++ ys) ∧ W.grownBy w' v.ownBlock ∧ (v'.ownBlock = v.ownBlock ∨ v'.ownBlock = some W.heap.size) := by
  obtain ⟨i0, hi0, hz0, hz1, hz2⟩ := info_parts info3
  rcases hx with ⟨rfl, rfl⟩ | ⟨b, off, cap, rfl, _, hx⟩
  · refine ⟨v, W, run_append_owned_none W base 22 ty 3 i0 1 Try.underlying22 hi0 v xs.length _ hr, by rw [List.append_nil]; exact hr, ⟨rfl, rfl, rfl, Nat.le_refl _, fun _ _ _ => rfl⟩, .inl rfl⟩
  · obtain ⟨v', w', h1, h2, h3, _, h5⟩ := run_append_own_at (P := Try.prog) W base 22 ty 3 i0 (.int .i64 0) 1 8 Try.underlying22 hi0 hz0 hz1 hz2 rfl (by decide) v xs.length _ hr ⟨b, off, none⟩ ys.length cap (ys.map (Value.int .i64)) (by simp)
      (fun j u hj => by
        have hjl : j < ys.length := by
          have := (List.getElem?_eq_some_iff.1 hj).1
          simpa using this
        have e : (⟨b, off, none⟩ : Addr).add j = ⟨b, off + j, none⟩ := by
          unfold Addr.add
          split
          · rename_i h; subst h; rfl
          · rfl
        rw [e, hx j hjl]
        rw [List.getElem?_map] at hj
        rw [← hj]
        simp [hjl]) (by simp [Value.oneCell']) (by unfold maxLen; omega) (by omega) hb
    refine ⟨v', w', h1, ?_, h3, h5⟩
    unfold Row
    rw [List.map_append, List.length_append]
    exact h2

theorem wpList_append_ints {ops : Array Oper} {rest : List Oper} {o : Oper} {a : Act} {Q : Exit → Act → World → Prop} {W : World} (hgd : o.guard = none) (s x : Operand)
    (ho : o.op = .call { callee := .builtin .append, args := #[s, x], argTypes := #[22, 22] }) (base : Nat) (v : Value) (xs : List Int) (vx : Value) (ys : List Int) (B : Nat → Prop) (hs : a.eval s = v) (hx' : a.eval x = vx)
    (hr : Row W base v xs) (hx : Ints W vx ys B) (hlen : xs.length + ys.length ≤ 1000000) (hb : base ≤ W.heap.size)
    (h : ∀ v' w', Row w' base v' (xs ++ ys) → W.grownBy w' v.ownBlock → (v'.ownBlock = v.ownBlock ∨ v'.ownBlock = some W.heap.size) → wpList Try.prog ops Q rest (a.put o.dst v') w') :
    wpList Try.prog ops Q (o :: rest) a W := by
  refine wpList_plain hgd fun K hK => ?_
  obtain ⟨v', w', hrun, h2, h3, h5⟩ := run_append_ints o.type hr hx hlen hb
  unfold Oper.wp execOp
  simp only [ho, resolve, invoke, builtin, Sem.run_bind, Sem.run_pure, Result.andThen_ok, List.map_toArray, List.map_cons, List.map_nil, hs, hx', hrun]
  exact hK _ _ (h v' w' h2 h3 h5)
theorem step_append_ints {ops : Array Oper} {o : Oper} {a : Act} {W : World} {K : Act → World → Prop} {Q : Exit → Act → World → Prop} {E : Prop} (hgd : o.guard = none) (s x : Operand)
    (ho : o.op = .call { callee := .builtin .append, args := #[s, x], argTypes := #[22, 22] }) (base : Nat) (v : Value) (xs : List Int) (vx : Value) (ys : List Int) (B : Nat → Prop) (hs : a.eval s = v) (hx' : a.eval x = vx)
    (hr : Row W base v xs) (hx : Ints W vx ys B) (hlen : xs.length + ys.length ≤ 1000000) (hb : base ≤ W.heap.size)
    (h : ∀ v' w', Row w' base v' (xs ++ ys) → W.grownBy w' v.ownBlock → (v'.ownBlock = v.ownBlock ∨ v'.ownBlock = some W.heap.size) → K (a.put o.dst v') w') :
    if Region.wanted o (yielded ops a.tmps) = true then Oper.wp Try.prog o a W K Q else E := by
  have hw : Region.wanted o (yielded ops a.tmps) = true := by simp [Region.wanted, hgd]
  rw [if_pos hw]
  obtain ⟨v', w', hrun, h2, h3, h5⟩ := run_append_ints o.type hr hx hlen hb
  unfold Oper.wp
  simp [execOp, ho, resolve, invoke, builtin, hs, hx', hrun, Result.andThen]
  exact h v' w' h2 h3 h5
theorem row_none (W : World) (base : Nat) : Row W base (.slice none 0 0) [] := World.ownsRow_nil _ _ _ _
/-- Another row is as it was behind an append. -/
theorem Row.far {W W' : World} {base : Nat} {v : Value} {xs : List Int} {o : Option Nat} (h : Row W base v xs) (hg : W.grownBy W' o) (hne : ∀ b, v.ownBlock = some b → o ≠ some b) : Row W' base v xs :=
  h.of (fun b hb => hg.block b (h.lt b hb).2 (fun e => hne b hb e.symm))
theorem Row.alloc {W : World} {base : Nat} {v : Value} {xs : List Int} (h : Row W base v xs) (o : Obj) : Row (W.alloc o) base v xs := h.of (fun b hb => Below.heap_alloc _ _ _ (h.lt b hb).2)
theorem Row.drew {W : World} {base : Nat} {v : Value} {xs : List Int} (h : Row W base v xs) : Row W.drew base v xs := h.of (fun _ _ => rfl)
end Go.Proofs.Ytjlnfeableleeaa
