import Derived.Test.YtjlnfeableleeaaW0
import Derived.IntWalk
import Derived.Deep.RegionHeld3
namespace Go.Proofs.Ytjlnfeableleeaa
open Go Go.RowKit Go.Shelf Go.Proofs
attribute [local go_sem] eql26n eql26f eql32f eql34f eql37f eql42n eql42f wide_fn wide_depth

/-- What SeqAll works with behind its first loop. -/
structure AllF (KB : Nat) (k : Int) (ys zs : List Int) (va v12 v13 v17 vs vall : Value) (w : World) : Prop where
  kc : Cell w KB (Value.int .i64 (k))
  sa : Sq w vs ys
  al : Sq w vall (ys ++ zs)
  ia : ∃ B : Nat → Prop, Ints w va ys B ∧ ∀ b, B b → b < w.heap.size
  i12 : ∃ B : Nat → Prop, Ints w v12 (ys.map (fun x => wrap64 (wrap64 (x * 2) + k))) B ∧ ∀ b, B b → b < w.heap.size
  i13 : ∃ B : Nat → Prop, Ints w v13 (ys.filter (fun x => x.tmod 2 != 0)) B ∧ ∀ b, B b → b < w.heap.size
  i17 : ∃ B : Nat → Prop, Ints w v17 (ys ++ zs) B ∧ ∀ b, B b → b < w.heap.size
theorem Ints.ex {w w' : World} {v : Value} {xs : List Int} (h : ∃ B : Nat → Prop, Ints w v xs B ∧ ∀ b, B b → b < w.heap.size) (hb : Below w.heap.size w w') : ∃ B : Nat → Prop, Ints w' v xs B ∧ ∀ b, B b → b < w'.heap.size := by
  obtain ⟨B, h1, h2⟩ := h
  exact ⟨B, h1.on h2 hb⟩
theorem AllF.later {KB : Nat} {k : Int} {ys zs : List Int} {va v12 v13 v17 vs vall : Value} {w w' : World} (h : AllF KB k ys zs va v12 v13 v17 vs vall w) (hb : Below w.heap.size w w') : AllF KB k ys zs va v12 v13 v17 vs vall w' :=
  ⟨h.kc.of (hb.block _ h.kc.lt), h.sa.later hb, h.al.later hb, Ints.ex h.ia hb, Ints.ex h.i12 hb, Ints.ex h.i13 hb, Ints.ex h.i17 hb⟩

/-- The two rows that SeqAll's first loop fills. -/
structure St (D : Nat) (W w : World) (v12 v13 : Value) (l12 l13 : List Int) : Prop where
  below : Below D W w
  sz : D ≤ w.heap.size
  r12 : Row w D v12 l12
  r13 : Row w D v13 l13
  ne : ∀ q, v12.ownBlock = some q → v13.ownBlock ≠ some q
theorem St.app12 {D : Nat} {W w w' : World} {v12 v13 v' : Value} {l12 l13 l' : List Int} {o : Obj} (h : St D W w v12 v13 l12 l13) (hr : Row w' D v' l') (hg : (w.alloc o).grownBy w' v12.ownBlock)
    (hat : v'.ownBlock = v12.ownBlock ∨ v'.ownBlock = some (w.alloc o).heap.size) : St D W w' v' v13 l' l13 := by
  have hsz := hg.size
  rw [World.size_alloc] at hsz hat
  have := h.sz
  refine ⟨(h.below.alloc h.sz o).grown hg (by simp; omega) (fun q hq => (h.r12.lt q hq).1), by omega, hr, (h.r13.alloc o).far hg (fun q hq e => h.ne q e hq), fun q hq => ?_⟩
  rcases hat with e | e
  · exact h.ne q (e ▸ hq)
  · rw [e] at hq
    injection hq with hq
    intro e2
    have := (h.r13.lt q e2).2
    omega
theorem St.app13 {D : Nat} {W w w' : World} {v12 v13 v' : Value} {l12 l13 l' : List Int} {o : Obj} (h : St D W w v12 v13 l12 l13) (hr : Row w' D v' l') (hg : (w.alloc o).grownBy w' v13.ownBlock)
    (hat : v'.ownBlock = v13.ownBlock ∨ v'.ownBlock = some (w.alloc o).heap.size) : St D W w' v12 v' l12 l' := by
  have hsz := hg.size
  rw [World.size_alloc] at hsz hat
  have := h.sz
  refine ⟨(h.below.alloc h.sz o).grown hg (by simp; omega) (fun q hq => (h.r13.lt q hq).1), by omega, (h.r12.alloc o).far hg (fun q hq e => h.ne q hq e), hr, fun q hq e2 => ?_⟩
  rcases hat with e | e
  · exact h.ne q hq (e ▸ e2)
  · rw [e] at e2
    injection e2 with e2
    have := (h.r12.lt q hq).2
    omega
theorem St.drew {D : Nat} {W w : World} {v12 v13 : Value} {l12 l13 : List Int} (h : St D W w v12 v13 l12 l13) : St D W w.drew v12 v13 l12 l13 := ⟨h.below.drew, h.sz, h.r12.drew, h.r13.drew, h.ne⟩

theorem all_chain (w6 : World) (g2 : Nat) (lb2 : Array Value) (g3 : Nat) (lb3 : Array Value) (ys zs : List Int) (h2 : Sq w6 (.func (.func g2) #[] lb2) ys) (h3 : Sq w6 (.func (.func g3) #[] lb3) zs) :
    Calls Try.prog 11 #[.slice (some ⟨w6.heap.size, 0, none⟩) 3 3] (w6.alloc (.cells #[.func (.func g2) #[] lb2, .nilFunc, .func (.func g3) #[] lb3] 26))
      (Makes (ys ++ zs) (w6.alloc (.cells #[.func (.func g2) #[] lb2, .nilFunc, .func (.func g3) #[] lb3] 26))) := by
  have hb := below_alloc w6 (.cells #[.func (.func g2) #[] lb2, .nilFunc, .func (.func g3) #[] lb3] 26)
  have h := sq_chain (.slice (some ⟨w6.heap.size, 0, none⟩) 3 3) [(.func (.func g2) #[] lb2, ys), (.nilFunc, []), (.func (.func g3) #[] lb3, zs)] _ (by show 3 ≤ _; omega) _ (vals_new w6 [.func (.func g2) #[] lb2, .nilFunc, .func (.func g3) #[] lb3] 26 3) (by
    intro p hp
    simp only [List.mem_cons, List.not_mem_nil, or_false] at hp
    rcases hp with rfl | rfl | rfl
    · exact h2.later hb
    · exact sq_nil _
    · exact h3.later hb)
  have e : flat [(.func (.func g2) #[] lb2, ys), (.nilFunc, []), (.func (.func g3) #[] lb3, zs)] = ys ++ zs := by simp [flat]
  rw [e] at h
  exact h

theorem all_f {W wr w6 w8 : World} {KB : Nat} {k : Int} {ys zs : List Int} {va u12 u13 v6 vs vr vall : Value} {o : Obj} {B : Nat → Prop}
    (hA : Cell wr KB (Value.int .i64 (k)) ∧ Sq wr vs ys ∧ Sq wr vr zs ∧ (Ints wr u12 (ys.map (fun x => wrap64 (wrap64 (x * 2) + k))) (fun b => u12.ownBlock = some b) ∧ ∀ b, u12.ownBlock = some b → b < wr.heap.size) ∧
      (Ints wr u13 (ys.filter (fun x => x.tmod 2 != 0)) (fun b => u13.ownBlock = some b) ∧ ∀ b, u13.ownBlock = some b → b < wr.heap.size) ∧ Below W.heap.size W wr)
    (hia : Ints wr va ys B ∧ ∀ b, B b → b < wr.heap.size) (hr6 : Row w6 wr.heap.size v6 (([] ++ ys) ++ zs)) (hb6 : Below wr.heap.size wr w6) (hs8 : Sq w8 vall (ys ++ zs)) (hb8 : Below (w6.alloc o).heap.size (w6.alloc o) w8) :
    AllF KB k ys zs va u12 u13 v6 vs vall w8 ∧ Below W.heap.size W w8 := by
  obtain ⟨a1, a2, a3, a4, a5, a6⟩ := hA
  have hb68 := below_on (below_alloc w6 o) hb8
  have hbt := below_on hb6 hb68
  refine ⟨⟨a1.of (hbt.block _ a1.lt), a2.later hbt, hs8, ⟨_, hia.1.on hia.2 hbt⟩, ⟨_, a4.1.on a4.2 hbt⟩, ⟨_, a5.1.on a5.2 hbt⟩, ⟨fun b => v6.ownBlock = some b, hr6.ints.on hr6.lt' hb68⟩⟩, below_on a6 hbt⟩

theorem ints_pre {w : World} {b off cap nl m : Nat} {ys : List Int} {i : Nat} {B : Nat → Prop} (h : Ints w (.slice (some ⟨b, off, none⟩) nl cap) ys B) (hm : (ys.take i).length = m) : Ints w (.slice (some ⟨b, off, none⟩) m cap) (ys.take i) B := by
  rcases h with ⟨h, _⟩ | ⟨b', off', cap', h, h1, h2⟩
  · cases h
  · injection h with e1 e2 e3
    injection e1 with e1
    injection e1 with e1 e4 _
    subst e1; subst e4; subst e3; subst hm
    refine .inr ⟨b, off, cap, rfl, h1, fun j hj => ?_⟩
    rw [List.length_take] at hj
    rw [h2 j (by omega), List.getElem?_take_of_lt (by omega)]
theorem ints_post {w : World} {b off cap nl m : Nat} {ys : List Int} {i : Nat} {B : Nat → Prop} {ad : Option Addr} {c : Nat} (h : Ints w (.slice (some ⟨b, off, none⟩) nl cap) ys B) (hm : i = m ∨ (nl = m ∧ ys.length ≤ i))
    (ha : ad = some ⟨b, off + m, none⟩ ∨ (ad = some ⟨b, off, none⟩ ∧ nl ≤ m)) : Ints w (.slice ad (nl - m) c) (ys.drop i) B := by
  rcases h with ⟨h, _⟩ | ⟨b', off', cap', h, h1, h2⟩
  · cases h
  · injection h with e1 e2 e3
    injection e1 with e1
    injection e1 with e1 e4 _
    subst e1; subst e4; subst e3
    have e : nl - m = (ys.drop i).length := by rw [List.length_drop]; omega
    rw [e]
    rcases ha with rfl | ⟨rfl, hle⟩
    · refine .inr ⟨b, off + m, c, rfl, h1, fun j hj => ?_⟩
      rw [List.length_drop] at hj
      have : i = m := by omega
      subst this
      rw [Nat.add_assoc, h2 (i + j) (by omega), List.getElem?_drop]
    · refine .inr ⟨b, off, c, rfl, h1, fun j hj => ?_⟩
      rw [← e] at hj
      omega
theorem ints_post0 {w : World} {b off cap nl m : Nat} {ys : List Int} {i : Nat} {B : Nat → Prop} {c : Nat} (h : Ints w (.slice (some ⟨b, off, none⟩) nl cap) ys B) (hm : i = m ∨ (nl = m ∧ ys.length ≤ i)) (hle : nl ≤ m) :
    Ints w (.slice (some ⟨b, off, none⟩) 0 c) (ys.drop i) B := by
  have := ints_post (c := c) h hm (.inr ⟨rfl, hle⟩)
  rwa [Nat.sub_eq_zero_of_le hle] at this
theorem step_call_g {P : Program} {ops : Array Oper} {o : Oper} {a : Act} {w : World} {K : Act → World → Prop} {Q : Exit → Act → World → Prop} {E : Prop} {f : FuncId} {xl : List Operand} {tys : Array TypeId}
    (ho : o.op = .call { callee := .value (.func f), args := xl.toArray, argTypes := tys }) (hw : Region.wanted o (yielded ops a.tmps) = true)
    (he : ∀ a w, (callFunc f a).run P w = .ok (.enter f a) w) (al : List Value) (hx' : xl.map a.eval = al) (h : Calls P f al.toArray w fun e w' => ∃ v, e = .returned v ∧ K (a.put o.dst v) w') :
    if Region.wanted o (yielded ops a.tmps) = true then Oper.wp P o a w K Q else E := by
  rw [if_pos hw]
  have hx : xl.toArray.map a.eval = al.toArray := by rw [← hx']; simp
  have : (execOp a.eval o).run P w = .ok (.enter f al.toArray) w := by
    simp only [execOp, ho, resolve, hx]
    simp [Act.eval, Deferred.ofValue, invoke, he, go_sem]
  unfold Oper.wp
  rw [this]
  refine Calls.mono h ?_
  rintro e w' ⟨v, rfl, hk⟩
  exact hk

end Go.Proofs.Ytjlnfeableleeaa
