/- Iterators that stand on one another: what a call of a function value does, which blocks may turn, what an iterator gives; the law of a range over such an iterator. -/
import Derived.RangeFuncNested
import Derived.RangeFuncBound
import Derived.RangeFuncCalls
import Derived.RangeFuncLeaves
import Derived.OwnWalkIn
import Derived.WalkKit
import Derived.Below
import Derived.ProofKit
import Derived.Lib.Hide
import Derived.Deep.QuietTactic
import Derived.BigQuiet
import Derived.StillTailTactics
import Derived.Deep.Cut
import Derived.Deep.RegionHeld3
import Derived.Deep.CutBlock
import Derived.Deep.CutRange
import Derived.Deep.LoopGhost
import Derived.Deep.RegionLaw
import Derived.IntWalk
import Derived.Deep.Onto
import Derived.Maps.AppendAt
import Derived.Maps.OwnIn
namespace Go.Proofs.YtffpmmphpdkkbaaGreat
open Go Go.RowKit

/-- Of the blocks that lay in W at most those of S have turned. -/
structure Chg (S : Nat → Prop) (W W' : World) : Prop where
  os : W'.os = W.os
  tape : W'.tape = W.tape
  output : W'.output = W.output
  size : W.heap.size ≤ W'.heap.size
  block : ∀ k, k < W.heap.size → ¬ S k → W'.heap[k]? = W.heap[k]?

theorem Chg.refl (S : Nat → Prop) (W : World) : Chg S W W := ⟨rfl, rfl, rfl, Nat.le_refl _, fun _ _ _ => rfl⟩
theorem Chg.trans {S S1 T : Nat → Prop} {A B C : World} (h : Chg S A B) (k : Chg S1 B C) (hs : ∀ b, b < A.heap.size → S b → T b) (hs1 : ∀ b, b < A.heap.size → S1 b → T b) : Chg T A C :=
  ⟨k.os.trans h.os, k.tape.trans h.tape, k.output.trans h.output, Nat.le_trans h.size k.size, fun b hb hn =>
    (k.block b (Nat.lt_of_lt_of_le hb h.size) (fun x => hn (hs1 b hb x))).trans (h.block b hb (fun x => hn (hs b hb x)))⟩
theorem Chg.mono {S T : Nat → Prop} {A B : World} (h : Chg S A B) (hs : ∀ b, b < A.heap.size → S b → T b) : Chg T A B :=
  ⟨h.os, h.tape, h.output, h.size, fun b hb hn => h.block b hb (fun x => hn (hs b hb x))⟩
theorem Chg.alloc {S : Nat → Prop} {A B : World} (h : Chg S A B) (o : Obj) : Chg S A (B.alloc o) :=
  ⟨h.os, h.tape, h.output, by have := h.size; simp; omega, fun b hb hn => (Below.heap_alloc _ _ _ (Nat.lt_of_lt_of_le hb h.size)).trans (h.block b hb hn)⟩
theorem Chg.drew {S : Nat → Prop} {A B : World} (h : Chg S A B) : Chg S A B.drew := ⟨h.os, h.tape, h.output, h.size, h.block⟩
theorem Chg.setCell {S : Nat → Prop} {A B : World} (h : Chg S A B) {p : Addr} (hp : p.block < A.heap.size → S p.block) (v : Value) : Chg S A (B.setCell p v) :=
  ⟨h.os, h.tape, h.output, by have := h.size; simpa [World.setCell] using this, fun b hb hn => (Below.heap_setCell _ _ _ _ (fun e => by subst e; exact hn (hp hb))).trans (h.block b hb hn)⟩
theorem Chg.putObj {S : Nat → Prop} {A B : World} (h : Chg S A B) {l : Nat} (hp : l < A.heap.size → S l) (o : Obj) : Chg S A (B.putObj l o) :=
  ⟨h.os, h.tape, h.output, by have := h.size; simpa using this, fun b hb hn => (World.putObj_heap_other (fun e => by subst e; exact hn (hp hb))).trans (h.block b hb hn)⟩
theorem Chg.grown {S : Nat → Prop} {A B C : World} {row : Option Nat} (h : Chg S A B) (hg : B.grownBy C row) (hr : ∀ k, row = some k → k < A.heap.size → S k) : Chg S A C :=
  ⟨hg.os.trans h.os, hg.tape.trans h.tape, hg.output.trans h.output, Nat.le_trans h.size hg.size, fun b hb hn => (hg.block b (Nat.lt_of_lt_of_le hb h.size) (fun e => hn (hr b e.symm hb))).trans (h.block b hb hn)⟩
theorem Chg.of_below {S : Nat → Prop} {A B : World} (h : Below A.heap.size A B) : Chg S A B := ⟨h.os, h.tape, h.output, h.size, fun b hb _ => h.block b hb⟩
theorem Chg.of_below' {S : Nat → Prop} {A B : World} {n : Nat} (h : Below n A B) (hs : ∀ b, b < A.heap.size → n ≤ b → S b) : Chg S A B :=
  ⟨h.os, h.tape, h.output, h.size, fun b hb hn => by
    rcases Nat.lt_or_ge b n with h1 | h1
    · exact h.block b h1
    · exact absurd (hs b hb h1) hn⟩
theorem Chg.below {S : Nat → Prop} {A B : World} (h : Chg S A B) {n : Nat} (hn : n ≤ A.heap.size) (hs : ∀ b, b < n → ¬ S b) : Below n A B :=
  ⟨h.os, h.tape, h.output, h.size, fun b hb => h.block b (Nat.lt_of_lt_of_le hb hn) (hs b hb)⟩
theorem Chg.cell {S : Nat → Prop} {A B : World} (h : Chg S A B) {p : Addr} (hp : p.block < A.heap.size) (hn : ¬ S p.block) : B.cell? p = A.cell? p := World.cell?_of_block (w := A) (h.block _ hp hn)
theorem Chg.frozen {S : Nat → Prop} {A B : World} (h : Chg S A B) {p : Addr} (hp : p.block < A.heap.size) (hn : ¬ S p.block) : B.frozen? p = A.frozen? p := World.frozen?_of_block (w := A) (h.block _ hp hn)

/-- S' is S and, it may be, blocks that were not there in W. -/
def Grows (S S' : Nat → Prop) (W : World) : Prop := ∀ b, S' b → S b ∨ W.heap.size ≤ b
theorem Grows.refl (S : Nat → Prop) (W : World) : Grows S S W := fun _ h => .inl h
theorem Grows.trans {S S1 S2 : Nat → Prop} {A B : World} (h : Grows S S1 A) (k : Grows S1 S2 B) (hs : A.heap.size ≤ B.heap.size) : Grows S S2 A := fun b hb => by
  rcases k b hb with h1 | h1
  · exact h b h1
  · exact .inr (Nat.le_trans hs h1)
/-- All of S lies in W. -/
def InW (S : Nat → Prop) (W : World) : Prop := ∀ b, S b → b < W.heap.size
theorem InW.later {S : Nat → Prop} {A B : World} (h : InW S A) (k : A.heap.size ≤ B.heap.size) : InW S B := fun b hb => Nat.lt_of_lt_of_le (h b hb) k
/-- It speaks of the blocks of S alone. -/
def Loc (J : (Nat → Prop) → World → Prop) : Prop := ∀ S W W', J S W → InW S W → W.heap.size ≤ W'.heap.size → (∀ b, S b → W'.heap[b]? = W.heap[b]?) → J S W'

/-- A call of the function value yv. -/
def CallsV (P : Program) (yv : Value) (args : Array Value) (W : World) (R : Ending → World → Prop) : Prop :=
  (∃ g lb, yv = .func (.func g) #[] lb ∧ (∀ a w, (callFunc g a).run P w = .ok (.enter g a) w) ∧ Calls P g (args ++ lb) W R) ∨
  (∃ l fn tmps asg body, yv = .func (.yield l) #[] #[] ∧ (Instr.yield l args).run P W = .ok (.round l fn tmps asg body) W ∧ RoundIn Fence.wide 0 P l fn tmps asg body W R)

theorem CallsV.mono {P : Program} {yv : Value} {args : Array Value} {W : World} {R R' : Ending → World → Prop} (h : CallsV P yv args W R) (hr : ∀ e w, R e w → R' e w) : CallsV P yv args W R' := by
  rcases h with ⟨g, lb, h1, h2, h3⟩ | ⟨l, fn, t, a, b, h1, h2, h3⟩
  · exact .inl ⟨g, lb, h1, h2, h3.mono hr⟩
  · exact .inr ⟨l, fn, t, a, b, h1, h2, h3.mono hr⟩

theorem roundIn_of_wide {F : Fence} {n m : Nat} {P : Program} {l f : Nat} {tmps : Array Value} {a b : Code} {W : World} {R : Ending → World → Prop} (hF : F.plain = Fence.wide)
    (h : RoundIn Fence.wide m P l f tmps a b W R) : RoundIn F n P l f tmps a b W R := by
  have h' : RoundIn F.plain n P l f tmps a b W R := by
    rw [hF]; exact ⟨trivial, fun c cs _ => h.2 c cs (room_wide _)⟩
  exact h'
theorem callsIn_of_calls {F : Fence} {n : Nat} {P : Program} {f : FuncId} {args : Array Value} {W : World} {R : Ending → World → Prop} (hF : F.plain = Fence.wide) (h : Calls P f args W R) : CallsIn F n P f args W R := by
  have h' : CallsIn F.plain n P f args W R := by rw [hF]; exact callsIn_wide.2 h
  exact h'

/-- A call of a function value, in a region. -/
theorem wpListIn_callV {F : Fence} {n : Nat} {P : Program} {ops : Array Oper} {rest : List Oper} {a : Act} {w : World} {Q : Exit → Act → World → Prop} {dst : Option Tmp} {g : Operand} {xl : List Operand} {tys : Array TypeId} {ty : TypeId} {pos : String} {after : Array Edge} {gd : Option (Nat × Bool)}
    (hw : Region.wanted { dst := dst, op := .call { callee := .value g, args := xl.toArray, argTypes := tys }, type := ty, pos := pos, after := after, guard := gd } (yielded ops a.tmps) = true) (hF : F.plain = Fence.wide) (yv : Value) (al : List Value) (hy : a.eval g = yv) (hx' : xl.map a.eval = al)
    (h : CallsV P yv al.toArray w fun e w' => ∃ v, e = .returned v ∧ wpListIn F n P ops Q rest (a.put dst v) w') :
    wpListIn F n P ops Q ({ dst := dst, op := .call { callee := .value g, args := xl.toArray, argTypes := tys }, type := ty, pos := pos, after := after, guard := gd } :: rest) a w := by
  obtain ⟨args, hargs⟩ : ∃ args, al.toArray = args := ⟨_, rfl⟩
  rw [hargs] at h
  have hx : xl.toArray.map a.eval = args := by rw [← hargs, ← hx']; simp
  have hfn : ∀ f, F.fn f := fun f => by have : F.plain.fn f := by rw [hF]; trivial
                                        exact this
  have hdp : F.depth = none := by have : F.plain.depth = none := by rw [hF]; rfl
                                  exact this
  refine wpListIn_step fun K hK => ?_
  rw [if_pos hw]
  unfold Oper.wpIn
  refine ⟨fun f _ => hfn f, ?_⟩
  rcases h with ⟨gf, lb, rfl, he, hc⟩ | ⟨l, fn, t, asg, body, rfl, hr, hc⟩
  · rw [Oper.semAt_plain F _ _ (by intro c hc'; cases hc')]
    have : (execOp a.eval { dst := dst, op := .call { callee := .value g, args := xl.toArray, argTypes := tys }, type := ty, pos := pos, after := after, guard := gd }).run P w = .ok (.enter gf (args ++ lb)) w := by
      simp only [execOp, resolve, hy, hx]
      simp [Deferred.ofValue, invoke, he, go_sem]
    rw [this, Oper.uponIn_enter]
    refine ⟨fun h => by simp [hdp] at h, (callsIn_of_calls hF hc).mono ?_⟩
    rintro e w' ⟨v, rfl, h⟩
    exact hK _ _ h
  · rw [Oper.semAt_plain F _ _ (by intro c hc'; cases hc')]
    have : (execOp a.eval { dst := dst, op := .call { callee := .value g, args := xl.toArray, argTypes := tys }, type := ty, pos := pos, after := after, guard := gd }).run P w = .ok (.round l fn t asg body) w := by
      simp only [execOp, resolve, hy, hx]
      simp [Deferred.ofValue, invoke, hr, go_sem]
    rw [this, Oper.uponIn_round]
    refine ⟨fun h => by simp [hdp] at h, (roundIn_of_wide hF hc).mono ?_⟩
    rintro e w' ⟨v, rfl, h⟩
    exact hK _ _ h

/-- The iterator sv gives xs, one by one, and stops when it is told to; M: the blocks that it stands on; Mm: those of them that it may turn; Q k: how they are when k have come. -/
def Gives {α : Type} (P : Program) (sv : Value) (encs : α → Array Value) (xs : List α) (M Mm : Nat → Prop) (Q : Nat → World → Prop) : Prop :=
  (∀ k W W', Q k W → InW M W → W.heap.size ≤ W'.heap.size → (∀ b, M b → W'.heap[b]? = W.heap[b]?) → Q k W') ∧ (∃ g lb, sv = .func (.func g) #[] lb) ∧ (∀ b, Mm b → M b) ∧
  ∀ (yf : Fn) (yb : Array Value) (J Jx : Nat → (Nat → Prop) → World → Prop) (S : Nat → Prop) (W : World), (∀ k, Loc (J k)) → (∀ k, Loc (Jx k)) →
    InW S W → InW M W → (∀ b, S b → ¬ M b) → Q 0 W → J 0 S W →
    (∀ k (hk : k < xs.length) S1 W1, InW S1 W1 → Chg (fun b => S b ∨ Mm b) W W1 → J k S1 W1 →
      CallsV P (.func yf #[] yb) (encs xs[k]) W1 fun e W2 => ∃ S2, Grows S1 S2 W1 ∧ InW S2 W2 ∧ Chg S1 W1 W2 ∧
        ((e = .returned (.bool true) ∧ J (k + 1) S2 W2) ∨ (e = .returned (.bool false) ∧ Jx (k + 1) S2 W2))) →
    CallsV P sv #[.func yf #[] yb] W fun e W' => ∃ v S', e = .returned v ∧ Grows S S' W ∧ InW S' W' ∧ Chg (fun b => S b ∨ Mm b) W W' ∧
      ((J xs.length S' W' ∧ Q xs.length W') ∨ ∃ k, 0 < k ∧ k ≤ xs.length ∧ Jx k S' W' ∧ Q k W')

/-- What 'Gives' says of the call's end, under one name. -/
def GPost (S Mm : Nat → Prop) (J Jx : Nat → (Nat → Prop) → World → Prop) (Q : Nat → World → Prop) (n : Nat) (W : World) (e : Ending) (W' : World) : Prop :=
  ∃ v S', e = .returned v ∧ Grows S S' W ∧ InW S' W' ∧ Chg (fun b => S b ∨ Mm b) W W' ∧ ((J n S' W' ∧ Q n W') ∨ ∃ k, 0 < k ∧ k ≤ n ∧ Jx k S' W' ∧ Q k W')

/-- How a round's body may be left. -/
def sepPost (I : Nat → (Nat → Prop) → World → Prop) (Ix : Code → Nat → (Nat → Prop) → World → Prop) (k : Nat) (S1 : Nat → Prop) (W1 : World) : Exit → Act → World → Prop
  | .normal, _, W2 => ∃ S2, Grows S1 S2 W1 ∧ InW S2 W2 ∧ Chg S1 W1 W2 ∧ I k S2 W2
  | .ret, _, W2 => ∃ S2, Grows S1 S2 W1 ∧ InW S2 W2 ∧ Chg S1 W1 W2 ∧ Ix .ret k S2 W2
  | .exit id, _, W2 => ∃ S2, Grows S1 S2 W1 ∧ InW S2 W2 ∧ Chg S1 W1 W2 ∧ Ix (.exit id) k S2 W2
  | _, _, _ => False

/-- The mark that a range over a function leaves. -/
def markAt (D : Nat) : Deferred := { target := .collected D, args := #[] }

/-- **The law of a range over an iterator that gives xs.** -/
theorem wpIn_rangeFunc_sep {α : Type} {n : Nat} {P : Program} {g : Operand} {ps : Array Tmp} {assign body : Code} {Q : Exit → Act → World → Prop} {a : Act} {w : World}
    {sv : Value} (hg : a.eval g = sv) {encs : α → Array Value} {xs : List α} {M Mm : Nat → Prop} {Qi : Nat → World → Prop} (hgv : Gives P sv encs xs M Mm Qi) (hps : ∀ x, (encs x).size = ps.size)
    (I : Nat → (Nat → Prop) → World → Prop) (Ix : Code → Nat → (Nat → Prop) → World → Prop) (hI : ∀ k, Loc (I k)) (hIx : ∀ c k, Loc (Ix c k))
    (S : Nat → Prop) (hS : InW S w) (hM : InW M w) (hSM : ∀ b, S b → ¬ M b) (hQ : Qi 0 w) (h0 : I 0 S w) (a₁ : α → Act)
    (hassign : ∀ (l : Nat) (x : α) (W : World) (K : Act → World → Prop), K (a₁ x) W →
      assign.wpIn (Fence.wide.inRound l) 0 P (Exit.then K (fun _ _ _ => False)) { tmps := (ps.zip (encs x)).foldl (fun t (p, v) => t.setIfInBounds p v) a.tmps, defers := [] } W)
    (hbody : ∀ (l k : Nat) (hk : k < xs.length) S1 W1, InW S1 W1 → Chg (fun b => S b ∨ Mm b) w W1 → I k S1 W1 → body.wpIn (Fence.wide.inRound l) 0 P (sepPost I Ix (k + 1) S1 W1) (a₁ xs[k]) W1)
    (hdone : ∀ S' W', Grows S S' w → InW S' W' → Chg (fun b => S b ∨ Mm b) w W' → I xs.length S' W' → Qi xs.length W' → W'.heap[w.heap.size]? = some (.deferred (some [])) → ¬ S' w.heap.size →
      Q .normal { a with defers := markAt w.heap.size :: a.defers } W')
    (hstop : ∀ c k S' W', 0 < k → k ≤ xs.length → Grows S S' w → InW S' W' → Chg (fun b => S b ∨ Mm b) w W' → Ix c k S' W' → Qi k W' → W'.heap[w.heap.size]? = some (.deferred (some [])) → ¬ S' w.heap.size →
      c.wpIn Fence.wide n P Q { a with defers := markAt w.heap.size :: a.defers } W') :
    (Code.rangeFunc g ps assign body).wpIn Fence.wide n P Q a w := by
  refine wpIn_rangeFunc ?_
  intro fn hfn
  obtain ⟨D, hD⟩ : ∃ D, w.heap.size = D := ⟨_, rfl⟩
  obtain ⟨rec, hrec⟩ : ∃ rec : LoopState → Option Code → Loop, rec = fun st pe => { state := st, pending := pe, fn, tmps := a.tmps, params := ps, assign, body, defers := D } := ⟨_, rfl⟩
  obtain ⟨w1, hw1⟩ : ∃ w1, (w.alloc (.deferred (some []))).alloc (.loop (rec .ready none)) = w1 := ⟨_, rfl⟩
  have hL1 : w1.heap[D + 1]? = some (.loop (rec .ready none)) := by
    rw [← hw1]; have := World.alloc_heap_new (w.alloc (.deferred (some []))) (.loop (rec .ready none)); rw [World.size_alloc, hD] at this; exact this
  have hK1 : w1.heap[D]? = some (.deferred (some [])) := by
    rw [← hw1, ← hD]; exact (Below.heap_alloc _ _ _ (by simp)).trans (World.alloc_heap_new w _)
  have hz1 : w1.heap.size = D + 2 := by rw [← hw1]; simp [hD]
  have hc1 : Chg S w w1 := by rw [← hw1]; exact ((Chg.refl S w).alloc _).alloc _
  have hcB : ∀ b, b < D → w1.heap[b]? = w.heap[b]? := fun b hb => by
    rw [← hw1]; exact (Below.heap_alloc _ _ _ (by simp; omega)).trans (Below.heap_alloc _ _ _ (by omega))
  have hS' : ∀ b, S b → b < D := fun b hb => by rw [← hD]; exact hS b hb
  have hM' : ∀ b, M b → b < D := fun b hb => by rw [← hD]; exact hM b hb
  -- THE ITERATOR's CALL
  have hMm : ∀ b, Mm b → b < D := fun b x => hM' b (hgv.2.2.1 b x)
  have hcall := hgv.2.2.2 (.yield (D + 1)) #[]
    (fun k T W => ∃ T0, (∀ b, T b ↔ T0 b ∨ b = D + 1 ∨ b = D) ∧ ¬ T0 (D + 1) ∧ ¬ T0 D ∧ I k T0 W ∧ D + 2 ≤ W.heap.size ∧ W.heap[D + 1]? = some (.loop (rec .ready none)) ∧ W.heap[D]? = some (.deferred (some [])))
    (fun k T W => ∃ T0, (∀ b, T b ↔ T0 b ∨ b = D + 1 ∨ b = D) ∧ ¬ T0 (D + 1) ∧ ¬ T0 D ∧ D + 2 ≤ W.heap.size ∧ ∃ c, Ix c k T0 W ∧ W.heap[D + 1]? = some (.loop (rec .done (some c))) ∧ W.heap[D]? = some (.deferred (some [])))
    (fun b => S b ∨ b = D + 1 ∨ b = D) w1
    (by
      rintro k T W W' ⟨T0, hT, h1, h2, hi, hz, hl, hd⟩ hin hsz hb
      exact ⟨T0, hT, h1, h2, hI k T0 W W' hi (fun b h => hin b ((hT b).2 (.inl h))) hsz (fun b h => hb b ((hT b).2 (.inl h))), by omega, (hb _ ((hT _).2 (.inr (.inl rfl)))).trans hl, (hb _ ((hT _).2 (.inr (.inr rfl)))).trans hd⟩)
    (by
      rintro k T W W' ⟨T0, hT, h1, h2, hz, c, hi, hl, hd⟩ hin hsz hb
      exact ⟨T0, hT, h1, h2, by omega, c, hIx c k T0 W W' hi (fun b h => hin b ((hT b).2 (.inl h))) hsz (fun b h => hb b ((hT b).2 (.inl h))), (hb _ ((hT _).2 (.inr (.inl rfl)))).trans hl, (hb _ ((hT _).2 (.inr (.inr rfl)))).trans hd⟩)
    (by rintro b (h | rfl | rfl) <;> rw [hz1]
        · have := hS' b h; omega
        · omega
        · omega)
    (fun b h => by rw [hz1]; have := hM' b h; omega)
    (by rintro b (h | rfl | rfl) hm
        · exact hSM b h hm
        · have := hM' _ hm; omega
        · have := hM' _ hm; omega)
    (hgv.1 0 w w1 hQ hM (by rw [hz1]; omega) (fun b hb => hcB b (hM' b hb)))
    ⟨S, fun _ => Iff.rfl, fun h => by have := hS' _ h; omega, fun h => by have := hS' _ h; omega, hI 0 S w w1 h0 hS (by rw [hz1]; omega) (fun b hb => hcB b (hS' b hb)), by omega, hL1, hK1⟩
    (by
      rintro k hk T W1 hin hchg1 ⟨T0, hT, hn1, hn2, hi, hz, hl, hd⟩
      have hsz := hchg1.size
      have hlt : D + 1 < W1.heap.size := by omega
      have hy := run_yield (P := P) (args := encs xs[k]) hl (by rw [hrec]; exact hps _)
      rw [hrec] at hy
      refine .inr ⟨D + 1, fn, _, assign, body, rfl, hy, roundIn_of_wpIn trivial (hassign _ xs[k] W1 _ ⟨_, run_beginRound hl (by rw [hrec]), ?_⟩)⟩
      obtain ⟨W2, hW2⟩ : ∃ W2, W1.putObj (D + 1) (.loop { rec .ready none with state := .busy }) = W2 := ⟨_, rfl⟩
      rw [hW2]
      have hz2 : W2.heap.size = W1.heap.size := by rw [← hW2]; simp
      have hl2 : W2.heap[D + 1]? = some (.loop { rec .ready none with state := .busy }) := by rw [← hW2]; exact World.putObj_heap_same hlt
      have hd2 : W2.heap[D]? = some (.deferred (some [])) := by rw [← hW2]; exact (World.putObj_heap_other (by omega)).trans hd
      have ho2 : ∀ b, b ≠ D + 1 → W2.heap[b]? = W1.heap[b]? := fun b hb => by rw [← hW2]; exact World.putObj_heap_other hb
      have hin0 : InW T0 W1 := fun b h => hin b ((hT b).2 (.inl h))
      have hi2 : I k T0 W2 := hI k T0 W1 W2 hi hin0 (by omega) (fun b h => ho2 b (fun e => hn1 (e ▸ h)))
      refine wpIn_mono (hbody (D + 1) k hk T0 W2 (fun b h => by rw [hz2]; exact hin0 b h) (by
        have : Chg (fun b => S b ∨ Mm b) w W1 := hc1.trans hchg1 (fun _ _ h => .inl h) (fun b hb h => by
          rcases h with (h | h | h) | h
          · exact .inl h
          · omega
          · omega
          · exact .inr h)
        rw [← hW2]; exact this.putObj (fun h => by omega) _) hi2) ?_
      have hc2 : Chg T W1 W2 := by rw [← hW2]; exact (Chg.refl T W1).putObj (fun _ => (hT _).2 (.inr (.inl rfl))) _
      -- what is common to all ways out
      have fin : ∀ (jump : Option Code) (S2 : Nat → Prop) (W3 : World), Grows T0 S2 W2 → InW S2 W3 → Chg T0 W2 W3 → ∃ W4,
          (Instr.endRound (D + 1) jump).run P W3 = .ok (.bool jump.isNone) W4 ∧ W4.heap.size = W3.heap.size ∧ (∀ b, b ≠ D + 1 → W4.heap[b]? = W3.heap[b]?) ∧
          ¬ S2 (D + 1) ∧ ¬ S2 D ∧ Grows T (fun b => S2 b ∨ b = D + 1 ∨ b = D) W1 ∧ InW (fun b => S2 b ∨ b = D + 1 ∨ b = D) W4 ∧ Chg T W1 W4 ∧ D + 2 ≤ W4.heap.size ∧
          W4.heap[D + 1]? = some (.loop (rec (if jump.isNone then .ready else .done) jump)) ∧ W4.heap[D]? = some (.deferred (some [])) := fun jump S2 W3 hgr hin2 hch => by
        have hz3 := hch.size
        have hl3 : W3.heap[D + 1]? = some (.loop { rec .ready none with state := .busy }) := (hch.block _ (by omega) hn1).trans hl2
        have hd3 : W3.heap[D]? = some (.deferred (some [])) := (hch.block _ (by omega) hn2).trans hd2
        have hs1 : ¬ S2 (D + 1) := fun h => by
          rcases hgr _ h with h1 | h1
          · exact hn1 h1
          · omega
        have hs2 : ¬ S2 D := fun h => by
          rcases hgr _ h with h1 | h1
          · exact hn2 h1
          · omega
        have her := run_endRound (P := P) jump hl3
        refine ⟨_, her, by simp, fun b hb => World.putObj_heap_other hb, hs1, hs2, ?_, ?_, ?_, by simp; omega, ?_, (World.putObj_heap_other (by omega)).trans hd3⟩
        · rintro b (h | h | h)
          · rcases hgr b h with h1 | h1
            · exact .inl ((hT b).2 (.inl h1))
            · exact .inr (by omega)
          · exact .inl ((hT b).2 (.inr (.inl h)))
          · exact .inl ((hT b).2 (.inr (.inr h)))
        · rintro b (h | h | h)
          · have := hin2 b h; simpa using this
          · simp; omega
          · simp; omega
        · refine (hc2.trans hch (fun _ _ h => h) (fun b _ h => (hT b).2 (.inl h))).putObj (fun _ => (hT _).2 (.inr (.inl rfl))) _
        · rw [World.putObj_heap_same (by omega), hrec]
      rintro e a3 W3 hp
      cases e with
      | normal =>
        obtain ⟨S2, hgr, hin2, hch, hi3⟩ := hp
        obtain ⟨W4, hr, hz4, ho4, hs1, hs2, hg4, hi4, hc4, hm4, hl4, hd4⟩ := fin none S2 W3 hgr hin2 hch
        exact ⟨_, _, hr, _, hg4, hi4, hc4, .inl ⟨rfl, S2, fun _ => Iff.rfl, hs1, hs2, hI _ _ _ _ hi3 hin2 (by omega) (fun b h => ho4 b (fun e => hs1 (e ▸ h))), hm4, hl4, hd4⟩⟩
      | ret =>
        obtain ⟨S2, hgr, hin2, hch, hi3⟩ := hp
        obtain ⟨W4, hr, hz4, ho4, hs1, hs2, hg4, hi4, hc4, hm4, hl4, hd4⟩ := fin (some .ret) S2 W3 hgr hin2 hch
        exact ⟨_, _, hr, _, hg4, hi4, hc4, .inr ⟨rfl, S2, fun _ => Iff.rfl, hs1, hs2, hm4, _, hIx _ _ _ _ _ hi3 hin2 (by omega) (fun b h => ho4 b (fun e => hs1 (e ▸ h))), hl4, hd4⟩⟩
      | exit id =>
        obtain ⟨S2, hgr, hin2, hch, hi3⟩ := hp
        obtain ⟨W4, hr, hz4, ho4, hs1, hs2, hg4, hi4, hc4, hm4, hl4, hd4⟩ := fin (some (.exit id)) S2 W3 hgr hin2 hch
        exact ⟨_, _, hr, _, hg4, hi4, hc4, .inr ⟨rfl, S2, fun _ => Iff.rfl, hs1, hs2, hm4, _, hIx _ _ _ _ _ hi3 hin2 (by omega) (fun b h => ho4 b (fun e => hs1 (e ▸ h))), hl4, hd4⟩⟩
      | goto t => exact hp.elim
      | panic ch => exact hp.elim
      | outgrown => exact hp.elim)
  -- the statement's frame
  have hev : a.eval g = sv := hg
  have hpost : ∀ e W2, (∃ v S', e = Ending.returned v ∧ Grows (fun b => S b ∨ b = D + 1 ∨ b = D) S' w1 ∧ InW S' W2 ∧ Chg (fun b => (S b ∨ b = D + 1 ∨ b = D) ∨ Mm b) w1 W2 ∧
      (((∃ T0, (∀ b, S' b ↔ T0 b ∨ b = D + 1 ∨ b = D) ∧ ¬ T0 (D + 1) ∧ ¬ T0 D ∧ I xs.length T0 W2 ∧ D + 2 ≤ W2.heap.size ∧ W2.heap[D + 1]? = some (.loop (rec .ready none)) ∧ W2.heap[D]? = some (.deferred (some []))) ∧ Qi xs.length W2) ∨
        ∃ k, 0 < k ∧ k ≤ xs.length ∧ (∃ T0, (∀ b, S' b ↔ T0 b ∨ b = D + 1 ∨ b = D) ∧ ¬ T0 (D + 1) ∧ ¬ T0 D ∧ D + 2 ≤ W2.heap.size ∧ ∃ c, Ix c k T0 W2 ∧ W2.heap[D + 1]? = some (.loop (rec .done (some c))) ∧ W2.heap[D]? = some (.deferred (some []))) ∧ Qi k W2)) →
      rangePost Fence.wide n P (D + 1) Q { a with defers := [markAt D] ++ a.defers } e W2 := by
    rintro e W2 ⟨v, S', rfl, hgr, hin, hch, hend⟩
    have grow : ∀ T0 : Nat → Prop, (∀ b, S' b ↔ T0 b ∨ b = D + 1 ∨ b = D) → ¬ T0 (D + 1) → ¬ T0 D → Grows S T0 w := fun T0 hT hn1 hn2 b hb => by
      rcases hgr b ((hT b).2 (.inl hb)) with (h1 | h1 | h1) | h1
      · exact .inl h1
      · exact absurd (h1 ▸ hb) hn1
      · exact absurd (h1 ▸ hb) hn2
      · exact .inr (by omega)
    have hchg : ∀ o : Obj, Chg (fun b => S b ∨ Mm b) w (W2.putObj (D + 1) o) := fun o =>
      ((hc1.trans hch (T := fun b => S b ∨ Mm b) (fun _ _ h => .inl h) (fun b hb h => by
        rcases h with (h | h | h) | h
        · exact .inl h
        · omega
        · omega
        · exact .inr h)).putObj (fun h => by omega) o)
    rcases hend with ⟨⟨T0, hT, hn1, hn2, hi, hz, hl, hd⟩, hq⟩ | ⟨k, hk0, hk, ⟨T0, hT, hn1, hn2, hz, c, hi, hl, hd⟩, hq⟩
    · have hin0 : InW T0 W2 := fun b h => hin b ((hT b).2 (.inl h))
      refine ⟨none, _, by have := run_endLoop (P := P) hl (by rw [hrec]; simp); rw [hrec] at this; exact this, ?_⟩
      have := hdone T0 (W2.putObj (D + 1) (.loop { rec .ready none with state := .exhausted })) (grow T0 hT hn1 hn2) (fun b h => by simpa using hin0 b h) (hchg _)
        (hI _ _ _ _ hi hin0 (by simp) (fun b h => World.putObj_heap_other (fun e => hn1 (e ▸ h))))
        (hgv.1 _ _ _ hq (fun b h => by have := hM' b h; omega) (by simp) (fun b h => World.putObj_heap_other (by have := hM' b h; omega)))
        (by rw [hD]; exact (World.putObj_heap_other (by omega)).trans hd) (by rw [hD]; exact hn2)
      rw [hD, hrec] at this
      exact this
    · have hin0 : InW T0 W2 := fun b h => hin b ((hT b).2 (.inl h))
      refine ⟨some c, _, by have := run_endLoop (P := P) hl (by rw [hrec]; simp); rw [hrec] at this; exact this, ?_⟩
      have := hstop c k T0 (W2.putObj (D + 1) (.loop { rec .done (some c) with state := .exhausted })) hk0 hk (grow T0 hT hn1 hn2) (fun b h => by simpa using hin0 b h) (hchg _)
        (hIx _ _ _ _ _ hi hin0 (by simp) (fun b h => World.putObj_heap_other (fun e => hn1 (e ▸ h))))
        (hgv.1 _ _ _ hq (fun b h => by have := hM' b h; omega) (by simp) (fun b h => World.putObj_heap_other (by have := hM' b h; omega)))
        (by rw [hD]; exact (World.putObj_heap_other (by omega)).trans hd) (by rw [hD]; exact hn2)
      rw [hD, hrec] at this
      exact this
  rcases hcall with ⟨gf, lb, rfl, he, hc⟩ | ⟨l', _, _, _, _, rfl, hr', hc'⟩
  · refine ⟨D + 1, [markAt D], w1, { target := .fn (.func gf) lb, args := #[.func (.yield (D + 1)) #[] #[]] }, w1, gf,
      #[.func (.yield (D + 1)) #[] #[]] ++ lb, w1, ?_, ?_, fun _ _ => trivial, ?_, fun h => by simp [Fence.wide] at h, ?_⟩
    · rw [← hw1, hrec, ← hD]; exact run_enterLoop_outer _ _ _ _ _
    · simp only [resolve, hg]
      simp [go_sem]
    · simp [invoke, go_sem, he]
    · exact callsIn_wide.2 (hc.mono hpost)
  · -- the iterator's value is never a yield: its record would have to be there
    obtain ⟨g', lb', hh⟩ := hgv.2.1
    cases hh

/-- A function without results is left with one mark among its deferred calls. -/
theorem post_mark {F : Fence} {n : Nat} {P : Program} {fn : Func} {R : Ending → World → Prop} {tmps : Array Value} {w : World} {D : Nat} (hres : fn.results = #[]) (hK : w.heap[D]? = some (.deferred (some [])))
    (h : ∀ w', Chg (fun b => b = D) w w' → w'.heap.size = w.heap.size → R (.returned (.tuple #[])) w') :
    bodyPostM F n P fn R .normal { tmps := tmps, defers := [markAt D] } w ∧ bodyPostM F n P fn R .ret { tmps := tmps, defers := [markAt D] } w := by
  have : LeavesInM F n P fn tmps R [markAt D] .returning w := by
    refine ⟨by simp, .inl ⟨_, _, rfl, run_takeDeferred hK, ?_⟩⟩
    exact ⟨_, results_none hres _ _ _, h _ ((Chg.refl (fun b => b = D) w).putObj (l := D) (fun _ => rfl) _) (by simp)⟩
  exact ⟨this, this⟩

theorem post_mark1 {F : Fence} {n : Nat} {P : Program} {fn : Func} {R : Ending → World → Prop} {tmps : Array Value} {w : World} {D : Nat} {t : Tmp} (hres : fn.results = #[.tmp t]) (hK : w.heap[D]? = some (.deferred (some [])))
    (h : ∀ w', Chg (fun b => b = D) w w' → w'.heap.size = w.heap.size → R (.returned (tmps.getD t undef)) w') :
    bodyPostM F n P fn R .ret { tmps := tmps, defers := [markAt D] } w := by
  have : LeavesInM F n P fn tmps R [markAt D] .returning w := by
    refine ⟨by simp, .inl ⟨_, _, rfl, run_takeDeferred hK, ?_⟩⟩
    exact ⟨_, results_tmp hres _ _ _, h _ ((Chg.refl (fun b => b = D) w).putObj (l := D) (fun _ => rfl) _) (by simp)⟩
  exact this

/-! ### Blocks of one's own beside the caller's -/
/-- The caller's J at some of T; the rest of T are one's own blocks, of which C is said. -/
def Plus (own : Nat → Prop) (J : (Nat → Prop) → World → Prop) (C : World → Prop) (T : Nat → Prop) (W : World) : Prop :=
  ∃ T0, (∀ b, T b ↔ T0 b ∨ own b) ∧ (∀ b, own b → ¬ T0 b) ∧ J T0 W ∧ C W
theorem Plus.loc {own : Nat → Prop} {J : (Nat → Prop) → World → Prop} {C : World → Prop} (hJ : Loc J) (hC : ∀ W W', C W → InW own W → W.heap.size ≤ W'.heap.size → (∀ b, own b → W'.heap[b]? = W.heap[b]?) → C W') : Loc (Plus own J C) := by
  rintro T W W' ⟨T0, hT, hn, hj, hc⟩ hin hsz hb
  exact ⟨T0, hT, hn, hJ T0 W W' hj (fun b h => hin b ((hT b).2 (.inl h))) hsz (fun b h => hb b ((hT b).2 (.inl h))), hC W W' hc (fun b h => hin b ((hT b).2 (.inr h))) hsz (fun b h => hb b ((hT b).2 (.inr h)))⟩
/-- The caller's part has gone a step. -/
theorem Plus.step {own : Nat → Prop} {T T0 S2 : Nat → Prop} {W1 W2 : World} (hT : ∀ b, T b ↔ T0 b ∨ own b) (hn : ∀ b, own b → ¬ T0 b) (hin : InW T W1)
    (hg : Grows T0 S2 W1) (hi : InW S2 W2) (hc : Chg T0 W1 W2) :
    Grows T (fun b => S2 b ∨ own b) W1 ∧ InW (fun b => S2 b ∨ own b) W2 ∧ Chg T W1 W2 ∧ (∀ b, own b → ¬ S2 b) ∧ (∀ b, own b → W2.heap[b]? = W1.heap[b]?) := by
  have hlt : ∀ b, own b → b < W1.heap.size := fun b h => hin b ((hT b).2 (.inr h))
  refine ⟨?_, ?_, hc.mono (fun b _ h => (hT b).2 (.inl h)), ?_, fun b h => hc.block b (hlt b h) (hn b h)⟩
  · rintro b (h | h)
    · rcases hg b h with h1 | h1
      · exact .inl ((hT b).2 (.inl h1))
      · exact .inr h1
    · exact .inl ((hT b).2 (.inr h))
  · rintro b (h | h)
    · exact hi b h
    · exact Nat.lt_of_lt_of_le (hlt b h) hc.size
  · intro b h h2
    rcases hg b h2 with h1 | h1
    · exact hn b h h1
    · have := hlt b h; omega
/-- What has grown from the whole, less one's own blocks, has grown from the caller's. -/
theorem Plus.back {own : Nat → Prop} {S S' S0 : Nat → Prop} {W w1 : World} (hsz : W.heap.size ≤ w1.heap.size) (hg : Grows (fun b => S b ∨ own b) S' w1) (hT : ∀ b, S' b ↔ S0 b ∨ own b) (hn : ∀ b, own b → ¬ S0 b) : Grows S S0 W := fun b hb => by
  rcases hg b ((hT b).2 (.inl hb)) with (h | h) | h
  · exact .inl h
  · exact absurd hb (hn b h)
  · exact .inr (Nat.le_trans hsz h)

/-- Behind the mark of a range within an iterator: what the iterator's caller is told. -/
theorem sep_fin {S own Mi Mm S' S0 : Nat → Prop} {W w2 W' W'' : World} (hch2 : Chg (fun _ => False) W w2) (hg : Grows (fun b => S b ∨ own b) S' w2) (hi : InW S' W') (hc : Chg (fun b => (S b ∨ own b) ∨ Mi b) w2 W')
    (hT : ∀ b, S' b ↔ S0 b ∨ own b) (hn : ∀ b, own b → ¬ S0 b) (hnD : ¬ S' w2.heap.size) (hown : ∀ b, b < W.heap.size → own b → Mm b) (hMi : ∀ b, Mi b → Mm b)
    (hch : Chg (fun b => b = w2.heap.size) W' W'') (hsz : W''.heap.size = W'.heap.size) :
    Grows S S0 W ∧ InW S0 W'' ∧ Chg (fun b => S b ∨ Mm b) W W'' ∧ (∀ b, b < W'.heap.size → b ≠ w2.heap.size → W''.heap[b]? = W'.heap[b]?) ∧ InW S0 W' ∧ (∀ b, S0 b → W''.heap[b]? = W'.heap[b]?) ∧ (∀ b, b < W.heap.size → W''.heap[b]? = W'.heap[b]?) := by
  have h1 := hch2.size
  have h2 := hc.size
  have hiS : InW S0 W' := fun b x => hi b ((hT b).2 (.inl x))
  have hk : ∀ b, b < W'.heap.size → b ≠ w2.heap.size → W''.heap[b]? = W'.heap[b]? := fun b x y => hch.block b x y
  refine ⟨Plus.back h1 hg hT hn, fun b x => by rw [hsz]; exact hiS b x, ?_, hk, hiS, fun b x => hk b (hiS b x) (fun e => hnD ((hT _).2 (.inl (e ▸ x)))), fun b x => hk b (by omega) (by omega)⟩
  exact (hch2.trans hc (T := fun b => S b ∨ Mm b) (fun _ _ x => x.elim) (fun b hb x => by
    rcases x with (x | x) | x
    · exact .inl x
    · exact .inr (hown b hb x)
    · exact .inr (hMi b x))).trans hch (fun _ _ x => x) (fun b hb x => by omega)

/-- The variable of block b holds v. -/
def Cell (W : World) (b : Nat) (v : Value) : Prop := W.cell? ⟨b, 0, none⟩ = some v ∧ W.frozen? ⟨b, 0, none⟩ = false
theorem Cell.of {W W' : World} {b : Nat} {v : Value} (h : Cell W b v) (hb : W'.heap[b]? = W.heap[b]?) : Cell W' b v :=
  ⟨(World.cell?_of_block (w := W) hb).trans h.1, (World.frozen?_of_block (w := W) hb).trans h.2⟩
theorem Cell.lt {W : World} {b : Nat} {v : Value} (h : Cell W b v) : b < W.heap.size := World.block_lt_of_cell? W ⟨b, 0, none⟩ h.1
theorem Cell.new (W : World) (v : Value) (t : TypeId) : Cell (W.alloc (.cells #[v] t)) W.heap.size v := by
  exact ⟨by rw [World.cell?_alloc_new]; rfl, World.frozen?_alloc_new W _ _ _⟩
theorem Cell.new2 (W : World) (o : Obj) (v : Value) (t : TypeId) : Cell ((W.alloc o).alloc (.cells #[v] t)) (W.heap.size + 1) v := by
  have := Cell.new (W.alloc o) v t
  rwa [World.size_alloc] at this
theorem Cell.alloc {W : World} {b : Nat} {v : Value} (h : Cell W b v) (o : Obj) : Cell (W.alloc o) b v := h.of (Below.heap_alloc _ _ _ h.lt)
theorem Cell.set {W : World} {b : Nat} {v : Value} (h : Cell W b v) (u : Value) : Cell (W.setCell ⟨b, 0, none⟩ u) b u :=
  ⟨World.cell?_setCell_same _ _ _ h.1, by rw [World.frozen?_setCell]; exact h.2⟩
theorem Cell.other {W : World} {b b' : Nat} {v : Value} (h : Cell W b v) (hb : b ≠ b') (u : Value) : Cell (W.setCell ⟨b', 0, none⟩ u) b v := h.of (Below.heap_setCell _ _ _ _ hb)
theorem Cell.drew {W : World} {b : Nat} {v : Value} (h : Cell W b v) : Cell W.drew b v := h

end Go.Proofs.YtffpmmphpdkkbaaGreat
namespace Go.Proofs.YtffpmmphpdkkbaaGreat
open Go Go.RowKit Go.Proofs

theorem lt_of_heap {W : World} {b : Nat} {o : Obj} (h : W.heap[b]? = some o) : b < W.heap.size := (Array.getElem?_eq_some_iff.1 h).1
theorem nd_cell {W : World} {b : Nat} {cs : Array Value} {t : TypeId} (h : W.heap[b]? = some (.cells cs t)) (i : Nat) : W.cell? ⟨b, i, none⟩ = cs[i]? := by simp [World.cell?, h]
theorem below_on {W A B : World} (h : Below W.heap.size W A) (k : Below A.heap.size A B) : Below W.heap.size W B := h.trans (k.mono h.size)
theorem below_alloc (W : World) (o : Obj) : Below W.heap.size W (W.alloc o) := (Below.refl _ W).alloc (Nat.le_refl _) o
theorem below_drewN (W : World) (q : Nat) : Below W.heap.size W (W.drewN q) := ⟨rfl, rfl, rfl, Nat.le_refl _, fun _ _ => rfl⟩

/-! ### A row that may have been cut: its block holds at least its capacity -/
def HRow (w : World) (base : Nat) (e : TypeId) (size : Nat) (v : Value) (n : Nat) (xs : List Value) : Prop :=
  xs.length = n * size ∧ ((v = .slice none 0 0 ∧ n = 0) ∨
    ∃ g cap cur, v = .slice (some ⟨g, 0, none⟩) n cap ∧ base ≤ g ∧ w.heap[g]? = some (.cells cur e (0, 0)) ∧ n ≤ cap ∧ cap ≤ maxLen ∧ cap * size ≤ cur.size ∧ cur.toList.take (n * size) = xs)
section
variable {w : World} {base : Nat} {e : TypeId} {size : Nat} {v : Value} {n : Nat} {xs : List Value}
theorem HRow.of_own (h : w.ownsRow base e size v n xs) : HRow w base e size v n xs := by
  refine ⟨h.1, ?_⟩
  rcases h.2 with h2 | ⟨g, cap, cur, hv, hb, hg, hn, hc, hs, ht⟩
  · exact .inl h2
  · exact .inr ⟨g, cap, cur, hv, hb, hg, hn, hc, Nat.le_of_eq hs.symm, ht⟩
theorem HRow.nil : HRow w base e size (.slice none 0 0) 0 [] := HRow.of_own (World.ownsRow_nil _ _ _ _)
theorem HRow.lt (h : HRow w base e size v n xs) : ∀ k, v.ownBlock = some k → base ≤ k ∧ k < w.heap.size := by
  intro k hk
  rcases h.2 with ⟨rfl, _⟩ | ⟨g, cap, cur, rfl, hb, hg, _⟩
  · simp [Value.ownBlock] at hk
  · simp [Value.ownBlock] at hk
    subst hk
    exact ⟨hb, (Array.getElem?_eq_some_iff.1 hg).1⟩
theorem HRow.block (h : HRow w base e size v n xs) : ∀ q, v.ownBlock = some q → base ≤ q ∧ ∃ cur, w.heap[q]? = some (.cells cur e) := by
  intro k hk
  rcases h.2 with ⟨rfl, _⟩ | ⟨g, cap, cur, rfl, hb, hg, _⟩
  · simp [Value.ownBlock] at hk
  · simp [Value.ownBlock] at hk
    subst hk
    exact ⟨hb, cur, hg⟩
theorem HRow.of (h : HRow w base e size v n xs) {w' : World} (hk : ∀ k, v.ownBlock = some k → w'.heap[k]? = w.heap[k]?) : HRow w' base e size v n xs := by
  refine ⟨h.1, ?_⟩
  rcases h.2 with hn | ⟨g, cap, cur, rfl, hb, hg, rest⟩
  · exact .inl hn
  · exact .inr ⟨g, cap, cur, rfl, hb, (hk g (by simp [Value.ownBlock])).trans hg, rest⟩
theorem HRow.later (h : HRow w base e size v n xs) {w' : World} (hb : Below w.heap.size w w') : HRow w' base e size v n xs :=
  h.of (fun k hk => hb.block k (h.lt k hk).2)
theorem HRow.chg (h : HRow w base e size v n xs) {w' : World} {mb : Nat} (hm : mb < base) (hc : Chg (fun b => b = mb) w w') : HRow w' base e size v n xs :=
  h.of (fun k hk => hc.block k (h.lt k hk).2 (fun e => by have := (h.lt k hk).1; omega))
variable {g cap : Nat}
theorem HRow.slice (h : HRow w base e size v n xs) (hn : 0 < n) : ∃ g cap, v = .slice (some ⟨g, 0, none⟩) n cap ∧ n ≤ cap ∧ cap ≤ maxLen := by
  rcases h.2 with ⟨_, h'⟩ | ⟨g', cap', cur, h', hb, hg, h1, h2, _, htake⟩
  · omega
  · exact ⟨g', cap', h', h1, h2⟩
theorem HRow.isslice (h : HRow w base e size v n xs) : ∃ p cap, v = .slice p n cap ∧ n ≤ cap ∧ cap ≤ maxLen := by
  rcases h.2 with ⟨h', h0⟩ | ⟨g', cap', cur, h', hb, hg, h1, h2, _, htake⟩
  · subst h0; exact ⟨none, 0, h', Nat.le_refl _, Nat.zero_le _⟩
  · exact ⟨_, cap', h', h1, h2⟩
theorem HRow.form (h : HRow w base e size (.slice (some ⟨g, 0, none⟩) n cap) n xs) : ∃ cur, base ≤ g ∧ w.heap[g]? = some (.cells cur e (0, 0)) ∧ n ≤ cap ∧ cap ≤ maxLen ∧ cap * size ≤ cur.size ∧ cur.toList.take (n * size) = xs := by
  rcases h.2 with ⟨h', _⟩ | ⟨g', cap', cur, h', hb, hg, rest⟩
  · simp at h'
  · simp only [Value.slice.injEq, Option.some.injEq, Addr.mk.injEq, and_true, true_and] at h'
    obtain ⟨rfl, rfl⟩ := h'
    exact ⟨cur, hb, hg, rest⟩
theorem HRow.cellAt (h : HRow w base e size (.slice (some ⟨g, 0, none⟩) n cap) n xs) (j : Nat) (hj : j < n * size) : w.cell? ⟨g, j, none⟩ = xs[j]? := by
  obtain ⟨cur, _, hg, _, _, _, htake⟩ := h.form
  rw [cell_of_row w g j cur e (0, 0) hg, ← htake, List.getElem?_take, if_pos hj]
  simp
theorem HRow.cell (h : HRow w base e size (.slice (some ⟨g, 0, none⟩) n cap) n xs) {j : Nat} {u : Value} (hj : xs[j]? = some u) : w.cell? ⟨g, j, none⟩ = some u := by
  have : j < xs.length := (List.getElem?_eq_some_iff.1 hj).1
  rw [h.cellAt j (by rw [← h.1]; exact this), hj]
theorem HRow.cells_add (h : HRow w base e size (.slice (some ⟨g, 0, none⟩) n cap) n xs) {j : Nat} {u : Value} (hj : xs[j]? = some u) : w.cell? ((⟨g, 0, none⟩ : Addr).add j) = some u := by
  rw [Addr.add_lit, Nat.zero_add]
  exact h.cell hj
theorem HRow.frozenAt (h : HRow w base e size (.slice (some ⟨g, 0, none⟩) n cap) n xs) (j : Nat) : w.frozen? ⟨g, j, none⟩ = false := by
  obtain ⟨cur, _, hg, _⟩ := h.form
  exact frozen_of_row w g j cur e hg
theorem HRow.stored (h : HRow w base e size (.slice (some ⟨g, 0, none⟩) n cap) n xs) (j : Nat) (u : Value) :
    HRow (w.setCell ⟨g, j, none⟩ u) base e size (.slice (some ⟨g, 0, none⟩) n cap) n (xs.set j u) ∧ w.grownBy (w.setCell ⟨g, j, none⟩ u) (some g) := by
  obtain ⟨cur, hb, hg, hnc, hcm, hcs, htake⟩ := h.form
  refine ⟨⟨by simpa using h.1, .inr ⟨g, cap, cur.setIfInBounds j u, rfl, hb, heap_setCell_same w g j cur e u hg, hnc, hcm, by simpa using hcs, ?_⟩⟩,
    ⟨rfl, rfl, rfl, by simp, fun k _ hk => heap_setCell_other w ⟨g, j, none⟩ k u (fun e => hk (by simp [e]))⟩⟩
  rw [Array.toList_setIfInBounds, ← htake, List.take_set]
/-- Some cells written over, in place. -/
theorem HRow.spliced (h : HRow w base e size (.slice (some ⟨g, 0, none⟩) n cap) n xs) (cur : Array Value) (hg : w.heap[g]? = some (.cells cur e (0, 0))) (o : Nat) (cs : List Value) (hfit : o + cs.length ≤ n * size) :
    HRow (w.setRow g (cur.toList.take o ++ cs ++ cur.toList.drop (o + cs.length)).toArray) base e size (.slice (some ⟨g, 0, none⟩) n cap) n (xs.take o ++ cs ++ xs.drop (o + cs.length)) := by
  obtain ⟨cur', hb, hg', hnc, hcm, hcs, htake⟩ := h.form
  rw [hg] at hg'
  cases hg'
  have hx := h.1
  have hnle : n * size ≤ cap * size := Nat.mul_le_mul_right _ hnc
  have hl : cur.toList.length = cur.size := Array.length_toList
  refine ⟨by simp only [List.length_append, List.length_take, List.length_drop, hx]; omega, .inr ⟨g, cap, _, rfl, hb, setRow_heap w g cur _ e _ hg, hnc, hcm, by simp only [List.size_toArray, List.length_append, List.length_take, List.length_drop, hl]; omega, ?_⟩⟩
  show List.take (n * size) (cur.toList.take o ++ cs ++ cur.toList.drop (o + cs.length)) = _
  rw [← htake, List.take_append, List.take_of_length_le (l := cur.toList.take o ++ cs) (by simp only [List.length_append, List.length_take, hl]; omega)]
  congr 1
  · rw [List.take_take, Nat.min_eq_left (by omega)]
  · rw [List.drop_take]
    congr 1
    simp only [List.length_append, List.length_take, hl]
    omega
end
section
variable {P : Program} (w : World)
/-- append of at least one. -/
theorem run_append_has (base : Nat) (t ty e : TypeId) (i : TypeInfo) (z : Value) (size bytes : Nat) (ht : P.underlying t = some (.slice e)) (hi : P.info? e = some i) (hz : i.zero = some z)
    (hsize : i.size = size) (hby : i.bytes = bytes) (hzs : z.cells.size = size) (hsz : 0 < size)
    {v : Value} {n : Nat} {xs : List Value} (hown : HRow w base e size v n xs)
    (a : Addr) (m c : Nat) (news : List Value) (hl : news.length = m * size) (hnews : ∀ j u, news[j]? = some u → w.cell? (a.add j) = some u) (h1 : ∀ u ∈ news, u.oneCell' = true)
    (hm : 0 < m) (h63 : n + m ≤ maxLen) (hbytes : (n + m) * bytes ≤ 140737488355328) (hbase : base ≤ w.heap.size) :
    ∃ g cap w', (Builtin.append_ #[t, t] ty #[v, .slice (some a) m c]).run P w = .ok (.slice (some ⟨g, 0, none⟩) (n + m) cap) w' ∧ HRow w' base e size (.slice (some ⟨g, 0, none⟩) (n + m) cap) (n + m) (xs ++ news) ∧ w.grownBy w' v.ownBlock ∧ (v.ownBlock = some g ∨ w.heap.size ≤ g) := by
  have hfin : (∃ v' w', (Builtin.append_ #[t, t] ty #[v, .slice (some a) m c]).run P w = .ok v' w' ∧ HRow w' base e size v' (n + m) (xs ++ news) ∧ w.grownBy w' v.ownBlock ∧ (∀ q, v'.ownBlock = some q → v.ownBlock = some q ∨ w.heap.size ≤ q)) → ∃ g cap w', (Builtin.append_ #[t, t] ty #[v, .slice (some a) m c]).run P w = .ok (.slice (some ⟨g, 0, none⟩) (n + m) cap) w' ∧ HRow w' base e size (.slice (some ⟨g, 0, none⟩) (n + m) cap) (n + m) (xs ++ news) ∧ w.grownBy w' v.ownBlock ∧ (v.ownBlock = some g ∨ w.heap.size ≤ g) := by
    rintro ⟨v', w', h1, h2, h3, h4⟩
    obtain ⟨g, cap, rfl, _⟩ := h2.slice (by omega)
    exact ⟨g, cap, w', h1, h2, h3, h4 g rfl⟩
  apply hfin
  rcases hown.2 with ⟨rfl, rfl⟩ | ⟨g, cap, cur, rfl, hbg, hg, hnc, hcm, hcs, htake⟩
  · have hx : xs = [] := List.eq_nil_of_length_eq_zero (by simpa using hown.1)
    subst hx
    obtain ⟨v', w', hr, h2, h3, _, h5⟩ := run_append_own_at (P := P) w w.heap.size t ty e i z size bytes ht hi hz hsize hby hzs hsz (.slice none 0 0) 0 [] (World.ownsRow_nil _ _ _ _) a m c news hl hnews h1 (by omega) (by omega) (Nat.le_refl _)
    exact ⟨v', w', hr, HRow.of_own (h2.mono hbase), h3, fun q hq => .inr ((HRow.of_own h2).lt q hq).1⟩
  · by_cases hroom : n + m ≤ cap
    · subst hsize
      have hfit : n * i.size + news.length ≤ cap * i.size := by rw [hl, ← Nat.add_mul]; exact Nat.mul_le_mul_right _ hroom
      have hr := run_append_room (P := P) w t ty e i ht hi g n cap cur hg a m c news hl hnews h1 hroom (by omega)
      have hll : cur.toList.length = cur.size := Array.length_toList
      refine ⟨_, _, hr, ⟨by rw [List.length_append, hown.1, hl, Nat.add_mul], .inr ⟨g, cap, _, rfl, hbg, setRow_heap w g cur _ e _ hg, hroom, hcm, ?_, ?_⟩⟩, ⟨rfl, rfl, rfl, by simp, fun k _ hk => setRow_other w g k _ (fun e => hk (by simp [Value.ownBlock, e]))⟩, fun q hq => .inl hq⟩
      · simp only [List.size_toArray, List.length_append, List.length_take, List.length_drop, hll]; omega
      · show List.take ((n + m) * i.size) (cur.toList.take (n * i.size) ++ news ++ _) = _
        rw [List.take_append_of_le_length (by simp only [List.length_append, List.length_take, hll]; rw [Nat.add_mul]; omega), htake, List.take_of_length_le (by rw [List.length_append, hown.1, hl, Nat.add_mul]; exact Nat.le_refl _)]
    · obtain ⟨v', w', hr, h2, h3⟩ := run_append_arg_grows (P := P) w t ty e i z size bytes ht hi hz hsize hby hzs hsz ⟨g, 0, none⟩ n cap xs hown.1 (fun j u hj => hown.cells_add hj) a m c news hl hnews (by omega) h63 hbytes
      refine ⟨v', w', hr, HRow.of_own (h2.mono hbase), ⟨h3.os, h3.tape, h3.output, h3.size, fun k hk _ => h3.block k hk (by simp)⟩, fun q hq => .inr ((HRow.of_own h2).lt q hq).1⟩
end
section
variable {P : Program}
theorem wpList_append_run {w w' : World} {ops : Array Oper} {rest : List Oper} {o : Oper} {a : Act} {Q : Exit → Act → World → Prop} {vs vx v' : Value} (hgd : o.guard = none) (s x : Operand) (t : TypeId)
    (ho : o.op = .call { callee := .builtin .append, args := #[s, x], argTypes := #[t, t] }) (hs : a.eval s = vs) (hx : a.eval x = vx)
    (hr : (Builtin.append_ #[t, t] o.type #[vs, vx]).run P w = .ok v' w')
    (h : wpList P ops Q rest (a.put o.dst v') w') : wpList P ops Q (o :: rest) a w :=
  wpList_plain hgd fun _ hK => by
    unfold Oper.wp execOp
    simp only [ho, resolve, invoke, builtin, Sem.run_bind, Sem.run_pure, Result.andThen_ok, List.map_toArray, List.map_cons, List.map_nil, hs, hx, hr]
    exact hK _ _ h
theorem step_append_run {w w' : World} {ops : Array Oper} {o : Oper} {a : Act} {K : Act → World → Prop} {Q : Exit → Act → World → Prop} {E : Prop} {vs vx v' : Value} (hgd : o.guard = none) (s x : Operand) (t : TypeId)
    (ho : o.op = .call { callee := .builtin .append, args := #[s, x], argTypes := #[t, t] }) (hs : a.eval s = vs) (hx : a.eval x = vx)
    (hr : (Builtin.append_ #[t, t] o.type #[vs, vx]).run P w = .ok v' w')
    (h : K (a.put o.dst v') w') : if Region.wanted o (yielded ops a.tmps) = true then Oper.wp P o a w K Q else E := by
  have hw : Region.wanted o (yielded ops a.tmps) = true := by simp [Region.wanted, hgd]
  rw [if_pos hw]
  unfold Oper.wp execOp
  simp only [ho, resolve, invoke, builtin, Sem.run_bind, Sem.run_pure, Result.andThen_ok, List.map_toArray, List.map_cons, List.map_nil, hs, hx, hr]
  exact h
end
end Go.Proofs.YtffpmmphpdkkbaaGreat
