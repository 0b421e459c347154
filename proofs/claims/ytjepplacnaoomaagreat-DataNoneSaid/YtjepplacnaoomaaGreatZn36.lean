/- TableOwn. The reference's tables together, in memory. The reference's tables together: one turns. The reference's tables together: what is read. The reference's tables together: Insert. -/
import Derived.Test.YtjepplacnaoomaaGreatZn35
import Derived.Test.YtjepplacnaoomaaGreatZn28
namespace Go.Proofs.YtjepplacnaoomaaGreat
open Go Go.RowKit Go.Proofs Co Co.S
abbrev bspoilt : ByteArray := ⟨#[115, 112, 111, 105, 108, 116]⟩
end Go.Proofs.YtjepplacnaoomaaGreat
namespace Go.Proofs.YtjepplacnaoomaaGreat
open Go Go.RowKit Go.Proofs Co Co.S
def cellsR (A : List R1) (vs : List Value) : List Value := (A.zip vs).flatMap fun p => [.int .i64 p.1.1, p.2]
/-- A table's rows, as the reference has them: where they lie, the next number, the rows, where their values lie. -/
structure RT where
  rv : Value
  nx : Nat
  A : List R1
  vs : List Value
/-- The j-th table's rows in memory; O says whose a block is. -/
structure RTok (W : World) (t : T) (x : RT) (O : Nat → Nat) (j : Nat) : Prop where
  rows : HRow W 0 58 2 x.rv x.A.length (cellsR x.A x.vs)
  n : x.vs.length = x.A.length
  vals : ∀ k (h : k < x.A.length) (h' : k < x.vs.length), HRow W 0 26 3 x.vs[k] x.A[k].2.length (cells3 x.A[k].2)
  sep : ∀ k l (hk : k < x.vs.length) (hl : l < x.vs.length), k ≠ l → ∀ q, x.vs[k].ownBlock = some q → x.vs[l].ownBlock ≠ some q
  len : ∀ a ∈ x.A, a.2.length = t.cols.length
  srt : x.A.Pairwise (fun a b => a.1 < b.1)
  rng : ∀ a ∈ x.A, a.1 < (x.nx : Int)
  orv : ∀ q, x.rv.ownBlock = some q → O q = 5 + 2 * j
  ovs : ∀ k (h : k < x.vs.length) q, x.vs[k].ownBlock = some q → O q = 6 + 2 * j
theorem RTok.tn {S : Nat → Prop} {W W' : World} {t : T} {x : RT} {O O' : Nat → Nat} {j : Nat} (h : RTok W t x O j) (hk : Tn S W W') (hs : ∀ q, S q → O q ≠ 5 + 2 * j ∧ O q ≠ 6 + 2 * j) (hO : ∀ q, q < W.heap.size → O' q = O q) : RTok W' t x O' j :=
  ⟨h.rows.of (fun q hq => hk.chg.block q (HRow.lt h.rows q hq).2 (fun hS => (hs q hS).1 (h.orv q hq))), h.n, fun k a b => (h.vals k a b).of (fun q hq => hk.chg.block q (HRow.lt (h.vals k a b) q hq).2 (fun hS => (hs q hS).2 (h.ovs k b q hq))), h.sep, h.len, h.srt, h.rng,
    fun q hq => (hO q (HRow.lt h.rows q hq).2).trans (h.orv q hq), fun k a q hq => (hO q (HRow.lt (h.vals k (by rw [← h.n]; exact a) a) q hq).2).trans (h.ovs k a q hq)⟩
structure NI where
  sv : Value
  ov : Value
  nv : Value
  fs : List (Value × Value)
def cellsF (fs : List (Value × Value)) (ts : List T) : List Value := (fs.zip ts).flatMap fun p => [.string p.2.nm, p.1.1, .string p.2.key, p.1.2]
theorem cellsF_at {fs : List (Value × Value)} {ts : List T} (h : fs.length = ts.length) {k : Nat} (hk : k < ts.length) : (cellsF fs ts)[k * 4]? = some (.string ts[k].nm) ∧ (cellsF fs ts)[k * 4 + 1]? = some (fs[k]'(by omega)).1 ∧ (cellsF fs ts)[k * 4 + 2]? = some (.string ts[k].key) ∧ (cellsF fs ts)[k * 4 + 3]? = some (fs[k]'(by omega)).2 := by
  unfold cellsF
  induction fs generalizing ts k with
  | nil => simp at h; omega
  | cons f fs ih =>
    cases ts with
    | nil => cases hk
    | cons t ts =>
      cases k with
      | zero => exact ⟨rfl, rfl, rfl, rfl⟩
      | succ k =>
        have h2 := ih (ts := ts) (by simpa using h) (k := k) (by simpa using hk)
        simp only [List.zip_cons_cons, List.flatMap_cons, List.getElem_cons_succ]
        have e : ∀ r, ([Value.string t.nm, f.1, .string t.key, f.2] ++ List.flatMap (fun p : (Value × Value) × T => [Value.string p.2.nm, p.1.1, .string p.2.key, p.1.2]) (fs.zip ts))[(k + 1) * 4 + r]? = (List.flatMap (fun p : (Value × Value) × T => [Value.string p.2.nm, p.1.1, .string p.2.key, p.1.2]) (fs.zip ts))[k * 4 + r]? := fun r => by
          rw [List.getElem?_append_right (by simp; omega)]
          congr 1
          simp; omega
        exact ⟨(e 0).trans h2.1, (e 1).trans h2.2.1, (e 2).trans h2.2.2.1, (e 3).trans h2.2.2.2⟩
/-- b is a DB with the tables ts; O: 1 its own block, 2 the forms, 3 the list of tables' rows, 4 the next numbers, 5 + 2j the j-th table's rows, 6 + 2j their values. -/
structure DbN (W : World) (b : Nat) (ts : List T) (tt : List RT) (i : NI) (O : Nat → Nat) : Prop where
  box : W.heap[b]? = some (.cells #[i.sv, i.ov, i.nv] 42)
  n : tt.length = ts.length
  fn : i.fs.length = ts.length
  form : HRow W 0 46 4 i.sv ts.length (cellsF i.fs ts)
  rd : ∀ j (h : j < ts.length) (h' : j < i.fs.length), RdT W i.fs[j].1 i.fs[j].2 ts[j]
  outer : HRow W 0 55 1 i.ov ts.length (tt.map (·.rv))
  nxs : HRow W 0 3 1 i.nv ts.length (tt.map fun x => .int .i64 (x.nx : Int))
  tab : ∀ j (h : j < ts.length) (h' : j < tt.length), RTok W ts[j] tt[j] O j
  o1 : O b = 1
  o2 : ∀ q, i.sv.ownBlock = some q → O q = 2
  o3 : ∀ q, i.ov.ownBlock = some q → O q = 3
  o4 : ∀ q, i.nv.ownBlock = some q → O q = 4
  lt : ∀ q, O q ≠ 0 → q < W.heap.size
section
variable {W W' : World} {b : Nat} {ts : List T} {tt : List RT} {i : NI} {O O' : Nat → Nat} {S : Nat → Prop}
theorem DbN.tn (h : DbN W b ts tt i O) (hk : Tn S W W') (hs : ∀ q, S q → O q = 0) : DbN W' b ts tt i O := by
  have hb : ∀ q, O q ≠ 0 → W'.heap[q]? = W.heap[q]? := fun q hq => hk.chg.block q (h.lt q hq) (fun hS => hq (hs q hS))
  exact ⟨(hb b (by rw [h.o1]; decide)).trans h.box, h.n, h.fn, h.form.of (fun q hq => hb q (by rw [h.o2 q hq]; decide)), fun j a c => (h.rd j a c).kp hk.kpX, h.outer.of (fun q hq => hb q (by rw [h.o3 q hq]; decide)), h.nxs.of (fun q hq => hb q (by rw [h.o4 q hq]; decide)),
    fun j a c => (h.tab j a c).tn hk (fun q hq => by rw [hs q hq]; omega) (fun _ _ => rfl), h.o1, h.o2, h.o3, h.o4, fun q hq => Nat.lt_of_lt_of_le (h.lt q hq) hk.size⟩
theorem DbN.later (h : DbN W b ts tt i O) (hb : Below W.heap.size W W') : DbN W' b ts tt i O := h.tn (S := fun _ => False) (Tn.of_below hb) (fun _ h => h.elim)
end
end Go.Proofs.YtjepplacnaoomaaGreat
namespace Go.Proofs.YtjepplacnaoomaaGreat
open Go Go.RowKit Go.Proofs Co Co.S
section
variable {W w : World} {b : Nat} {ts : List T} {tt : List RT} {i : NI} {O : Nat → Nat} {t : Nat} {y : RT}
end
end Go.Proofs.YtjepplacnaoomaaGreat
namespace Go.Proofs.YtjepplacnaoomaaGreat
open Go Go.RowKit Go.Proofs Co Co.S
/-- Where the row x stands. -/
def atP (A : List R1) (x : Int) : Int := match A.findIdx? (fun a => decide (a.1 = x)) with
  | none => -1
  | some k => (k : Int)
structure NRn where
  gs : Nat
  cs : Nat
  go : Nat
  co : Nat
  gn : Nat
  cn : Nat
  pc : Option Addr
  kc : Nat
  pd : Option Addr
  kd : Nat
/-- What is read of the t-th table. -/
structure NR (w : World) (b : Nat) (m t : Nat) (T0 : T) (y : RT) (x : NRn) : Prop where
  b0 : w.cell? ⟨b, 0, none⟩ = some (.slice (some ⟨x.gs, 0, none⟩) m x.cs)
  b1 : w.cell? ⟨b, 1, none⟩ = some (.slice (some ⟨x.go, 0, none⟩) m x.co)
  b2 : w.cell? ⟨b, 2, none⟩ = some (.slice (some ⟨x.gn, 0, none⟩) m x.cn)
  s0 : w.cell? ⟨x.gs, t * 4, none⟩ = some (.string T0.nm)
  s1 : w.cell? ⟨x.gs, t * 4 + 1, none⟩ = some (.slice x.pc T0.cols.length x.kc)
  s2 : w.cell? ⟨x.gs, t * 4 + 2, none⟩ = some (.string T0.key)
  s3 : w.cell? ⟨x.gs, t * 4 + 3, none⟩ = some (.slice x.pd T0.deps.length x.kd)
  o0 : w.cell? ⟨x.go, t, none⟩ = some y.rv
  n0 : w.cell? ⟨x.gn, t, none⟩ = some (.int .i64 (y.nx : Int))
  bl : b < w.heap.size
  sl : x.gs < w.heap.size
  ol : x.go < w.heap.size
  nl : x.gn < w.heap.size
  nf : w.frozen? ⟨x.gn, t, none⟩ = false
  oF : w.frozen? ⟨x.go, t, none⟩ = false
  rd : RdC w (.slice x.pc T0.cols.length x.kc) T0.cols
  rt : RdT w (.slice x.pc T0.cols.length x.kc) (.slice x.pd T0.deps.length x.kd) T0
section
variable {W : World} {b : Nat} {ts : List T} {tt : List RT} {i : NI} {O : Nat → Nat} {t : Nat} {y : RT}
end
end Go.Proofs.YtjepplacnaoomaaGreat
namespace Go.Proofs.YtjepplacnaoomaaGreat
open Go Go.RowKit Go.Proofs Co Co.S
namespace Par
/-- An append among operations of any order. -/
theorem gives_append {P : Program} {ops : Array Oper} {A : Act} {R : Value → World → Prop} {o : Oper} {w w' : World} {vs vx v' : Value} (hgd : o.guard = none) (s x : Operand) (t u : TypeId)
    (ho : o.op = .call { callee := .builtin .append, args := #[s, x], argTypes := #[t, u] }) (hs : A.eval s = vs) (hx : A.eval x = vx)
    (hr : (Builtin.append_ #[t, u] o.type #[vs, vx]).run P w = .ok v' w') (h : R v' w') : GivesW P ops A R o w := by
  have hw : Region.wanted o (yielded ops A.tmps) = true := by simp [Region.wanted, hgd]
  unfold GivesW
  rw [if_pos hw]
  unfold execOp
  simp only [ho, resolve, invoke, builtin, Sem.run_bind, Sem.run_pure, Result.andThen_ok, List.map_toArray, List.map_cons, List.map_nil, hs, hx, hr]
  exact h
end Par
/-- What holds where a row is appended. -/
structure IJ (W0 : World) (E : Nat → Value) (rv : Value) (n : Nat) (xs : List Value) (id : Int) (vals : List T3) (l : Nat → Bool) (vs : Nat → Value) (w : World) : Prop where
  gb : W0.grownBy w rv.ownBlock
  f0 : l 17 = false → Below W0.heap.size W0 w
  ev : ∀ j, j < 14 ∨ j = 18 → l j = true → vs j = E j
  f14 : l 14 = true → ∃ g c, vs 14 = .slice (some ⟨g, 0, none⟩) vals.length c ∧ HRow w 0 26 3 (.slice (some ⟨g, 0, none⟩) vals.length c) vals.length (cells3 vals) ∧ W0.heap.size ≤ g
  f15 : l 15 = true → vs 15 = .agg #[.int .i64 id, vs 14]
  f16 : l 16 = true → l 17 = false → ∃ y, w = y.alloc (.cells #[.int .i64 id, vs 14] 58) ∧ vs 16 = .slice (some ⟨y.heap.size, 0, none⟩) 1 1 ∧ Below W0.heap.size W0 y ∧ ∀ q, (vs 14).ownBlock = some q → q < y.heap.size
  f17 : l 17 = true → ∃ g cap, vs 17 = .slice (some ⟨g, 0, none⟩) (n + 1) cap ∧ HRow w 0 58 2 (.slice (some ⟨g, 0, none⟩) (n + 1) cap) (n + 1) (xs ++ [.int .i64 id, vs 14]) ∧ (rv.ownBlock = some g ∨ W0.heap.size ≤ g) ∧ ∀ q, (vs 14).ownBlock = some q → q ≠ g
theorem grownB {W0 w : World} {o : Option Nat} (h : Below W0.heap.size W0 w) : W0.grownBy w o := ⟨h.os, h.tape, h.output, h.size, fun q hq _ => h.block q hq⟩
section
open Par
variable {W0 w w' : World} {E : Nat → Value} {rv : Value} {n : Nat} {xs : List Value} {id : Int} {vals : List T3} {l : Nat → Bool} {vs : Nat → Value}
end
section
variable {W : World} {b : Nat} {ts : List T} {tt : List RT} {i : NI} {O : Nat → Nat} {t : Nat} {y : RT}
end
end Go.Proofs.YtjepplacnaoomaaGreat
