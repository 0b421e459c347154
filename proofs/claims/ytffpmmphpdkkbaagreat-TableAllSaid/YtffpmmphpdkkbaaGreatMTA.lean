/- A map from numbers to places, as the walk asks it. What turns; columns beside it; tables in memory. -/
import Derived.Test.YtffpmmphpdkkbaaGreatMSep
import Derived.Test.YtffpmmphpdkkbaaGreatProg
import Derived.Maps.OwnSet
import Derived.Test.YtffpmmphpdkkbaaGreatMCO7
import Derived.Test.YtffpmmphpdkkbaaGreatMS
import Derived.Test.YtffpmmphpdkkbaaGreatMBP1
namespace Go.Proofs.YtffpmmphpdkkbaaGreat
open Go Go.RowKit Go.Proofs Go.Maps

abbrev iL (x : Int) : Lit := .int .i64 x
abbrev F64 (x : Int) : Prop := -9223372036854775808 ≤ x ∧ x ≤ 9223372036854775807
theorem law3 : Keyed Tryz.prog 3 := int_keyed Tryz.underlying3
theorem zero3 (w : World) : (zeroValue 3).run Tryz.prog w = .ok (.int .i64 0) w := by kernel_rfl
theorem key3 {x : Int} (h : F64 x) : keyOf Tryz.prog 3 (.int .i64 x) = some (iL x) := keyOf_int_mk Tryz.underlying3 (WalkArith.wf_i64 h)
theorem keyLit (x : Int) : WideAt.IsKeyLit (iL x) := True.intro
def upF (f : Int → Option Nat) (x : Int) (p : Nat) : Int → Option Nat := fun y => if y = x then some p else f y
def delF (f : Int → Option Nat) (x : Int) : Int → Option Nat := fun y => if y = x then none else f y

/-- The map in block b: x stands at the place f x; n numbers; written at most m times. -/
structure Mi (W : World) (b : Nat) (f : Int → Option Nat) (n m : Nat) : Prop where
  own : ∃ D : DataW Unit, W.ownsMap Tryz.prog 3 (plainElem Tryz.prog 3) b m D ∧ Maps.size D = n ∧ (∀ x, Maps.has D (iL x) = (f x).isSome) ∧ ∀ x p, f x = some p → ∀ z, D.atKey (iL x) z = .lit (.int .i64 (p : Int))
section
variable {W W' : World} {b n m : Nat} {f : Int → Option Nat}
theorem Mi.made (W : World) : Mi (W.alloc (.map #[] 0)) W.heap.size (fun _ => none) 0 0 :=
  ⟨.map [], World.ownsMap_made _ _ _ _, rfl, fun _ => rfl, fun _ _ h => by cases h⟩
theorem Mi.lt (h : Mi W b f n m) : b < W.heap.size := by
  obtain ⟨D, h1, _⟩ := h.own
  exact h1.lt
theorem Mi.of (h : Mi W b f n m) (hb : W'.heap[b]? = W.heap[b]?) : Mi W' b f n m := by
  obtain ⟨D, ⟨es, ck, h1, h2⟩, h3⟩ := h.own
  exact ⟨D, ⟨es, ck, hb.trans h1, h2⟩, h3⟩
theorem Mi.isMap (h : Mi W b f n m) : ∃ es ck, W.heap[b]? = some (.map es ck) := by
  obtain ⟨D, ⟨es, ck, h1, h2⟩, h3⟩ := h.own
  exact ⟨es, ck, h1⟩
theorem Mi.mono (h : Mi W b f n m) {m' : Nat} (hm : m ≤ m') : Mi W b f n m' := by
  obtain ⟨D, h1, h2⟩ := h.own
  exact ⟨D, h1.mono hm, h2⟩
theorem Mi.look (h : Mi W b f n m) {x : Int} (hx : F64 x) : (Instr.lookup 78 (.map (some b)) (.int .i64 x) true).run Tryz.prog W = .ok (.tuple #[.int .i64 (((f x).getD 0 : Nat) : Int), .bool (f x).isSome]) W := by
  obtain ⟨D, h1, h2, h3, h4⟩ := h.own
  obtain ⟨v, ps, hrun, hv⟩ := h1.look_ok law3 Tryz.underlying78 (zero3 W) (zd := .lit (.int .i64 0)) (zp := []) (plainElem_int Tryz.underlying3 (by decide)) (key3 hx)
  obtain ⟨c, rfl, hc, _⟩ := plainElem_int_inv Tryz.underlying3 hv
  rw [hrun, h3 x]
  have he : c = (((f x).getD 0 : Nat) : Int) := by
    cases hf : f x with
    | none =>
      have := h3 x
      rw [hf] at this
      rw [Maps.atKey_of_not_has this] at hc
      simp at hc
      simp [hc]
    | some p =>
      rw [h4 x p hf] at hc
      simp at hc
      simp [hc]
  rw [he]
theorem Mi.len (h : Mi W b f n m) (ty : TypeId) : (Builtin.len_ #[78] ty #[.map (some b)]).run Tryz.prog W = .ok (.int .i64 (n : Int)) W := by
  obtain ⟨D, h1, h2, _⟩ := h.own
  rw [← h2]
  exact h1.len Tryz.underlying78 ty
theorem Mi.put (h : Mi W b f n m) {x : Int} {p : Nat} (hx : F64 x) (hp : p ≤ 1000000) (hf : f x = none) (hm : m ≤ 1000000) : ∃ w', (Instr.mapUpdate 78 (.map (some b)) (.int .i64 x) (.int .i64 (p : Int))).run Tryz.prog W = .ok () w' ∧ Mi w' b (upF f x p) (n + 1) (m + 1) ∧ W.grownBy w' (some b) := by
  obtain ⟨D, h1, h2, h3, h4⟩ := h.own
  obtain ⟨w', hrun, ho, hg⟩ := h1.update law3 Tryz.underlying78 (by unfold maxLen; omega) (key3 hx) (plainElem_int (a := (p : Int)) Tryz.underlying3 (WalkArith.wf_i64 (by omega)))
  refine ⟨w', hrun, ⟨_, ho, ?_, fun y => ?_, fun y q hq z => ?_⟩, hg⟩
  · rw [Maps.size_put (h1.tidy law3), h3 x, hf]
    simp [h2]
  · unfold upF
    by_cases e : y = x
    · subst e
      rw [if_pos rfl, Maps.has_put_same h1.isMap (keyLit _)]
      rfl
    · rw [if_neg e, Maps.has_put_other (fun h => e (by cases h; rfl)), h3 y]
  · unfold upF at hq
    by_cases e : y = x
    · subst e
      rw [if_pos rfl] at hq
      cases hq
      exact Maps.atKey_put_same h1.isMap (keyLit _) _ _
    · rw [if_neg e] at hq
      rw [Maps.atKey_put_other (fun h => e (by cases h; rfl))]
      exact h4 y q hq z
theorem Mi.del (h : Mi W b f n m) {x : Int} (hx : F64 x) {p : Nat} (hf : f x = some p) (ty : TypeId) : ∃ w', (Builtin.delete_ #[78, 3] ty #[.map (some b), .int .i64 x]).run Tryz.prog W = .ok (.tuple #[]) w' ∧ Mi w' b (delF f x) (n - 1) m ∧ W.grownBy w' (some b) := by
  obtain ⟨D, h1, h2, h3, h4⟩ := h.own
  obtain ⟨w', hrun, ho, hg⟩ := h1.drop law3 Tryz.underlying78 (key3 hx) ty
  refine ⟨w', hrun, ⟨_, ho, ?_, fun y => ?_, fun y q hq z => ?_⟩, hg.grown⟩
  · have := Maps.size_del (k := iL x) (h1.tidy law3)
    rw [h3 x, hf] at this
    simp at this
    omega
  · unfold delF
    by_cases e : y = x
    · subst e
      rw [if_pos rfl, Maps.has_del_same]
      rfl
    · rw [if_neg e, Maps.has_del_other (fun h => e (by cases h; rfl)), h3 y]
  · unfold delF at hq
    by_cases e : y = x
    · rw [if_pos e] at hq; cases hq
    · rw [if_neg e] at hq
      rw [Maps.atKey_del_other (fun h => e (by cases h; rfl))]
      exact h4 y q hq z
theorem look_nil78 {x : Int} (hx : F64 x) (W : World) : (Instr.lookup 78 (.map none) (.int .i64 x) true).run Tryz.prog W = .ok (.tuple #[.int .i64 0, .bool false]) W := by
  have := Maps.look_nil (w := W) true law3 Tryz.underlying78 (zero3 W) (key3 hx)
  simpa using this
end

/-- A map's value: nil, or a map of the call's own. -/
def Pm (W : World) (v : Value) (f : Int → Option Nat) (n m : Nat) : Prop := (v = .map none ∧ n = 0 ∧ ∀ x, f x = none) ∨ ∃ b, v = .map (some b) ∧ Mi W b f n m
section
variable {W W' : World} {v : Value} {n m : Nat} {f : Int → Option Nat}
def mapBlock : Value → Option Nat
  | .map b => b
  | _ => none
theorem Pm.of (h : Pm W v f n m) (hb : ∀ b, mapBlock v = some b → W'.heap[b]? = W.heap[b]?) : Pm W' v f n m := by
  rcases h with h | ⟨b, rfl, h⟩
  · exact .inl h
  · exact .inr ⟨b, rfl, h.of (hb b rfl)⟩
theorem Pm.lt (h : Pm W v f n m) : ∀ b, mapBlock v = some b → b < W.heap.size := by
  rcases h with ⟨rfl, _⟩ | ⟨b, rfl, h⟩
  · intro b hb; cases hb
  · intro c hc; cases hc; exact h.lt
theorem Pm.look (h : Pm W v f n m) {x : Int} (hx : F64 x) : (Instr.lookup 78 v (.int .i64 x) true).run Tryz.prog W = .ok (.tuple #[.int .i64 (((f x).getD 0 : Nat) : Int), .bool (f x).isSome]) W := by
  rcases h with ⟨rfl, _, hf⟩ | ⟨b, rfl, h⟩
  · rw [hf x]; exact look_nil78 hx W
  · exact h.look hx
theorem Pm.len (h : Pm W v f n m) (ty : TypeId) : (Builtin.len_ #[78] ty #[v]).run Tryz.prog W = .ok (.int .i64 (n : Int)) W := by
  rcases h with ⟨rfl, rfl, hf⟩ | ⟨b, rfl, h⟩
  · exact Maps.len_nil Tryz.underlying78 ty
  · exact h.len ty
end

/-! ### Steps at the operation -/
section
variable {P : Program} {w w' : World} {ops : Array Oper} {rest : List Oper} {o : Oper} {a : Act} {Q : Exit → Act → World → Prop} {v : Value}
theorem wpList_look (hg : o.guard = none) (m x : Operand) (t : TypeId) (c : Bool) (hop : o.op = Op.lookup t m x c) {vm vx : Value} (hm : a.eval m = vm) (hx : a.eval x = vx)
    (hrun : (Instr.lookup t vm vx c).run P w = .ok v w) (hK : wpList P ops Q rest (a.put o.dst v) w) : wpList P ops Q (o :: rest) a w := by
  refine wpList_plain hg fun K' hK' => ?_
  unfold Oper.wp
  simp [execOp, hop, hm, hx, hrun, Result.andThen]
  exact hK' _ _ hK
theorem wpList_store (hg : o.guard = none) (m x y : Operand) (t : TypeId) (hop : o.op = Op.mapUpdate t m x y) {vm vx vy : Value} (hm : a.eval m = vm) (hx : a.eval x = vx) (hy : a.eval y = vy)
    (hrun : (Instr.mapUpdate t vm vx vy).run P w = .ok () w') (hK : wpList P ops Q rest (a.put o.dst undef) w') : wpList P ops Q (o :: rest) a w := by
  refine wpList_plain hg fun K' hK' => ?_
  unfold Oper.wp
  simp [execOp, hop, hm, hx, hy, hrun, Result.andThen]
  exact hK' _ _ hK
theorem wpList_del (hg : o.guard = none) (m x : Operand) (t k : TypeId) (hop : o.op = Op.call { callee := Callee.builtin Builtin.delete, args := #[m, x], argTypes := #[t, k] }) {vm vx : Value} (hm : a.eval m = vm) (hx : a.eval x = vx)
    (hrun : (Builtin.delete_ #[t, k] o.type #[vm, vx]).run P w = .ok (.tuple #[]) w') (hK : wpList P ops Q rest (a.put o.dst (.tuple #[])) w') : wpList P ops Q (o :: rest) a w := by
  refine wpList_plain hg fun K' hK' => ?_
  unfold Oper.wp
  simp [execOp, hop, resolve, invoke, builtin, hm, hx, hrun, Result.andThen]
  exact hK' _ _ hK
theorem wpList_mlen (hg : o.guard = none) (m : Operand) (t : TypeId) (hop : o.op = Op.call { callee := Callee.builtin Builtin.len, args := #[m], argTypes := #[t] }) {vm : Value} (hm : a.eval m = vm)
    (hrun : (Builtin.len_ #[t] o.type #[vm]).run P w = .ok v w) (hK : wpList P ops Q rest (a.put o.dst v) w) : wpList P ops Q (o :: rest) a w := by
  refine wpList_plain hg fun K' hK' => ?_
  unfold Oper.wp
  simp [execOp, hop, resolve, invoke, builtin, hm, hrun, Result.andThen]
  exact hK' _ _ hK
end
end Go.Proofs.YtffpmmphpdkkbaaGreat
namespace Go.Proofs.YtffpmmphpdkkbaaGreat
open Go Go.RowKit Go.Proofs Co Co.S


/-- Of the blocks that were there at most those of S have turned, and none of a type that stays. -/
structure Tn (S : Nat → Prop) (W W' : World) : Prop where
  chg : Chg S W W'
  kp : ∀ (b : Nat) (cur : Array Value) (e : TypeId) (m : Nat × Nat), W.heap[b]? = some (Obj.cells cur e m) → mtT e = false → W'.heap[b]? = some (Obj.cells cur e m)
section
variable {S S1 T1 : Nat → Prop} {W W' W'' : World}
theorem Tn.of_below (h : Below W.heap.size W W') : Tn S W W' := ⟨Chg.of_below h, fun b _ _ _ hb _ => (h.block b (lt_of_heap hb)).trans hb⟩
theorem Tn.refl (S : Nat → Prop) (W : World) : Tn S W W := Tn.of_below (Below.refl _ _)
theorem Tn.trans (h : Tn S W W') (k : Tn S1 W' W'') (h1 : ∀ b, b < W.heap.size → S b → T1 b) (h2 : ∀ b, b < W.heap.size → S1 b → T1 b) : Tn T1 W W'' :=
  ⟨h.chg.trans k.chg h1 h2, fun b cur e m hb he => k.kp b cur e m (h.kp b cur e m hb he) he⟩
theorem Tn.mono (h : Tn S W W') (hs : ∀ b, b < W.heap.size → S b → T1 b) : Tn T1 W W' := ⟨h.chg.mono hs, h.kp⟩
theorem Tn.of_chg (h : Chg S W W') (hs : ∀ b, b < W.heap.size → S b → Ty W b ∨ ∃ es ck, W.heap[b]? = some (.map es ck)) : Tn S W W' := by
  classical
  refine ⟨h, fun b cur e m hb he => ?_⟩
  by_cases hS : S b
  · rcases hs b (lt_of_heap hb) hS with ⟨cs, ty, h1, h2⟩ | ⟨es, ck, h1⟩
    · rw [hb] at h1
      cases h1
      rw [he] at h2; cases h2
    · rw [hb] at h1; cases h1
  · exact (h.block b (lt_of_heap hb) hS).trans hb
theorem Tn.kpX (h : Tn S W W') : Kp W W' := fun b cur e m hb _ h2 => h.kp b cur e m hb (by
  unfold mt at h2
  simp at h2
  have h3 : e = 62 ∨ e = 9 ∨ e = 108 ∨ e = 29 := by
    by_cases a : e = 62
    · exact .inl a
    by_cases b : e = 9
    · exact .inr (.inl b)
    by_cases c : e = 108
    · exact .inr (.inr (.inl c))
    · exact .inr (.inr (.inr (h2 a b c)))
  rcases h3 with rfl | rfl | rfl | rfl <;> rfl)
theorem Tn.size (h : Tn S W W') : W.heap.size ≤ W'.heap.size := h.chg.size
theorem HRow.tn {base : Nat} {e : TypeId} {size : Nat} {v : Value} {n : Nat} {xs : List Value} (h : HRow W base e size v n xs) (hk : Tn S W W') (he : mtT e = false) : HRow W' base e size v n xs :=
  h.of fun k hk2 => by
    obtain ⟨_, cur, hb⟩ := h.block k hk2
    rw [hk.kp k _ _ _ hb he, hb]
theorem OwnT.tn {base : Nat} {cv dv : Value} {t : T} {ps : List Value} (h : OwnT W base cv dv t ps) (hk : Tn S W W') : OwnT W' base cv dv t ps :=
  ⟨h.c.tn hk rfl, h.n, h.d.tn hk rfl, fun j a b => (h.l j a b).tn hk rfl⟩
theorem Vm.tn {v : Value} {P : Int → Bool} (h : Vm W v P) (hk : Tn S W W') : Vm W' v P := by
  obtain ⟨l, h1, h2, h3⟩ := h
  exact ⟨l, HRow.tn h1 hk rfl, h2, h3⟩
theorem Co.S.Col.tn {cb : Nat} {kind : Int} {l : List T3} {v : Value} (h : Col cb kind l v W) (hk : Tn S W W') (h1 : ¬ S cb) (h2 : ∀ b, v.ownBlock = some b → ¬ S b) : Col cb kind l v W' := by
  obtain ⟨⟨L, W0, hm, hc⟩, hr, ho⟩ := h
  have e : W'.heap[cb]? = W.heap[cb]? := hk.chg.block cb hm.lt h1
  obtain ⟨cv, m, q⟩ := hm.dm.mp
  obtain ⟨t, p, r1, r2, r3⟩ := m.rt
  refine ⟨⟨L, W0, ⟨(World.cell?_of_block (w := W) e).trans hm.c0, (World.cell?_of_block (w := W) e).trans hm.c1, ⟨⟨cv, ⟨m.dm, (World.cell?_of_block (w := W) e).trans m.c0, ⟨t, p, (World.cell?_of_block (w := W) e).trans r1, Tr.of_nodes (fun b cs hb => ?_) r2, r3⟩, fun j => (World.frozen?_of_block (w := W) e).trans (m.fz j), m.srt,
    m.bel.trans ⟨hk.chg.os, hk.chg.tape, hk.chg.output, hk.chg.size, fun k hk => absurd hk (Nat.not_lt_zero _)⟩, m.ty.of e⟩, q⟩, hm.dm.pos, hm.dm.len⟩, (World.cell?_of_block (w := W) e).trans hm.c4⟩, hc⟩, hr.of (fun k hk2 => hk.chg.block k (hr.lt k hk2).2 (h2 k hk2)), ho⟩
  rw [hk.kp b cs 164 _ hb rfl, hb]
theorem Co.S.Col.ty {cb : Nat} {kind : Int} {l : List T3} {v : Value} (h : Col cb kind l v W) : Ty W cb ∧ ∀ b, v.ownBlock = some b → Ty W b := by
  obtain ⟨⟨L, W0, hm, hc⟩, hr, ho⟩ := h
  refine ⟨hm.dm.ty, fun b hb => ?_⟩
  obtain ⟨_, cur, h1⟩ := hr.block b hb
  exact ⟨cur, 53, h1, rfl⟩
theorem Co.S.Col.rlt {cb : Nat} {kind : Int} {l : List T3} {v : Value} (h : Col cb kind l v W) : ∀ b, v.ownBlock = some b → b < W.heap.size := fun b hb => (h.row.lt b hb).2
end

/-! ### Tables in memory -/
abbrev ivn (p : Nat) : Value := .int .i64 (p : Int)
abbrev ptrs (cb : Nat → Nat) (n : Nat) : List Value := (List.range n).map fun k => (Value.pointer (some ⟨cb k, 0, none⟩))
/-- What a table holds. -/
structure In where
  fc : Value
  fd : Value
  cv : Value
  pv : Value
  fv : Value
  gv : Value
  lv : Value
  ps : List Value
  cb : Nat → Nat
  v : Nat → Value
  f : Int → Option Nat
  np : Nat
  m : Nat
  free : List Nat
  late : List Int
  G : Int → Bool
  cl : Nat → List T3
abbrev boxTb (t : T) (i : In) (next : Nat) : Obj := .cells #[.string t.nm, i.fc, .string t.key, i.fd, i.cv, i.pv, i.fv, i.gv, i.lv, (Value.int .i64 ((next : Int)))] 80
/-- What a table's block leads to; lab tells what a block of its own is: 1 its own, 2 the map, 3 free, 4 late, 6 + 2 k a column, 7 + 2 k its row. -/
structure TbR (W : World) (tb : Nat) (t : T) (next : Nat) (i : In) (lab : Nat → Nat) : Prop where
  form : OwnT W 0 i.fc i.fd t i.ps
  cols : HRow W 0 81 1 i.cv t.cols.length (ptrs i.cb t.cols.length)
  col : ∀ k (h : k < t.cols.length), Col (i.cb k) t.cols[k].kd (i.cl k) (i.v k) W
  place : Pm W i.pv i.f i.np i.m
  pm : i.m ≤ next
  free : HRow W 0 3 1 i.fv i.free.length (i.free.map ivn)
  gone : Vm W i.gv i.G
  late : HRow W 0 3 1 i.lv i.late.length (i.late.map iv)
  l1 : lab tb = 1
  l2 : ∀ b, mapBlock i.pv = some b → lab b = 2
  l3 : ∀ b, i.fv.ownBlock = some b → lab b = 3
  l4 : ∀ b, i.lv.ownBlock = some b → lab b = 4
  l6 : ∀ k, k < t.cols.length → lab (i.cb k) = 6 + 2 * k
  l7 : ∀ k, k < t.cols.length → ∀ b, (i.v k).ownBlock = some b → lab b = 7 + 2 * k
  lt : ∀ b, lab b ≠ 0 → b < W.heap.size
structure TbM (W : World) (tb : Nat) (t : T) (next : Nat) (i : In) (lab : Nat → Nat) : Prop extends TbR W tb t next i lab where
  box : W.heap[tb]? = some (boxTb t i next)
section
variable {W W' : World} {tb next : Nat} {t : T} {i : In} {lab lab' : Nat → Nat}
theorem TbR.tlt (h : TbR W tb t next i lab) : tb < W.heap.size := h.lt tb (by rw [h.l1]; decide)
/-- What turned is at most the table's own block. -/
theorem TbR.tn {S : Nat → Prop} (h : TbR W tb t next i lab) (hk : Tn S W W') (hs : ∀ b, S b → lab b = 0 ∨ lab b = 1) : TbR W' tb t next i lab := by
  have hn : ∀ b, lab b ≠ 0 → lab b ≠ 1 → ¬ S b := fun b hb hc hS => (hs b hS).elim hb hc
  have hb : ∀ b, lab b ≠ 0 → lab b ≠ 1 → W'.heap[b]? = W.heap[b]? := fun b hb hc => hk.chg.block b (h.lt b hb) (hn b hb hc)
  exact ⟨h.form.tn hk, h.cols.tn hk rfl, fun k hkl => (h.col k hkl).tn hk (hn _ (by rw [h.l6 k hkl]; omega) (by rw [h.l6 k hkl]; omega)) (fun b hbb => hn _ (by rw [h.l7 k hkl b hbb]; omega) (by rw [h.l7 k hkl b hbb]; omega)),
    h.place.of (fun b hbb => hb b (by rw [h.l2 b hbb]; decide) (by rw [h.l2 b hbb]; decide)), h.pm, h.free.of (fun b hbb => hb b (by rw [h.l3 b hbb]; decide) (by rw [h.l3 b hbb]; decide)), h.gone.tn hk, h.late.of (fun b hbb => hb b (by rw [h.l4 b hbb]; decide) (by rw [h.l4 b hbb]; decide)), h.l1, h.l2, h.l3, h.l4, h.l6, h.l7, fun b hbb => Nat.lt_of_lt_of_le (h.lt b hbb) hk.size⟩
/-- What turned is no block of the table. -/
theorem TbM.tn {S : Nat → Prop} (h : TbM W tb t next i lab) (hk : Tn S W W') (hs : ∀ b, S b → lab b = 0) : TbM W' tb t next i lab :=
  ⟨h.toTbR.tn hk (fun b hb => .inl (hs b hb)), (hk.chg.block tb h.tlt (fun hS => by have := hs tb hS; rw [h.l1] at this; cases this)).trans h.box⟩
theorem TbM.later (h : TbM W tb t next i lab) (hb : Below W.heap.size W W') : TbM W' tb t next i lab := h.tn (S := fun _ => False) (Tn.of_below hb) (fun _ h => h.elim)
theorem TbM.ty (h : TbM W tb t next i lab) : Ty W tb := ⟨_, 80, h.box, rfl⟩
theorem TbM.tlt (h : TbM W tb t next i lab) : tb < W.heap.size := h.toTbR.tlt
theorem TbM.cells (h : TbM W tb t next i lab) : W.cell? ⟨tb, 0, none⟩ = some (.string t.nm) ∧ W.cell? ⟨tb, 1, none⟩ = some i.fc ∧ W.cell? ⟨tb, 2, none⟩ = some (.string t.key) ∧ W.cell? ⟨tb, 3, none⟩ = some i.fd ∧ W.cell? ⟨tb, 4, none⟩ = some i.cv ∧
    W.cell? ⟨tb, 5, none⟩ = some i.pv ∧ W.cell? ⟨tb, 6, none⟩ = some i.fv ∧ W.cell? ⟨tb, 7, none⟩ = some i.gv ∧ W.cell? ⟨tb, 8, none⟩ = some i.lv ∧ W.cell? ⟨tb, 9, none⟩ = some (Value.int .i64 ((next : Int))) :=
  ⟨nd_cell h.box 0, nd_cell h.box 1, nd_cell h.box 2, nd_cell h.box 3, nd_cell h.box 4, nd_cell h.box 5, nd_cell h.box 6, nd_cell h.box 7, nd_cell h.box 8, nd_cell h.box 9⟩
theorem TbM.fz (h : TbM W tb t next i lab) (j : Nat) : W.frozen? ⟨tb, j, none⟩ = false := frozen_of_row W tb j _ _ h.box
/-- New labels, for new blocks alone. -/
def Ext (W : World) (lab lab' : Nat → Nat) : Prop := ∀ b, b < W.heap.size → lab' b = lab b
theorem Ext.refl (W : World) (lab : Nat → Nat) : Ext W lab lab := fun _ _ => rfl
theorem Ext.trans {lab'' : Nat → Nat} (h : Ext W lab lab') (hs : W.heap.size ≤ W'.heap.size) (k : Ext W' lab' lab'') : Ext W lab lab'' := fun b hb => (k b (Nat.lt_of_lt_of_le hb hs)).trans (h b hb)
/-- A cell of the table's own block. -/
theorem Tn.own (h : TbM W tb t next i lab) (j : Nat) (u : Value) : Tn (fun b => lab b = 1) W (W.setCell ⟨tb, j, none⟩ u) := by
  have hc : Chg (fun b => b = tb) W (W.setCell ⟨tb, j, none⟩ u) := (Chg.refl (fun b => b = tb) W).setCell (p := ⟨tb, j, none⟩) (fun _ => rfl) u
  exact (Tn.of_chg hc (fun b _ hb => .inl (hb ▸ h.ty))).mono (fun b _ hb => hb ▸ h.l1)
end
end Go.Proofs.YtffpmmphpdkkbaaGreat
