/- What turns; columns beside it; tables in memory. -/
import Derived.Test.YtffpmmphpdkkbaaGreatMCO7
import Derived.Test.YtffpmmphpdkkbaaGreatMS
import Derived.Test.YtffpmmphpdkkbaaGreatMTA
import Derived.Test.YtffpmmphpdkkbaaGreatMBP1
namespace Go.Proofs.YtffpmmphpdkkbaaGreat
open Go Go.RowKit Go.Proofs Co Co.S


/-- Of the blocks that were there at most those of S have turned, and none of a type that stays. -/
structure Tn (S : Nat → Prop) (W W' : World) : Prop where
  chg : Chg S W W'
  kp : ∀ (b : Nat) (cur : Array Value) (e : TypeId) (m : Nat × Nat), W.heap[b]? = some (Obj.cells cur e m) → mtT e = false → W'.heap[b]? = some (Obj.cells cur e m)
section
variable {S S1 T1 : Nat → Prop} {W W' W'' : World}
theorem Tn.of_below (h : Below W.heap.size W W') : Tn S W W' := ⟨Chg.of_below h, fun b _ _ _ hb _ => (h.block b (lt_of_heap hb)).trans hb⟩
theorem Tn.refl (S : Nat → Prop) (W : World) : Tn S W W := Tn.of_below (Below.refl _ _)
theorem Tn.trans (h : Tn S W W') (k : Tn S1 W' W'') (h1 : ∀ b, b < W.heap.size → S b → T1 b) (h2 : ∀ b, b < W.heap.size → S1 b → T1 b) : Tn T1 W W'' :=
  ⟨h.chg.trans k.chg h1 h2, fun b cur e m hb he => k.kp b cur e m (h.kp b cur e m hb he) he⟩
theorem Tn.mono (h : Tn S W W') (hs : ∀ b, b < W.heap.size → S b → T1 b) : Tn T1 W W' := ⟨h.chg.mono hs, h.kp⟩
theorem Tn.of_chg (h : Chg S W W') (hs : ∀ b, b < W.heap.size → S b → Ty W b ∨ ∃ es ck, W.heap[b]? = some (.map es ck)) : Tn S W W' := by
  classical
  refine ⟨h, fun b cur e m hb he => ?_⟩
  by_cases hS : S b
  · rcases hs b (lt_of_heap hb) hS with ⟨cs, ty, h1, h2⟩ | ⟨es, ck, h1⟩
    · rw [hb] at h1
      cases h1
      rw [he] at h2; cases h2
    · rw [hb] at h1; cases h1
  · exact (h.block b (lt_of_heap hb) hS).trans hb
theorem Tn.kpX (h : Tn S W W') : Kp W W' := fun b cur e m hb _ h2 => h.kp b cur e m hb (by
  unfold mt at h2
  simp at h2
  have h3 : e = 62 ∨ e = 9 ∨ e = 108 ∨ e = 29 := by
    by_cases a : e = 62
    · exact .inl a
    by_cases b : e = 9
    · exact .inr (.inl b)
    by_cases c : e = 108
    · exact .inr (.inr (.inl c))
    · exact .inr (.inr (.inr (h2 a b c)))
  rcases h3 with rfl | rfl | rfl | rfl <;> rfl)
theorem Tn.size (h : Tn S W W') : W.heap.size ≤ W'.heap.size := h.chg.size
theorem HRow.tn {base : Nat} {e : TypeId} {size : Nat} {v : Value} {n : Nat} {xs : List Value} (h : HRow W base e size v n xs) (hk : Tn S W W') (he : mtT e = false) : HRow W' base e size v n xs :=
  h.of fun k hk2 => by
    obtain ⟨_, cur, hb⟩ := h.block k hk2
    rw [hk.kp k _ _ _ hb he, hb]
theorem OwnT.tn {base : Nat} {cv dv : Value} {t : T} {ps : List Value} (h : OwnT W base cv dv t ps) (hk : Tn S W W') : OwnT W' base cv dv t ps :=
  ⟨h.c.tn hk rfl, h.n, h.d.tn hk rfl, fun j a b => (h.l j a b).tn hk rfl⟩
theorem Vm.tn {v : Value} {P : Int → Bool} (h : Vm W v P) (hk : Tn S W W') : Vm W' v P := by
  obtain ⟨l, h1, h2, h3⟩ := h
  exact ⟨l, HRow.tn h1 hk rfl, h2, h3⟩
theorem Co.S.Col.tn {cb : Nat} {kind : Int} {l : List T3} {v : Value} (h : Col cb kind l v W) (hk : Tn S W W') (h1 : ¬ S cb) (h2 : ∀ b, v.ownBlock = some b → ¬ S b) : Col cb kind l v W' := by
  obtain ⟨⟨L, W0, hm, hc⟩, hr, ho⟩ := h
  have e : W'.heap[cb]? = W.heap[cb]? := hk.chg.block cb hm.lt h1
  obtain ⟨cv, m, q⟩ := hm.dm.mp
  obtain ⟨t, p, r1, r2, r3⟩ := m.rt
  refine ⟨⟨L, W0, ⟨(World.cell?_of_block (w := W) e).trans hm.c0, (World.cell?_of_block (w := W) e).trans hm.c1, ⟨⟨cv, ⟨m.dm, (World.cell?_of_block (w := W) e).trans m.c0, ⟨t, p, (World.cell?_of_block (w := W) e).trans r1, Tr.of_nodes (fun b cs hb => ?_) r2, r3⟩, fun j => (World.frozen?_of_block (w := W) e).trans (m.fz j), m.srt,
    m.bel.trans ⟨hk.chg.os, hk.chg.tape, hk.chg.output, hk.chg.size, fun k hk => absurd hk (Nat.not_lt_zero _)⟩, m.ty.of e⟩, q⟩, hm.dm.pos, hm.dm.len⟩, (World.cell?_of_block (w := W) e).trans hm.c4⟩, hc⟩, hr.of (fun k hk2 => hk.chg.block k (hr.lt k hk2).2 (h2 k hk2)), ho⟩
  rw [hk.kp b cs 164 _ hb rfl, hb]
theorem Co.S.Col.ty {cb : Nat} {kind : Int} {l : List T3} {v : Value} (h : Col cb kind l v W) : Ty W cb ∧ ∀ b, v.ownBlock = some b → Ty W b := by
  obtain ⟨⟨L, W0, hm, hc⟩, hr, ho⟩ := h
  refine ⟨hm.dm.ty, fun b hb => ?_⟩
  obtain ⟨_, cur, h1⟩ := hr.block b hb
  exact ⟨cur, 53, h1, rfl⟩
theorem Co.S.Col.rlt {cb : Nat} {kind : Int} {l : List T3} {v : Value} (h : Col cb kind l v W) : ∀ b, v.ownBlock = some b → b < W.heap.size := fun b hb => (h.row.lt b hb).2
end

/-! ### Tables in memory -/
abbrev ivn (p : Nat) : Value := .int .i64 (p : Int)
abbrev ptrs (cb : Nat → Nat) (n : Nat) : List Value := (List.range n).map fun k => (Value.pointer (some ⟨cb k, 0, none⟩))
/-- What a table holds. -/
structure In where
  fc : Value
  fd : Value
  cv : Value
  pv : Value
  fv : Value
  gv : Value
  lv : Value
  ps : List Value
  cb : Nat → Nat
  v : Nat → Value
  f : Int → Option Nat
  np : Nat
  m : Nat
  free : List Nat
  late : List Int
  G : Int → Bool
  cl : Nat → List T3
abbrev boxTb (t : T) (i : In) (next : Nat) : Obj := .cells #[.string t.nm, i.fc, .string t.key, i.fd, i.cv, i.pv, i.fv, i.gv, i.lv, (Value.int .i64 ((next : Int)))] 80
/-- What a table's block leads to; lab tells what a block of its own is: 1 its own, 2 the map, 3 free, 4 late, 6 + 2 k a column, 7 + 2 k its row. -/
structure TbR (W : World) (tb : Nat) (t : T) (next : Nat) (i : In) (lab : Nat → Nat) : Prop where
  form : OwnT W 0 i.fc i.fd t i.ps
  cols : HRow W 0 81 1 i.cv t.cols.length (ptrs i.cb t.cols.length)
  col : ∀ k (h : k < t.cols.length), Col (i.cb k) t.cols[k].kd (i.cl k) (i.v k) W
  place : Pm W i.pv i.f i.np i.m
  pm : i.m ≤ next
  free : HRow W 0 3 1 i.fv i.free.length (i.free.map ivn)
  gone : Vm W i.gv i.G
  late : HRow W 0 3 1 i.lv i.late.length (i.late.map iv)
  l1 : lab tb = 1
  l2 : ∀ b, mapBlock i.pv = some b → lab b = 2
  l3 : ∀ b, i.fv.ownBlock = some b → lab b = 3
  l4 : ∀ b, i.lv.ownBlock = some b → lab b = 4
  l6 : ∀ k, k < t.cols.length → lab (i.cb k) = 6 + 2 * k
  l7 : ∀ k, k < t.cols.length → ∀ b, (i.v k).ownBlock = some b → lab b = 7 + 2 * k
  lt : ∀ b, lab b ≠ 0 → b < W.heap.size
structure TbM (W : World) (tb : Nat) (t : T) (next : Nat) (i : In) (lab : Nat → Nat) : Prop extends TbR W tb t next i lab where
  box : W.heap[tb]? = some (boxTb t i next)
section
variable {W W' : World} {tb next : Nat} {t : T} {i : In} {lab lab' : Nat → Nat}
theorem TbR.tlt (h : TbR W tb t next i lab) : tb < W.heap.size := h.lt tb (by rw [h.l1]; decide)
/-- What turned is at most the table's own block. -/
theorem TbR.tn {S : Nat → Prop} (h : TbR W tb t next i lab) (hk : Tn S W W') (hs : ∀ b, S b → lab b = 0 ∨ lab b = 1) : TbR W' tb t next i lab := by
  have hn : ∀ b, lab b ≠ 0 → lab b ≠ 1 → ¬ S b := fun b hb hc hS => (hs b hS).elim hb hc
  have hb : ∀ b, lab b ≠ 0 → lab b ≠ 1 → W'.heap[b]? = W.heap[b]? := fun b hb hc => hk.chg.block b (h.lt b hb) (hn b hb hc)
  exact ⟨h.form.tn hk, h.cols.tn hk rfl, fun k hkl => (h.col k hkl).tn hk (hn _ (by rw [h.l6 k hkl]; omega) (by rw [h.l6 k hkl]; omega)) (fun b hbb => hn _ (by rw [h.l7 k hkl b hbb]; omega) (by rw [h.l7 k hkl b hbb]; omega)),
    h.place.of (fun b hbb => hb b (by rw [h.l2 b hbb]; decide) (by rw [h.l2 b hbb]; decide)), h.pm, h.free.of (fun b hbb => hb b (by rw [h.l3 b hbb]; decide) (by rw [h.l3 b hbb]; decide)), h.gone.tn hk, h.late.of (fun b hbb => hb b (by rw [h.l4 b hbb]; decide) (by rw [h.l4 b hbb]; decide)), h.l1, h.l2, h.l3, h.l4, h.l6, h.l7, fun b hbb => Nat.lt_of_lt_of_le (h.lt b hbb) hk.size⟩
/-- What turned is no block of the table. -/
theorem TbM.tn {S : Nat → Prop} (h : TbM W tb t next i lab) (hk : Tn S W W') (hs : ∀ b, S b → lab b = 0) : TbM W' tb t next i lab :=
  ⟨h.toTbR.tn hk (fun b hb => .inl (hs b hb)), (hk.chg.block tb h.tlt (fun hS => by have := hs tb hS; rw [h.l1] at this; cases this)).trans h.box⟩
theorem TbM.later (h : TbM W tb t next i lab) (hb : Below W.heap.size W W') : TbM W' tb t next i lab := h.tn (S := fun _ => False) (Tn.of_below hb) (fun _ h => h.elim)
theorem TbM.ty (h : TbM W tb t next i lab) : Ty W tb := ⟨_, 80, h.box, rfl⟩
theorem TbM.tlt (h : TbM W tb t next i lab) : tb < W.heap.size := h.toTbR.tlt
theorem TbM.cells (h : TbM W tb t next i lab) : W.cell? ⟨tb, 0, none⟩ = some (.string t.nm) ∧ W.cell? ⟨tb, 1, none⟩ = some i.fc ∧ W.cell? ⟨tb, 2, none⟩ = some (.string t.key) ∧ W.cell? ⟨tb, 3, none⟩ = some i.fd ∧ W.cell? ⟨tb, 4, none⟩ = some i.cv ∧
    W.cell? ⟨tb, 5, none⟩ = some i.pv ∧ W.cell? ⟨tb, 6, none⟩ = some i.fv ∧ W.cell? ⟨tb, 7, none⟩ = some i.gv ∧ W.cell? ⟨tb, 8, none⟩ = some i.lv ∧ W.cell? ⟨tb, 9, none⟩ = some (Value.int .i64 ((next : Int))) :=
  ⟨nd_cell h.box 0, nd_cell h.box 1, nd_cell h.box 2, nd_cell h.box 3, nd_cell h.box 4, nd_cell h.box 5, nd_cell h.box 6, nd_cell h.box 7, nd_cell h.box 8, nd_cell h.box 9⟩
theorem TbM.fz (h : TbM W tb t next i lab) (j : Nat) : W.frozen? ⟨tb, j, none⟩ = false := frozen_of_row W tb j _ _ h.box
/-- New labels, for new blocks alone. -/
def Ext (W : World) (lab lab' : Nat → Nat) : Prop := ∀ b, b < W.heap.size → lab' b = lab b
theorem Ext.refl (W : World) (lab : Nat → Nat) : Ext W lab lab := fun _ _ => rfl
theorem Ext.trans {lab'' : Nat → Nat} (h : Ext W lab lab') (hs : W.heap.size ≤ W'.heap.size) (k : Ext W' lab' lab'') : Ext W lab lab'' := fun b hb => (k b (Nat.lt_of_lt_of_le hb hs)).trans (h b hb)
/-- A cell of the table's own block. -/
theorem Tn.own (h : TbM W tb t next i lab) (j : Nat) (u : Value) : Tn (fun b => lab b = 1) W (W.setCell ⟨tb, j, none⟩ u) := by
  have hc : Chg (fun b => b = tb) W (W.setCell ⟨tb, j, none⟩ u) := (Chg.refl (fun b => b = tb) W).setCell (p := ⟨tb, j, none⟩) (fun _ => rfl) u
  exact (Tn.of_chg hc (fun b _ hb => .inl (hb ▸ h.ty))).mono (fun b _ hb => hb ▸ h.l1)
end
end Go.Proofs.YtffpmmphpdkkbaaGreat
