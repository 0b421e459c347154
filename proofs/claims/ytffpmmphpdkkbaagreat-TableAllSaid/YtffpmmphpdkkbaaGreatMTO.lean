/- Form, New. A range over a bitmap's All, whose round's own facts stand as long as no row of cells is turned. -/
import Derived.Test.YtffpmmphpdkkbaaGreatMTL
import Derived.Test.YtffpmmphpdkkbaaGreatMBL
namespace Go.Proofs.YtffpmmphpdkkbaaGreat
open Go Go.RowKit Go.Proofs Co Co.S

theorem OwnT.mono {w : World} {b b' : Nat} {cv dv : Value} {t : T} {ps : List Value} (h : OwnT w b cv dv t ps) (hb : b' ≤ b) : OwnT w b' cv dv t ps := ⟨HRow.mono h.c hb, h.n, HRow.mono h.d hb, fun j x y => HRow.mono (h.l j x y) hb⟩
/-- The answer is a copy of the form. -/
def IsT (t : T) (W : World) (e : Ending) (w' : World) : Prop := ∃ p1 c1 p2 c2 ps, e = .returned (.agg #[.string t.nm, .slice p1 t.cols.length c1, .string t.key, .slice p2 t.deps.length c2]) ∧ OwnT w' W.heap.size (.slice p1 t.cols.length c1) (.slice p2 t.deps.length c2) t ps ∧ Below W.heap.size W w'
section
variable {W W' : World} {tb next : Nat} {t : T} {i : In} {A : List R1} {lab : Nat → Nat}
set_option maxRecDepth 100000 in
set_option maxHeartbeats 1000000 in
theorem tform_any (h : TbM W tb t next i lab) (hf : Few t) : Calls Tryz.prog 24 #[(Value.pointer (some ⟨tb, 0, none⟩))] W (IsT t W) := by
  have hb := below_alloc W (boxT e0 (.slice none 0 0) e0 (.slice none 0 0))
  have hk := heap_alloc_new W (boxT e0 (.slice none 0 0) e0 (.slice none 0 0))
  have h1 := h.later hb
  obtain ⟨pc, kc, hfc, hc1, hc2⟩ := h1.form.rd.1.slice
  obtain ⟨pd, kd, hfd, hd1, hd2⟩ := h1.form.rd.2.slice
  have hcp := copied_any h1.form.rd hf
  obtain ⟨c0, c1, c2, c3, _⟩ := h1.cells
  have zl := h1.tlt
  rw [hfc] at c1 hcp
  rw [hfd] at c3 hcp
  obtain ⟨w1, hw1⟩ : ∃ w1, W.alloc (boxT e0 (.slice none 0 0) e0 (.slice none 0 0)) = w1 := ⟨_, rfl⟩
  obtain ⟨B, hBB⟩ : ∃ B, W.heap.size = B := ⟨_, rfl⟩
  rw [hw1] at hb hk c0 c1 c2 c3 zl hcp
  rw [hBB] at hk
  have hsz : w1.heap.size = B + 1 := by rw [← hw1, World.size_alloc, hBB]
  rw [hsz] at hcp
  have HB := Lib.hid (And.intro hb (And.intro hk hsz))
  have HW := Lib.hid (And.intro hw1 hBB)
  clear h h1 hb hk hw1 hBB hfc hfd hc1 hc2 hd1 hd2 hsz hf
  go_enter Tryz.func24, Tryz.ntmps24
  go_upto_region 1 with fail
  rw [HW.out.1, HW.out.2]
  go_wp2_with (go_at_call 32; (with_reducible refine hcp.mono ?_); rintro e w2 ⟨q1, d1, q2, d2, ps, rfl, hO, hb2⟩; have hres := heap_on (HB.out.2.2 ▸ hb2) HB.out.2.1; have z0 := nd_cell hres 0; have z1 := nd_cell hres 1; have z2 := nd_cell hres 2; have z3 := nd_cell hres 3; have zf := fun i => frozen_of_row w2 B i _ _ hres; have zl2 := lt_of_heap hres; have H2 := Lib.hid (And.intro hO (And.intro hb2 hres)); clear hO hb2 hres hcp)
  have hS4 := set4 H2.out.2.2 (.string t.nm) (.slice q1 t.cols.length d1) (.string t.key) (.slice q2 t.deps.length d2)
  have hBx := below_set4 (below_on HB.out.1 (HB.out.2.2 ▸ H2.out.2.1)) (Nat.le_of_eq HW.out.2) (.string t.nm) (.slice q1 t.cols.length d1) (.string t.key) (.slice q2 t.deps.length d2)
  have hO := H2.out.1.of (fun q hq => set4_other w2 B q (by omega) (.string t.nm) (.slice q1 t.cols.length d1) (.string t.key) (.slice q2 t.deps.length d2))
  generalize (((w2.setCell _ _).setCell _ _).setCell _ _).setCell _ _ = wz at hS4 hBx hO ⊢
  have y0 := nd_cell hS4 0
  have y1 := nd_cell hS4 1
  have y2 := nd_cell hS4 2
  have y3 := nd_cell hS4 3
  refine bodyPost_ret (v := .agg #[.string t.nm, (.slice q1 t.cols.length d1), .string t.key, (.slice q2 t.deps.length d2)]) (by simp [results, Tryz.results24, go_sem, y0, y1, y2, y3]) rfl ?_
  exact ⟨_, _, _, _, ps, rfl, hO.mono (by have := HW.out.2; omega), hBx⟩
theorem tb_form (h : Tb W tb t next A lab) (hf : Few t) : Calls Tryz.prog 24 #[(Value.pointer (some ⟨tb, 0, none⟩))] W (IsT t W) := by
  obtain ⟨i, h1, h2⟩ := h
  exact tform_any h1 hf
end

theorem empty_any (k : Int) (hk : k = 1 ∨ k = 2) (W : World) : Calls Tryz.prog 33 #[.int .i64 k] W fun e w' => e = .returned (Value.pointer (some ⟨W.heap.size, 0, none⟩)) ∧ Col W.heap.size k [] (.slice none 0 0) w' ∧ Below W.heap.size W w' := by
  have hn := col_new k hk W
  clear hk
  go_enter Tryz.func33, Tryz.ntmps33
  go_wp2_with (go_at_call 62; (with_reducible refine hn.mono ?_); rintro e w2 ⟨rfl, hc, hb⟩; have H2 := Lib.hid (And.intro hc hb); clear hc hb hn)
  go_ret
  exact ⟨rfl, H2.out⟩

theorem info81 : (Tryz.prog.info? 81).map (fun i => (i.zero, i.size, i.bytes)) = some (some (.pointer none), 1, 8) := by kernel_rfl
/-- A table being made: its box, its first j columns. -/
structure NewI (W : World) (t : T) (T0 : Nat) (fc fd : Value) (ps : List Value) (j : Nat) (cv : Value) (cb : Nat → Nat) (w : World) : Prop where
  box : w.heap[T0]? = some (.cells #[.string t.nm, fc, .string t.key, fd, cv, .map none, .slice none 0 0, .slice none 0 0, .slice none 0 0, (Value.int .i64 (0))] 80)
  form : OwnT w 0 fc fd t ps
  row : HRow w (T0 + 1) 81 1 cv j (ptrs cb j)
  col : ∀ k (_ : k < j) (h : k < t.cols.length), Col (cb k) t.cols[k].kd [] (.slice none 0 0) w
  gt : ∀ k, k < j → T0 < cb k
  inj : ∀ k l, k < j → l < j → cb k = cb l → k = l
  low : W.heap.size ≤ T0
  below : Below W.heap.size W w
section
variable {W w w' : World} {t : T} {T0 j : Nat} {fc fd cv : Value} {ps : List Value} {cb : Nat → Nat}
theorem NewI.later (h : NewI W t T0 fc fd ps j cv cb w) (hb : Below w.heap.size w w') : NewI W t T0 fc fd ps j cv cb w' :=
  ⟨heap_on hb h.box, h.form.later hb, h.row.later hb, fun k h1 h2 => (h.col k h1 h2).later hb, h.gt, h.inj, h.low, below_on h.below hb⟩
theorem ptrs_succ (cb : Nat → Nat) (j c : Nat) : ptrs cb j ++ [(Value.pointer (some ⟨c, 0, none⟩))] = ptrs (updF cb j c) (j + 1) := by
  unfold ptrs
  rw [List.range_succ, List.map_append, List.map_singleton, updF_same]
  congr 1
  apply List.map_congr_left
  intro k hk
  rw [updF_other _ _ (by have := List.mem_range.1 hk; omega)]
/-- One column more: append, then the cell. -/
theorem NewI.add (h : NewI W t T0 fc fd ps j cv cb w) {c : Nat} (hj : j < t.cols.length) (hjm : j ≤ 1000) (hc : Col c t.cols[j].kd [] (.slice none 0 0) w) (hgt : T0 < c) (hnew : ∀ k, k < j → cb k ≠ c) :
    ∃ g cap w3, (Builtin.append_ #[77, 77] 77 #[cv, .slice (some ⟨w.heap.size, 0, none⟩) 1 1]).run Tryz.prog (w.alloc (.cells #[(Value.pointer (some ⟨c, 0, none⟩))] 81)) = .ok (.slice (some ⟨g, 0, none⟩) (j + 1) cap) w3 ∧ T0 < w3.heap.size ∧ w3.frozen? ⟨T0, 4, none⟩ = false ∧ (∃ u, w3.cell? ⟨T0, 4, none⟩ = some u) ∧
      NewI W t T0 fc fd ps (j + 1) (.slice (some ⟨g, 0, none⟩) (j + 1) cap) (updF cb j c) (w3.setCell ⟨T0, 4, none⟩ (.slice (some ⟨g, 0, none⟩) (j + 1) cap)) := by
  have hT := lt_of_heap h.box
  obtain ⟨g, cap, w3, hrun, r3, g3, own⟩ := app_one (ty := 77) Tryz.underlying77 info81 rfl (by decide) (by decide) w (T0 + 1) h.row (by omega) (by omega) #[(Value.pointer (some ⟨c, 0, none⟩))] rfl (by simp [Value.oneCell'])
  have hne : ∀ b, cv.ownBlock = some b → b ≠ T0 ∧ ∃ cur, w.heap[b]? = some (.cells cur 81) := fun b hb => by
    obtain ⟨h1, cur, h2⟩ := h.row.block b hb
    exact ⟨by omega, cur, h2⟩
  have hbox3 : w3.heap[T0]? = _ := (g3.block T0 hT (fun e => (hne T0 e.symm).1 rfl)).trans h.box
  have hty : Ty w3 T0 := ⟨_, 80, hbox3, rfl⟩
  have hkeep : ∀ (b : Nat) (cur : Array Value) (e : TypeId) (m : Nat × Nat), w.heap[b]? = some (.cells cur e m) → e ≠ 81 → w3.heap[b]? = w.heap[b]? := fun b cur e m hb he => g3.block b (lt_of_heap hb) (fun h1 => by
    obtain ⟨_, cur', h2⟩ := hne b h1.symm
    rw [hb] at h2
    cases h2
    exact he rfl)
  have hrow : ∀ {base : Nat} {e : TypeId} {size : Nat} {v : Value} {n : Nat} {xs : List Value}, HRow w base e size v n xs → e ≠ 81 → HRow w3 base e size v n xs := fun hr he => hr.of (fun k hk => by
    obtain ⟨_, cur, hb⟩ := hr.block k hk
    exact hkeep k _ _ _ hb he)
  have hf3 : OwnT w3 0 fc fd t ps := ⟨hrow h.form.c (by decide), h.form.n, hrow h.form.d (by decide), fun q x y => hrow (h.form.l q x y) (by decide)⟩
  have hcol3 : ∀ {cb0 : Nat} {kind : Int} {l : List T3} {v : Value}, Col cb0 kind l v w → Col cb0 kind l v w3 := fun {cb0 kind l v} hc => by
    obtain ⟨hty1, hty2⟩ := hc.ty
    obtain ⟨⟨L, W0, hm, hcn⟩, hr, ho⟩ := hc
    have hb0 : ∀ b, Ty w b → w3.heap[b]? = w.heap[b]? := fun b ⟨cs, ty, h1, h2⟩ => hkeep b cs ty _ h1 (fun e => by rw [e] at h2; cases h2)
    have e := hb0 cb0 hty1
    obtain ⟨cv0, m, q⟩ := hm.dm.mp
    obtain ⟨tt, p, r1, r2, r3'⟩ := m.rt
    exact ⟨⟨L, W0, ⟨(World.cell?_of_block (w := w) e).trans hm.c0, (World.cell?_of_block (w := w) e).trans hm.c1, ⟨⟨cv0, ⟨m.dm, (World.cell?_of_block (w := w) e).trans m.c0, ⟨tt, p, (World.cell?_of_block (w := w) e).trans r1, Tr.of_nodes (fun b cs hb => hkeep b cs 164 _ hb (by decide)) r2, r3'⟩, fun j => (World.frozen?_of_block (w := w) e).trans (m.fz j), m.srt,
      m.bel.trans ⟨g3.os, g3.tape, g3.output, g3.size, fun k hk => absurd hk (Nat.not_lt_zero _)⟩, m.ty.of e⟩, q⟩, hm.dm.pos, hm.dm.len⟩, (World.cell?_of_block (w := w) e).trans hm.c4⟩, hcn⟩, hr.of (fun k hk2 => hb0 k (hty2 k hk2)), ho⟩
  have htn : Tn (fun b => b = T0) w3 (w3.setCell ⟨T0, 4, none⟩ (.slice (some ⟨g, 0, none⟩) (j + 1) cap)) := Tn.of_chg ((Chg.refl (fun b => b = T0) w3).setCell (p := ⟨T0, 4, none⟩) (fun _ => rfl) _) (fun b _ hb => .inl (by rw [hb]; exact hty))
  have hbel3 : Below W.heap.size W w3 := h.below.trans ⟨g3.os, g3.tape, g3.output, g3.size, fun k hk => g3.block k (Nat.lt_of_lt_of_le hk h.below.size) (fun e => by have := (h.row.lt k e.symm).1; have := h.low; omega)⟩
  refine ⟨g, cap, w3, hrun, lt_of_heap hbox3, frozen_of_row w3 T0 4 _ _ hbox3, ⟨_, nd_cell hbox3 4⟩, heap_setCell_same _ T0 4 _ _ _ hbox3, hf3.tn htn, ?_, fun k h1 h2 => ?_, fun k hk => ?_, fun k l hk hl e => ?_, h.low, hbel3.setCell (p := ⟨T0, 4, none⟩) h.low _⟩
  · rw [← ptrs_succ]
    exact r3.tn htn rfl
  · by_cases e : k = j
    · subst e
      rw [updF_same]
      exact (hcol3 hc).tn htn (by omega) (fun b hb => by cases hb)
    · rw [updF_other _ _ e]
      exact (hcol3 (h.col k (by omega) h2)).tn htn (by have := h.gt k (by omega); omega) (fun b hb => by cases hb)
  · by_cases e : k = j
    · subst e; rw [updF_same]; exact hgt
    · rw [updF_other _ _ e]; exact h.gt k (by omega)
  · by_cases ek : k = j <;> by_cases el : l = j
    · rw [ek, el]
    · rw [ek, updF_same, updF_other _ _ el] at e
      exact absurd e.symm (hnew l (by omega))
    · rw [el, updF_same, updF_other _ _ ek] at e
      exact absurd e (hnew k (by omega))
    · rw [updF_other _ _ ek, updF_other _ _ el] at e
      exact h.inj k l (by omega) (by omega) e
/-- A new table. -/
theorem NewI.tb (h : NewI W t T0 fc fd ps t.cols.length cv cb w) : ∃ lab, Tb w T0 t 0 [] lab ∧ ∀ b, lab b ≠ 0 → W.heap.size ≤ b := by
  classical
  obtain ⟨lab, hlab⟩ : ∃ lab : Nat → Nat, lab = fun b => if b = T0 then 1 else if hx : ∃ k, k < t.cols.length ∧ cb k = b then 6 + 2 * Classical.choose hx else 0 := ⟨_, rfl⟩
  have hl1 : lab T0 = 1 := by rw [hlab]; simp
  have hl6 : ∀ k, k < t.cols.length → lab (cb k) = 6 + 2 * k := fun k hk => by
    have hne : cb k ≠ T0 := by have := h.gt k hk; omega
    have hx : ∃ l, l < t.cols.length ∧ cb l = cb k := ⟨k, hk, rfl⟩
    rw [hlab]
    simp only
    rw [if_neg hne, dif_pos hx]
    have := Classical.choose_spec hx
    rw [h.inj _ k this.1 hk this.2]
  have hsup : ∀ b, lab b ≠ 0 → b = T0 ∨ ∃ k, k < t.cols.length ∧ cb k = b := fun b hb => by
    apply Classical.byContradiction
    intro hno
    apply hb
    rw [hlab]
    simp only
    rw [if_neg (fun e => hno (.inl e)), dif_neg (fun e => hno (.inr e))]
  refine ⟨lab, ⟨⟨fc, fd, cv, .map none, .slice none 0 0, .slice none 0 0, .slice none 0 0, ps, cb, fun _ => .slice none 0 0, fun _ => none, 0, 0, [], [], fun _ => false, fun _ => []⟩, ⟨⟨h.form, HRow.mono h.row (Nat.zero_le _), fun k hk => h.col k hk hk, .inl ⟨rfl, rfl, fun _ => rfl⟩, Nat.le_refl _, HRow.nil, ⟨[], Mv.nil _, Nrm.nil, fun x => ⟨fun e => absurd e (mem_nil x), fun e => by cases e⟩⟩, HRow.nil, hl1, fun b hb => (by cases hb), fun b hb => (by cases hb), fun b hb => (by cases hb), hl6, fun k _ b hb => (by cases hb), fun b hb => ?_⟩, h.box⟩, ?_⟩, fun b hb => ?_⟩
  · rcases hsup b hb with rfl | ⟨k, hk, rfl⟩
    · exact lt_of_heap h.box
    · exact (h.col k hk hk).lt
  · exact ⟨rfl, fun _ _ => rfl, List.Pairwise.nil, fun a ha => (by cases ha), fun a ha => (by cases ha), fun _ _ => rfl, fun _ _ _ hx => (by cases hx), fun p hp => (by cases hp), List.nodup_nil, fun p hp => absurd hp (Nat.not_lt_zero p), fun x => ⟨fun hx => (by rcases hx with hx | hx <;> cases hx), fun ⟨h1, h2, _⟩ => by omega⟩, Nat.le_refl _, Nat.zero_le _, Nat.zero_le _⟩
  · rcases hsup b hb with rfl | ⟨k, hk, rfl⟩
    · exact h.low
    · have := h.gt k hk; have := h.low; omega
def colPV (kd : Int) (base : Nat) : Par.VW := ⟨fun v w => ∃ c, v = (Value.pointer (some ⟨c, 0, none⟩)) ∧ base ≤ c ∧ Col c kd [] (.slice none 0 0) w, fun _ _ _ ⟨c, h1, h2, h3⟩ hb => ⟨c, h1, h2, h3.later hb⟩⟩
/-- The answer is a new table of that form. -/
def IsNew (t : T) (W : World) (e : Ending) (w' : World) : Prop := ∃ tb lab, e = .returned (Value.pointer (some ⟨tb, 0, none⟩)) ∧ Tb w' tb t 0 [] lab ∧ (∀ b, lab b ≠ 0 → W.heap.size ≤ b) ∧ Below W.heap.size W w'
set_option maxRecDepth 100000 in
set_option maxHeartbeats 4000000 in
theorem tnew_any {cv0 dv0 : Value} (h : RdT W cv0 dv0 t) (hf : Few t) (hk : ∀ c ∈ t.cols, c.kd = 1 ∨ c.kd = 2) : Calls Tryz.prog 8 #[.agg #[.string t.nm, cv0, .string t.key, dv0]] W (IsNew t W) := by
  obtain ⟨pc, kc, hfc, hc1, hc2⟩ := h.1.slice
  obtain ⟨pd, kd, hfd, hd1, hd2⟩ := h.2.slice
  subst hfc hfd
  have hb := below_alloc W (boxT t.nm (.slice pc t.cols.length kc) t.key (.slice pd t.deps.length kd))
  have hbx := heap_alloc_new W (boxT t.nm (.slice pc t.cols.length kc) t.key (.slice pd t.deps.length kd))
  have h1 := h.later hb
  have hcp := copied_any h1 hf
  obtain ⟨n, hn⟩ : ∃ n, t.cols.length = n := ⟨_, rfl⟩
  obtain ⟨nd, hnd⟩ : ∃ n, t.deps.length = n := ⟨_, rfl⟩
  obtain ⟨w1, hw1⟩ : ∃ w1, W.alloc (boxT t.nm (.slice pc t.cols.length kc) t.key (.slice pd t.deps.length kd)) = w1 := ⟨_, rfl⟩
  obtain ⟨B, hBB⟩ : ∃ B, W.heap.size = B := ⟨_, rfl⟩
  rw [hw1] at hb hbx hcp h1
  rw [hBB] at hbx
  have hsz : w1.heap.size = B + 1 := by rw [← hw1, World.size_alloc, hBB]
  rw [hn] at hc1
  obtain ⟨nm, hnm⟩ : ∃ x, t.nm = x := ⟨_, rfl⟩
  obtain ⟨key, hkey⟩ : ∃ x, t.key = x := ⟨_, rfl⟩
  rw [hn, hnd] at hcp h1 hbx hw1
  rw [hn, hnd]
  rw [hnm, hkey] at hcp hbx hw1
  rw [hnm, hkey]
  have z0 := nd_cell hbx 0
  have z1 := nd_cell hbx 1
  have z2 := nd_cell hbx 2
  have z3 := nd_cell hbx 3
  have zl := lt_of_heap hbx
  have HB := Lib.hid (And.intro hb (And.intro hbx (And.intro hsz h1)))
  have HW := Lib.hid (And.intro hw1 hBB)
  have HN := Lib.hid (And.intro hn (And.intro hnd (And.intro hnm (And.intro hkey (And.intro hk hf)))))
  unfold maxLen at hc2
  have HR := Lib.hid h
  clear h h1 hb hbx hw1 hBB hn hnd hnm hkey hsz hf hk hd1 hd2
  go_enter Tryz.func8, Tryz.ntmps8
  go_upto_region 1 with fail
  rw [HW.out.1, HW.out.2]
  go_upto_region 2 with (go_at_call 32; (with_reducible refine hcp.mono ?_); rintro e w2 ⟨q1, d1, q2, d2, ps, rfl, hO, hb2⟩; have H2 := Lib.hid (And.intro hO hb2); clear hO hb2 hcp z0 z1 z2 z3 zl)
  have hb3 := below_alloc w2 (.cells #[.string nm, .slice q1 n d1, .string key, .slice q2 nd d2, .slice none 0 0, .map none, .slice none 0 0, .slice none 0 0, .slice none 0 0, (Value.int .i64 (0))] 80)
  have hx3 := heap_alloc_new w2 (.cells #[.string nm, .slice q1 n d1, .string key, .slice q2 nd d2, .slice none 0 0, .map none, .slice none 0 0, .slice none 0 0, .slice none 0 0, (Value.int .i64 (0))] 80)
  obtain ⟨w3, hw3⟩ : ∃ w3, w2.alloc (.cells #[.string nm, .slice q1 n d1, .string key, .slice q2 nd d2, .slice none 0 0, .map none, .slice none 0 0, .slice none 0 0, .slice none 0 0, (Value.int .i64 (0))] 80) = w3 := ⟨_, rfl⟩
  obtain ⟨T0, hT0⟩ : ∃ x, w2.heap.size = x := ⟨_, rfl⟩
  rw [hw3] at hb3 hx3 ⊢
  rw [hT0] at hx3 ⊢
  have hbW2 : Below W.heap.size W w2 := below_on HB.out.1 H2.out.2
  have hN0 : NewI W t T0 (.slice q1 n d1) (.slice q2 nd d2) ps 0 (.slice none 0 0) (fun _ => 0) w3 :=
    ⟨by rw [HN.out.2.2.1, HN.out.2.2.2.1]; exact hx3, (H2.out.1.mono (Nat.zero_le _)).later hb3, HRow.nil, fun k hk => absurd hk (Nat.not_lt_zero k), fun k hk => absurd hk (Nat.not_lt_zero k), fun k l hk => absurd hk (Nat.not_lt_zero k), by rw [← hT0]; exact hbW2.size, below_on hbW2 hb3⟩
  have hx1 := heap_on (below_on H2.out.2 hb3) HB.out.2.1
  have z1 := nd_cell hx1 1
  have zl := lt_of_heap hx1
  have HN0 := Lib.hid hN0
  clear hb3 hx3 hw3 hT0 hbW2 hN0 hx1
  go_wp2_with fail
  go_loopg [13] (n + 1) (fun gh jv w => ∃ (j : Nat) (cv : Value) (cb : Nat → Nat), jv = .int .i64 (j : Int) ∧ j ≤ n ∧ n + 1 ≤ j + gh ∧ NewI W t T0 (.slice q1 n d1) (.slice q2 nd d2) ps j cv cb w)
  case atStart => exact ⟨0, _, _, rfl, Nat.zero_le _, by omega, HN0.out⟩
  case round =>
    obtain ⟨j, cv, cb, rfl, hj, hg, hNj⟩ := hrel
    clear z1 zl
    by_cases hlt : j < n
    · have hjl : j < t.cols.length := by rw [HN.out.1]; exact hlt
      have hrd := (HR.out.later hNj.below).1
      rw [HN.out.1] at hrd
      obtain ⟨bc, oc, rfl, hbc, c0, c1, c2, c3⟩ := RdC.col hrd hjl
      obtain ⟨pv, kv, rfl, _, _⟩ := hNj.row.isslice
      have hkj := HN.out.2.2.2.2.1 _ (List.getElem_mem hjl)
      have hjm : j ≤ 1000 := by have := HN.out.2.2.2.2.2.1; omega
      obtain ⟨d, hd⟩ : ∃ d, t.cols[j] = d := ⟨_, rfl⟩
      rw [hd] at c0 c1 c2 c3 hkj
      obtain ⟨x, kd2, mu, tg⟩ := d
      simp only at c0 c1 c2 c3 hkj
      have hb4 := below_alloc wr (.cells #[.string x, .int .i64 kd2, .bool mu, .string tg] 62)
      have hx4 := heap_alloc_new wr (.cells #[.string x, .int .i64 kd2, .bool mu, .string tg] 62)
      have hN4 := hNj.later hb4
      obtain ⟨C0, hC0⟩ : ∃ y, wr.heap.size = y := ⟨_, rfl⟩
      obtain ⟨w4, hw4⟩ : ∃ y, wr.alloc (.cells #[.string x, .int .i64 kd2, .bool mu, .string tg] 62) = y := ⟨_, rfl⟩
      rw [hw4] at hb4 hx4 hN4
      rw [hC0] at hx4
      have HD := Lib.hid (And.intro hd (And.intro hx4 (And.intro hN4 (And.intro hw4 (And.intro hC0 hb4)))))
      have H5 := Lib.hid hNj
      have hji : (j : Int) < (n : Int) := by omega
      have hT4 := lt_of_heap hN4.box
      have hC4 := lt_of_heap hx4
      clear hrd hbc hd hb4 hx4 hN4 hw4 hC0 hNj
      go_upto_region 5 with fail
      rw [HD.out.2.2.2.1, HD.out.2.2.2.2.1]
      have hem : Calls Tryz.prog 33 #[.int .i64 kd2] w4.drew fun e w' => ∃ c, e = .returned (Value.pointer (some ⟨c, 0, none⟩)) ∧ w4.heap.size ≤ c ∧ Col c kd2 [] (.slice none 0 0) w' ∧ Below w4.heap.size w4 w' :=
        (empty_any kd2 hkj w4.drew).mono (fun e w'' ⟨h1, h2, h3⟩ => ⟨_, h1, Nat.le_refl _, h2, (below_drew w4).trans h3⟩)
      have ent33 := enters_of Tryz.func33 (by kernel_rfl) rfl
      have k4 := nd_cell HD.out.2.2.1.box 4
      have k1 := nd_cell HD.out.2.1 1
      go_region_law (first
        | (refine step_call ent33 [.int .i64 kd2] (by simp [Act.eval]) ?_; (with_reducible refine Calls.mono hem ?_); rintro e y2 ⟨c7, rfl, hge, hcol, hb7⟩; have hN5 := HD.out.2.2.1.later hb7; have r4 := nd_cell hN5.box 4; have r1 := nd_cell (heap_on hb7 HD.out.2.1) 1; have rt := lt_of_heap hN5.box; have rc := lt_of_heap (heap_on hb7 HD.out.2.1); have hcol' : Col c7 t.cols[j].kd [] (.slice none 0 0) y2 := (by rw [HD.out.1]; exact hcol); obtain ⟨g, cap, w6, hrun, y1, y2', ⟨y3, y4⟩, hN6⟩ := hN5.add hjl hjm hcol' (by omega) (fun k hk e => (by have := (H5.out.col k hk (by omega)).lt; have := HD.out.2.2.2.2.2.size; omega)); have H6 := Lib.hid hN6; clear hN6 hcol hcol' hge hN5 hb7 hem; refine ⟨_, rfl, ?_⟩)
        | refine step_append_run rfl (.tmp 21) (.tmp 25) 77 rfl rfl rfl hrun ?_)
      all_goals
        go_wp2_with fail
        go_roundg (n - j)
        case measure => omega
        case rel => exact ⟨j + 1, _, _, by go_num, by omega, by omega, H6.out⟩
    · obtain rfl : j = n := by omega
      have hT : ∃ lab, Tb wr T0 t 0 [] lab ∧ ∀ b, lab b ≠ 0 → W.heap.size ≤ b := NewI.tb (by rw [HN.out.1]; exact hNj)
      have HF := Lib.hid (And.intro hT hNj.below)
      clear hT hNj
      go_wp2_with fail
      go_ret
      obtain ⟨⟨lab, h1, h2⟩, h3⟩ := HF.out
      exact ⟨T0, lab, rfl, h1, h2, h3⟩
end
end Go.Proofs.YtffpmmphpdkkbaaGreat
namespace Go.Proofs.YtffpmmphpdkkbaaGreat.Kc
open Go Go.RowKit Go.Shelf Go.Proofs

/-- It stands while the blocks of S and all rows of cells stay. -/
def Loc (J : (Nat → Prop) → World → Prop) : Prop := ∀ S W W', J S W → InW S W → W.heap.size ≤ W'.heap.size → (∀ b, S b → W'.heap[b]? = W.heap[b]?) → (∀ (b : Nat) (cur : Array Value) (e : TypeId) (m : Nat × Nat), W.heap[b]? = some (Obj.cells cur e m) → W'.heap[b]? = some (Obj.cells cur e m)) → (W'.os = W.os ∧ W'.tape = W.tape ∧ W'.output = W.output) → J S W'
/-- The iterator sv gives xs, one by one, and stops when it is told to; M: the blocks that it stands on; Mm: those of them that it may turn; Q k: how they are when k have come. -/
def Gives {α : Type} (P : Program) (sv : Value) (encs : α → Array Value) (xs : List α) (M Mm : Nat → Prop) (Q : Nat → World → Prop) : Prop :=
  (∀ k W W', Q k W → InW M W → W.heap.size ≤ W'.heap.size → (∀ b, M b → W'.heap[b]? = W.heap[b]?) → Q k W') ∧ (∃ g lb, sv = .func (.func g) #[] lb) ∧ (∀ b, Mm b → M b) ∧
  ∀ (yf : Fn) (yb : Array Value) (J Jx : Nat → (Nat → Prop) → World → Prop) (S : Nat → Prop) (W : World), (∀ k, Loc (J k)) → (∀ k, Loc (Jx k)) →
    InW S W → InW M W → (∀ b, S b → ¬ M b) → Q 0 W → J 0 S W →
    (∀ k (hk : k < xs.length) S1 W1, InW S1 W1 → Chg (fun b => S b ∨ Mm b) W W1 → J k S1 W1 →
      CallsV P (.func yf #[] yb) (encs xs[k]) W1 fun e W2 => ∃ S2, Grows S1 S2 W1 ∧ InW S2 W2 ∧ Chg S1 W1 W2 ∧
        ((e = .returned (.bool true) ∧ J (k + 1) S2 W2) ∨ (e = .returned (.bool false) ∧ Jx (k + 1) S2 W2))) →
    CallsV P sv #[.func yf #[] yb] W fun e W' => ∃ v S', e = .returned v ∧ Grows S S' W ∧ InW S' W' ∧ Chg (fun b => S b ∨ Mm b) W W' ∧
      ((J xs.length S' W' ∧ Q xs.length W') ∨ ∃ k, 0 < k ∧ k ≤ xs.length ∧ Jx k S' W' ∧ Q k W')

/-- **The law of a range over an iterator that gives xs.** -/
theorem wpIn_rangeFunc_sep {α : Type} {n : Nat} {P : Program} {g : Operand} {ps : Array Tmp} {assign body : Code} {Q : Exit → Act → World → Prop} {a : Act} {w : World}
    {sv : Value} (hg : a.eval g = sv) {encs : α → Array Value} {xs : List α} {M Mm : Nat → Prop} {Qi : Nat → World → Prop} (hgv : Gives P sv encs xs M Mm Qi) (hps : ∀ x, (encs x).size = ps.size)
    (I : Nat → (Nat → Prop) → World → Prop) (Ix : Code → Nat → (Nat → Prop) → World → Prop) (hI : ∀ k, Loc (I k)) (hIx : ∀ c k, Loc (Ix c k))
    (S : Nat → Prop) (hS : InW S w) (hM : InW M w) (hSM : ∀ b, S b → ¬ M b) (hQ : Qi 0 w) (h0 : I 0 S w) (a₁ : α → Act)
    (hassign : ∀ (l : Nat) (x : α) (W : World) (K : Act → World → Prop), K (a₁ x) W →
      assign.wpIn (Fence.wide.inRound l) 0 P (Exit.then K (fun _ _ _ => False)) { tmps := (ps.zip (encs x)).foldl (fun t (p, v) => t.setIfInBounds p v) a.tmps, defers := [] } W)
    (hbody : ∀ (l k : Nat) (hk : k < xs.length) S1 W1, InW S1 W1 → Chg (fun b => S b ∨ Mm b) w W1 → I k S1 W1 → body.wpIn (Fence.wide.inRound l) 0 P (sepPost I Ix (k + 1) S1 W1) (a₁ xs[k]) W1)
    (hdone : ∀ S' W', Grows S S' w → InW S' W' → Chg (fun b => S b ∨ Mm b) w W' → I xs.length S' W' → Qi xs.length W' → W'.heap[w.heap.size]? = some (.deferred (some [])) → ¬ S' w.heap.size →
      Q .normal { a with defers := markAt w.heap.size :: a.defers } W')
    (hstop : ∀ c k S' W', 0 < k → k ≤ xs.length → Grows S S' w → InW S' W' → Chg (fun b => S b ∨ Mm b) w W' → Ix c k S' W' → Qi k W' → W'.heap[w.heap.size]? = some (.deferred (some [])) → ¬ S' w.heap.size →
      c.wpIn Fence.wide n P Q { a with defers := markAt w.heap.size :: a.defers } W') :
    (Code.rangeFunc g ps assign body).wpIn Fence.wide n P Q a w := by
  refine wpIn_rangeFunc ?_
  intro fn hfn
  obtain ⟨D, hD⟩ : ∃ D, w.heap.size = D := ⟨_, rfl⟩
  obtain ⟨rec, hrec⟩ : ∃ rec : LoopState → Option Code → Loop, rec = fun st pe => { state := st, pending := pe, fn, tmps := a.tmps, params := ps, assign, body, defers := D } := ⟨_, rfl⟩
  obtain ⟨w1, hw1⟩ : ∃ w1, (w.alloc (.deferred (some []))).alloc (.loop (rec .ready none)) = w1 := ⟨_, rfl⟩
  have hL1 : w1.heap[D + 1]? = some (.loop (rec .ready none)) := by
    rw [← hw1]; have := World.alloc_heap_new (w.alloc (.deferred (some []))) (.loop (rec .ready none)); rw [World.size_alloc, hD] at this; exact this
  have hK1 : w1.heap[D]? = some (.deferred (some [])) := by
    rw [← hw1, ← hD]; exact (Below.heap_alloc _ _ _ (by simp)).trans (World.alloc_heap_new w _)
  have hz1 : w1.heap.size = D + 2 := by rw [← hw1]; simp [hD]
  have hc1 : Chg S w w1 := by rw [← hw1]; exact ((Chg.refl S w).alloc _).alloc _
  have hcB : ∀ b, b < D → w1.heap[b]? = w.heap[b]? := fun b hb => by
    rw [← hw1]; exact (Below.heap_alloc _ _ _ (by simp; omega)).trans (Below.heap_alloc _ _ _ (by omega))
  have hS' : ∀ b, S b → b < D := fun b hb => by rw [← hD]; exact hS b hb
  have hM' : ∀ b, M b → b < D := fun b hb => by rw [← hD]; exact hM b hb
  -- THE ITERATOR's CALL
  have hMm : ∀ b, Mm b → b < D := fun b x => hM' b (hgv.2.2.1 b x)
  have hcall := hgv.2.2.2 (.yield (D + 1)) #[]
    (fun k T W => ∃ T0, (∀ b, T b ↔ T0 b ∨ b = D + 1 ∨ b = D) ∧ ¬ T0 (D + 1) ∧ ¬ T0 D ∧ I k T0 W ∧ D + 2 ≤ W.heap.size ∧ W.heap[D + 1]? = some (.loop (rec .ready none)) ∧ W.heap[D]? = some (.deferred (some [])))
    (fun k T W => ∃ T0, (∀ b, T b ↔ T0 b ∨ b = D + 1 ∨ b = D) ∧ ¬ T0 (D + 1) ∧ ¬ T0 D ∧ D + 2 ≤ W.heap.size ∧ ∃ c, Ix c k T0 W ∧ W.heap[D + 1]? = some (.loop (rec .done (some c))) ∧ W.heap[D]? = some (.deferred (some [])))
    (fun b => S b ∨ b = D + 1 ∨ b = D) w1
    (by
      rintro k T W W' ⟨T0, hT, h1, h2, hi, hz, hl, hd⟩ hin hsz hb hkc hos
      exact ⟨T0, hT, h1, h2, hI k T0 W W' hi (fun b h => hin b ((hT b).2 (.inl h))) hsz (fun b h => hb b ((hT b).2 (.inl h))) hkc hos, by omega, (hb _ ((hT _).2 (.inr (.inl rfl)))).trans hl, (hb _ ((hT _).2 (.inr (.inr rfl)))).trans hd⟩)
    (by
      rintro k T W W' ⟨T0, hT, h1, h2, hz, c, hi, hl, hd⟩ hin hsz hb hkc hos
      exact ⟨T0, hT, h1, h2, by omega, c, hIx c k T0 W W' hi (fun b h => hin b ((hT b).2 (.inl h))) hsz (fun b h => hb b ((hT b).2 (.inl h))) hkc hos, (hb _ ((hT _).2 (.inr (.inl rfl)))).trans hl, (hb _ ((hT _).2 (.inr (.inr rfl)))).trans hd⟩)
    (by rintro b (h | rfl | rfl) <;> rw [hz1]
        · have := hS' b h; omega
        · omega
        · omega)
    (fun b h => by rw [hz1]; have := hM' b h; omega)
    (by rintro b (h | rfl | rfl) hm
        · exact hSM b h hm
        · have := hM' _ hm; omega
        · have := hM' _ hm; omega)
    (hgv.1 0 w w1 hQ hM (by rw [hz1]; omega) (fun b hb => hcB b (hM' b hb)))
    ⟨S, fun _ => Iff.rfl, fun h => by have := hS' _ h; omega, fun h => by have := hS' _ h; omega, hI 0 S w w1 h0 hS (by rw [hz1]; omega) (fun b hb => hcB b (hS' b hb)) (fun b cur e m hb => (hcB b (by have := lt_of_heap hb; omega)).trans hb) ⟨hc1.os, hc1.tape, hc1.output⟩, by omega, hL1, hK1⟩
    (by
      rintro k hk T W1 hin hchg1 ⟨T0, hT, hn1, hn2, hi, hz, hl, hd⟩
      have hsz := hchg1.size
      have hlt : D + 1 < W1.heap.size := by omega
      have hy := run_yield (P := P) (args := encs xs[k]) hl (by rw [hrec]; exact hps _)
      rw [hrec] at hy
      refine .inr ⟨D + 1, fn, _, assign, body, rfl, hy, roundIn_of_wpIn trivial (hassign _ xs[k] W1 _ ⟨_, run_beginRound hl (by rw [hrec]), ?_⟩)⟩
      obtain ⟨W2, hW2⟩ : ∃ W2, W1.putObj (D + 1) (.loop { rec .ready none with state := .busy }) = W2 := ⟨_, rfl⟩
      rw [hW2]
      have hz2 : W2.heap.size = W1.heap.size := by rw [← hW2]; simp
      have hl2 : W2.heap[D + 1]? = some (.loop { rec .ready none with state := .busy }) := by rw [← hW2]; exact World.putObj_heap_same hlt
      have hd2 : W2.heap[D]? = some (.deferred (some [])) := by rw [← hW2]; exact (World.putObj_heap_other (by omega)).trans hd
      have ho2 : ∀ b, b ≠ D + 1 → W2.heap[b]? = W1.heap[b]? := fun b hb => by rw [← hW2]; exact World.putObj_heap_other hb
      have hin0 : InW T0 W1 := fun b h => hin b ((hT b).2 (.inl h))
      have hi2 : I k T0 W2 := hI k T0 W1 W2 hi hin0 (by omega) (fun b h => ho2 b (fun e => hn1 (e ▸ h))) (fun b cur e m hb => (ho2 b (fun e' => by rw [e', hl] at hb; cases hb)).trans hb) (by rw [← hW2]; exact ⟨rfl, rfl, rfl⟩)
      refine wpIn_mono (hbody (D + 1) k hk T0 W2 (fun b h => by rw [hz2]; exact hin0 b h) (by
        have : Chg (fun b => S b ∨ Mm b) w W1 := hc1.trans hchg1 (fun _ _ h => .inl h) (fun b hb h => by
          rcases h with (h | h | h) | h
          · exact .inl h
          · omega
          · omega
          · exact .inr h)
        rw [← hW2]; exact this.putObj (fun h => by omega) _) hi2) ?_
      have hc2 : Chg T W1 W2 := by rw [← hW2]; exact (Chg.refl T W1).putObj (fun _ => (hT _).2 (.inr (.inl rfl))) _
      -- what is common to all ways out
      have fin : ∀ (jump : Option Code) (S2 : Nat → Prop) (W3 : World), Grows T0 S2 W2 → InW S2 W3 → Chg T0 W2 W3 → ∃ W4,
          (Instr.endRound (D + 1) jump).run P W3 = .ok (.bool jump.isNone) W4 ∧ W4.heap.size = W3.heap.size ∧ (∀ b, b ≠ D + 1 → W4.heap[b]? = W3.heap[b]?) ∧
          ¬ S2 (D + 1) ∧ ¬ S2 D ∧ Grows T (fun b => S2 b ∨ b = D + 1 ∨ b = D) W1 ∧ InW (fun b => S2 b ∨ b = D + 1 ∨ b = D) W4 ∧ Chg T W1 W4 ∧ D + 2 ≤ W4.heap.size ∧
          W4.heap[D + 1]? = some (.loop (rec (if jump.isNone then .ready else .done) jump)) ∧ W4.heap[D]? = some (.deferred (some [])) := fun jump S2 W3 hgr hin2 hch => by
        have hz3 := hch.size
        have hl3 : W3.heap[D + 1]? = some (.loop { rec .ready none with state := .busy }) := (hch.block _ (by omega) hn1).trans hl2
        have hd3 : W3.heap[D]? = some (.deferred (some [])) := (hch.block _ (by omega) hn2).trans hd2
        have hs1 : ¬ S2 (D + 1) := fun h => by
          rcases hgr _ h with h1 | h1
          · exact hn1 h1
          · omega
        have hs2 : ¬ S2 D := fun h => by
          rcases hgr _ h with h1 | h1
          · exact hn2 h1
          · omega
        have her := run_endRound (P := P) jump hl3
        refine ⟨_, her, by simp, fun b hb => World.putObj_heap_other hb, hs1, hs2, ?_, ?_, ?_, by simp; omega, ?_, (World.putObj_heap_other (by omega)).trans hd3⟩
        · rintro b (h | h | h)
          · rcases hgr b h with h1 | h1
            · exact .inl ((hT b).2 (.inl h1))
            · exact .inr (by omega)
          · exact .inl ((hT b).2 (.inr (.inl h)))
          · exact .inl ((hT b).2 (.inr (.inr h)))
        · rintro b (h | h | h)
          · have := hin2 b h; simpa using this
          · simp; omega
          · simp; omega
        · refine (hc2.trans hch (fun _ _ h => h) (fun b _ h => (hT b).2 (.inl h))).putObj (fun _ => (hT _).2 (.inr (.inl rfl))) _
        · rw [World.putObj_heap_same (by omega), hrec]
      rintro e a3 W3 hp
      cases e with
      | normal =>
        obtain ⟨S2, hgr, hin2, hch, hi3⟩ := hp
        obtain ⟨W4, hr, hz4, ho4, hs1, hs2, hg4, hi4, hc4, hm4, hl4, hd4⟩ := fin none S2 W3 hgr hin2 hch
        exact ⟨_, _, hr, _, hg4, hi4, hc4, .inl ⟨rfl, S2, fun _ => Iff.rfl, hs1, hs2, hI _ _ _ _ hi3 hin2 (by omega) (fun b h => ho4 b (fun e => hs1 (e ▸ h))) (fun b cur e m hb => (ho4 b (fun e' => by rw [e', (hch.block _ (by omega) hn1).trans hl2] at hb; cases hb)).trans hb) ⟨hc4.os.trans (hch.os.trans hc2.os).symm, hc4.tape.trans (hch.tape.trans hc2.tape).symm, hc4.output.trans (hch.output.trans hc2.output).symm⟩, hm4, hl4, hd4⟩⟩
      | ret =>
        obtain ⟨S2, hgr, hin2, hch, hi3⟩ := hp
        obtain ⟨W4, hr, hz4, ho4, hs1, hs2, hg4, hi4, hc4, hm4, hl4, hd4⟩ := fin (some .ret) S2 W3 hgr hin2 hch
        exact ⟨_, _, hr, _, hg4, hi4, hc4, .inr ⟨rfl, S2, fun _ => Iff.rfl, hs1, hs2, hm4, _, hIx _ _ _ _ _ hi3 hin2 (by omega) (fun b h => ho4 b (fun e => hs1 (e ▸ h))) (fun b cur e m hb => (ho4 b (fun e' => by rw [e', (hch.block _ (by omega) hn1).trans hl2] at hb; cases hb)).trans hb) ⟨hc4.os.trans (hch.os.trans hc2.os).symm, hc4.tape.trans (hch.tape.trans hc2.tape).symm, hc4.output.trans (hch.output.trans hc2.output).symm⟩, hl4, hd4⟩⟩
      | exit id =>
        obtain ⟨S2, hgr, hin2, hch, hi3⟩ := hp
        obtain ⟨W4, hr, hz4, ho4, hs1, hs2, hg4, hi4, hc4, hm4, hl4, hd4⟩ := fin (some (.exit id)) S2 W3 hgr hin2 hch
        exact ⟨_, _, hr, _, hg4, hi4, hc4, .inr ⟨rfl, S2, fun _ => Iff.rfl, hs1, hs2, hm4, _, hIx _ _ _ _ _ hi3 hin2 (by omega) (fun b h => ho4 b (fun e => hs1 (e ▸ h))) (fun b cur e m hb => (ho4 b (fun e' => by rw [e', (hch.block _ (by omega) hn1).trans hl2] at hb; cases hb)).trans hb) ⟨hc4.os.trans (hch.os.trans hc2.os).symm, hc4.tape.trans (hch.tape.trans hc2.tape).symm, hc4.output.trans (hch.output.trans hc2.output).symm⟩, hl4, hd4⟩⟩
      | goto t => exact hp.elim
      | panic ch => exact hp.elim
      | outgrown => exact hp.elim)
  -- the statement's frame
  have hev : a.eval g = sv := hg
  have hpost : ∀ e W2, (∃ v S', e = Ending.returned v ∧ Grows (fun b => S b ∨ b = D + 1 ∨ b = D) S' w1 ∧ InW S' W2 ∧ Chg (fun b => (S b ∨ b = D + 1 ∨ b = D) ∨ Mm b) w1 W2 ∧
      (((∃ T0, (∀ b, S' b ↔ T0 b ∨ b = D + 1 ∨ b = D) ∧ ¬ T0 (D + 1) ∧ ¬ T0 D ∧ I xs.length T0 W2 ∧ D + 2 ≤ W2.heap.size ∧ W2.heap[D + 1]? = some (.loop (rec .ready none)) ∧ W2.heap[D]? = some (.deferred (some []))) ∧ Qi xs.length W2) ∨
        ∃ k, 0 < k ∧ k ≤ xs.length ∧ (∃ T0, (∀ b, S' b ↔ T0 b ∨ b = D + 1 ∨ b = D) ∧ ¬ T0 (D + 1) ∧ ¬ T0 D ∧ D + 2 ≤ W2.heap.size ∧ ∃ c, Ix c k T0 W2 ∧ W2.heap[D + 1]? = some (.loop (rec .done (some c))) ∧ W2.heap[D]? = some (.deferred (some []))) ∧ Qi k W2)) →
      rangePost Fence.wide n P (D + 1) Q { a with defers := [markAt D] ++ a.defers } e W2 := by
    rintro e W2 ⟨v, S', rfl, hgr, hin, hch, hend⟩
    have grow : ∀ T0 : Nat → Prop, (∀ b, S' b ↔ T0 b ∨ b = D + 1 ∨ b = D) → ¬ T0 (D + 1) → ¬ T0 D → Grows S T0 w := fun T0 hT hn1 hn2 b hb => by
      rcases hgr b ((hT b).2 (.inl hb)) with (h1 | h1 | h1) | h1
      · exact .inl h1
      · exact absurd (h1 ▸ hb) hn1
      · exact absurd (h1 ▸ hb) hn2
      · exact .inr (by omega)
    have hchg : ∀ o : Obj, Chg (fun b => S b ∨ Mm b) w (W2.putObj (D + 1) o) := fun o =>
      ((hc1.trans hch (T := fun b => S b ∨ Mm b) (fun _ _ h => .inl h) (fun b hb h => by
        rcases h with (h | h | h) | h
        · exact .inl h
        · omega
        · omega
        · exact .inr h)).putObj (fun h => by omega) o)
    rcases hend with ⟨⟨T0, hT, hn1, hn2, hi, hz, hl, hd⟩, hq⟩ | ⟨k, hk0, hk, ⟨T0, hT, hn1, hn2, hz, c, hi, hl, hd⟩, hq⟩
    · have hin0 : InW T0 W2 := fun b h => hin b ((hT b).2 (.inl h))
      refine ⟨none, _, by have := run_endLoop (P := P) hl (by rw [hrec]; simp); rw [hrec] at this; exact this, ?_⟩
      have := hdone T0 (W2.putObj (D + 1) (.loop { rec .ready none with state := .exhausted })) (grow T0 hT hn1 hn2) (fun b h => by simpa using hin0 b h) (hchg _)
        (hI _ _ _ _ hi hin0 (by simp) (fun b h => World.putObj_heap_other (fun e => hn1 (e ▸ h))) (fun b cur e m hb => (World.putObj_heap_other (fun e' => by rw [e', hl] at hb; cases hb)).trans hb) ⟨rfl, rfl, rfl⟩)
        (hgv.1 _ _ _ hq (fun b h => by have := hM' b h; omega) (by simp) (fun b h => World.putObj_heap_other (by have := hM' b h; omega)))
        (by rw [hD]; exact (World.putObj_heap_other (by omega)).trans hd) (by rw [hD]; exact hn2)
      rw [hD, hrec] at this
      exact this
    · have hin0 : InW T0 W2 := fun b h => hin b ((hT b).2 (.inl h))
      refine ⟨some c, _, by have := run_endLoop (P := P) hl (by rw [hrec]; simp); rw [hrec] at this; exact this, ?_⟩
      have := hstop c k T0 (W2.putObj (D + 1) (.loop { rec .done (some c) with state := .exhausted })) hk0 hk (grow T0 hT hn1 hn2) (fun b h => by simpa using hin0 b h) (hchg _)
        (hIx _ _ _ _ _ hi hin0 (by simp) (fun b h => World.putObj_heap_other (fun e => hn1 (e ▸ h))) (fun b cur e m hb => (World.putObj_heap_other (fun e' => by rw [e', hl] at hb; cases hb)).trans hb) ⟨rfl, rfl, rfl⟩)
        (hgv.1 _ _ _ hq (fun b h => by have := hM' b h; omega) (by simp) (fun b h => World.putObj_heap_other (by have := hM' b h; omega)))
        (by rw [hD]; exact (World.putObj_heap_other (by omega)).trans hd) (by rw [hD]; exact hn2)
      rw [hD, hrec] at this
      exact this
  rcases hcall with ⟨gf, lb, rfl, he, hc⟩ | ⟨l', _, _, _, _, rfl, hr', hc'⟩
  · refine ⟨D + 1, [markAt D], w1, { target := .fn (.func gf) lb, args := #[.func (.yield (D + 1)) #[] #[]] }, w1, gf,
      #[.func (.yield (D + 1)) #[] #[]] ++ lb, w1, ?_, ?_, fun _ _ => trivial, ?_, fun h => by simp [Fence.wide] at h, ?_⟩
    · rw [← hw1, hrec, ← hD]; exact run_enterLoop_outer _ _ _ _ _
    · simp only [resolve, hg]
      simp [go_sem]
    · simp [invoke, go_sem, he]
    · exact callsIn_wide.2 (hc.mono hpost)
  · -- the iterator's value is never a yield: its record would have to be there
    obtain ⟨g', lb', hh⟩ := hgv.2.1
    cases hh


attribute [local go_sem] Oper.semAt_some
attribute [local go_sem] eql51n eql51f wide_fn wide_depth
/-- What an iterator's loop hands on: k have come. -/
structure Came (J : Nat → (Nat → Prop) → World → Prop) (S : Nat → Prop) (W : World) (k : Nat) (S1 : Nat → Prop) (W1 : World) : Prop where
  j : J k S1 W1
  inW : InW S1 W1
  grows : Grows S S1 W
  chg : Chg S W W1
theorem Came.next {J : Nat → (Nat → Prop) → World → Prop} {S S1 S2 : Nat → Prop} {W W1 W2 : World} {k : Nat} (h : Came J S W k S1 W1) {J' : Nat → (Nat → Prop) → World → Prop} {k' : Nat}
    (hg : Grows S1 S2 W1) (hi : InW S2 W2) (hc : Chg S1 W1 W2) (hj : J' k' S2 W2) : Came J' S W k' S2 W2 :=
  ⟨hj, hi, h.grows.trans hg h.chg.size, h.chg.trans hc (fun _ _ x => x) (fun b hb x => (h.grows b x).resolve_right (by omega))⟩
/-- A block more, which is none of the caller's. -/
theorem Came.alloc {J : Nat → (Nat → Prop) → World → Prop} {S S1 : Nat → Prop} {W W1 : World} {k : Nat} (h : Came J S W k S1 W1) (hJ : Loc (J k)) (o : Obj) : Came J S W k S1 (W1.alloc o) ∧ ¬ S1 W1.heap.size :=
  ⟨⟨hJ S1 W1 _ h.j h.inW (by simp) (fun b hb => Below.heap_alloc _ _ _ (h.inW b hb)) (fun b cur e m hb => (Below.heap_alloc _ _ _ (lt_of_heap hb)).trans hb) ⟨rfl, rfl, rfl⟩, h.inW.later (by simp), h.grows, h.chg.alloc o⟩, fun hb => Nat.lt_irrefl _ (h.inW _ hb)⟩
set_option maxRecDepth 100000 in
set_option maxHeartbeats 2000000 in
theorem all1_walk (c : Nat) {la : List R2} {pa : Option Addr} {ca : Nat} (ha : Nrm la) (yv : Value) (J Jx : Nat → (Nat → Prop) → World → Prop) (S : Nat → Prop) (W : World) (hJ : ∀ k, Loc (J k)) (hS : InW S W)
    (hc : W.cell? ⟨c, 0, none⟩ = some (.slice pa la.length ca)) (hv : Mv W (.slice pa la.length ca) la) (hbS : ∀ g, pa = some ⟨g, 0, none⟩ → ¬ S g) (h0 : J 0 S W)
    (hY : ∀ k (hk : k < (els la).length) S1 W1, InW S1 W1 → Chg (fun b => S b ∨ False) W W1 → J k S1 W1 →
      CallsV Tryz.prog yv (enc1 (els la)[k]) W1 fun e W2 => ∃ S2, Grows S1 S2 W1 ∧ InW S2 W2 ∧ Chg S1 W1 W2 ∧
        ((e = .returned (.bool true) ∧ J (k + 1) S2 W2) ∨ (e = .returned (.bool false) ∧ Jx (k + 1) S2 W2))) :
    Calls Tryz.prog 65 #[yv, (Value.pointer (some ⟨c, 0, none⟩))] W fun e W' => ∃ v, e = .returned v ∧ ((∃ S', Came J S W (els la).length S' W') ∨ ∃ k S', 0 < k ∧ k ≤ (els la).length ∧ Came Jx S W k S' W') := by
  obtain ⟨na, hna⟩ : ∃ na, la.length = na := ⟨_, rfl⟩
  have HV := Lib.hid (And.intro hv (And.intro hna (And.intro ha hbS)))
  have HY := Lib.hid hY
  have hla := runs_len ha
  have HJ := Lib.hid hJ
  rw [hna] at hc hla
  clear hv ha hbS hna hY hJ
  refine (callsIn_wide (n := 0)).1 ?_
  refine callsIn_of_wp Tryz.func65 rfl trivial ?_ rfl
  simp only [Tryz.ntmps65, List.size_toArray, List.length_cons, List.length_nil, Nat.reduceAdd, Nat.reduceSub, Array.replicate_succ, Array.replicate_zero, List.push_toArray, List.append_toArray, List.nil_append, List.cons_append]
  gi_wp2
  gi_loopw [9] (fun iv wr => ∃ (j : Nat) (S1 : Nat → Prop), j ≤ na ∧ iv = .int .i64 (j : Int) ∧ Came J S W (els (la.take j)).length S1 wr) (fun iv _ => na - (intOf iv).toNat)
  case atStart => exact ⟨0, S, Nat.zero_le _, rfl, ⟨h0, hS, .refl _ _, .refl _ _⟩⟩
  case round =>
    obtain ⟨j, S1, hj, rfl, hC⟩ := hrel
    by_cases hlt : j < na
    · have hja : j < la.length := by rw [HV.out.2.1]; exact hlt
      obtain ⟨g, rfl, hg, a0, a1, a2⟩ := HV.out.1.run hja
      have hgS := HV.out.2.2.2 g rfl
      have a0 := (hC.chg.cell (p := ⟨g, j * 3, none⟩) hg hgS).trans a0
      have a1 := (hC.chg.cell (p := ⟨g, j * 3 + 1, none⟩) hg hgS).trans a1
      have a2 := (hC.chg.cell (p := ⟨g, j * 3 + 2, none⟩) hg hgS).trans a2
      have hat : ∀ d : Nat, (d : Int) < la[j].2 - la[j].1 → (els la)[(els (la.take j)).length + d]? = some (la[j].1 + (d : Int)) := fun d hd => els_at hja hd
      have hrb := HV.out.2.2.1.2 la[j] (List.getElem_mem _)
      have hnext : (els (la.take (j + 1))).length = (els (la.take j)).length + (la[j].2 - la[j].1).toNat := by rw [List.take_succ_eq_append_getElem hja, els_append, els_one, List.length_append, rng_len]
      obtain ⟨r, hr⟩ : ∃ r, la[j] = r := ⟨_, rfl⟩
      simp only [hr] at a0 a1 hat hrb hnext
      obtain ⟨f, t⟩ := r
      obtain ⟨cj, hcj⟩ : ∃ cj, (els (la.take j)).length = cj := ⟨_, rfl⟩
      simp only [hcj] at a2 hC hnext hat
      have HA := Lib.hid (And.intro hat hnext)
      obtain ⟨hC1, hn1⟩ := hC.alloc (HJ.out cj) (.cells #[(Value.int .i64 (f)), (Value.int .i64 (t)), (Value.int .i64 ((cj : Int)))] 112)
      have hf0 : 0 ≤ f := hrb.1
      have hft : f < t := hrb.2.1
      have ht6 : t ≤ 65536 := hrb.2.2
      have hbx := heap_alloc_new wr (.cells #[(Value.int .i64 (f)), (Value.int .i64 (t)), (Value.int .i64 ((cj : Int)))] 112)
      obtain ⟨rb, hrb'⟩ : ∃ rb, wr.heap.size = rb := ⟨_, rfl⟩
      have HC := Lib.hid (And.intro hC1 (And.intro hn1 hbx))
      rw [hrb'] at HC
      clear hcj hr hat hnext hrb hC1 hn1 hbx hC hc
      gi_wp2
      gi_loopw [5] (fun iv w => ∃ (d : Nat) (S2 : Nat → Prop), (d : Int) ≤ t - f ∧ iv = .int .i64 (f + (d : Int)) ∧ Came J S W (cj + d) S2 w ∧ ¬ S2 rb ∧ w.heap[rb]? = some (.cells #[(Value.int .i64 (f)), (Value.int .i64 (t)), (Value.int .i64 ((cj : Int)))] 112)) (fun iv _ => (t - intOf iv).toNat)
      case atStart => exact ⟨0, S1, by omega, by simp, HC.out.1, HC.out.2.1, HC.out.2.2⟩
      case round =>
        clear a0 a1 a2
        obtain ⟨d, S2, hd, rfl, hC, hn, hx⟩ := hrel
        have x1 := nd_cell hx 1
        have hrl := lt_of_heap hx
        have HX := Lib.hid (And.intro hC (And.intro hn hx))
        clear hC hn hx
        by_cases hdl : (d : Int) < t - f
        · obtain ⟨hkl, hke⟩ := List.getElem?_eq_some_iff.1 (HA.out.1 d hdl)
          have hY1 := HY.out (cj + d) hkl S2 wr HX.out.1.inW (HX.out.1.chg.mono fun _ _ x => .inl x) HX.out.1.j
          rw [hke] at hY1
          have hlt' : f + (d : Int) < t := by omega
          clear hkl hke
          gi_wp2_with ((with_reducible refine wpListIn_callV ?_ ?_ yv [(Value.int .i64 (f + (d : Int)))] ?_ ?_ ?_); rfl; rfl; rfl; rfl; refine hY1.mono ?_; clear hY1; rintro e W2 ⟨S3, hg3, hi3, hch3, (⟨rfl, hj3⟩ | ⟨rfl, hj3⟩)⟩ <;> refine ⟨_, rfl, ?_⟩)
          · go_roundw
            case rel => exact ⟨d + 1, S3, by omega, by congr 1; omega, HX.out.1.next hg3 hi3 hch3 hj3, fun h => (hg3 rb h).elim HX.out.2.1 (fun h => by omega), (hch3.block rb hrl HX.out.2.1).trans HX.out.2.2⟩
            case measure => simp [intOf]; omega
          · refine bodyPost_ret (results_none rfl _ _ _) rfl ?_
            exact ⟨_, rfl, .inr ⟨cj + d + 1, S3, by omega, by
              have := (List.getElem?_eq_some_iff.1 (HA.out.1 d hdl)).1
              omega, HX.out.1.next hg3 hi3 hch3 hj3⟩⟩
        · have hlt' : ¬ f + (d : Int) < t := by omega
          gi_wp2
          go_roundw
          case rel => exact ⟨j + 1, S2, by omega, by simp, by
            rw [HA.out.2]
            have e : (t - f).toNat = d := by omega
            show Came J S W (cj + (t - f).toNat) S2 wr
            rw [e]
            exact HX.out.1⟩
          case measure => simp [intOf]; omega
    · have e : els (la.take j) = els la := by rw [List.take_of_length_le (by rw [HV.out.2.1]; omega)]
      rw [e] at hC
      have HC := Lib.hid hC
      clear hC e hc
      gi_wp2
      go_end0
      exact ⟨_, rfl, .inl ⟨S1, HC.out⟩⟩

/-- **All's closure gives the elements.** -/
theorem all_gives (c : Nat) {la : List R2} {va : Value} (ha : Nrm la) (W0 : World) (hv0 : Mv W0 va la) : Gives Tryz.prog (.func (.func 65) #[] #[(Value.pointer (some ⟨c, 0, none⟩))]) enc1 (els la) (fun b => b = c ∨ va.ownBlock = some b) (fun _ => False) (fun _ W => Cell W c va ∧ Mv W va la) := by
  obtain ⟨pa, ca, rfl, _, _⟩ := hv0.slice
  refine ⟨fun k W W' ⟨h1, h2⟩ _ _ hb => ⟨h1.of (hb c (.inl rfl)), HRow.of h2 (fun b h => hb b (.inr h))⟩, ⟨65, _, rfl⟩, fun _ x => x.elim, ?_⟩
  rintro yf yb J Jx S W hJ hJx hS hM hSM ⟨hc, hq⟩ h0 hY
  refine .inl ⟨65, _, rfl, enters_of Tryz.func65 (by kernel_rfl) rfl, ?_⟩
  have hw := all1_walk c (pa := pa) (ca := ca) ha (.func yf #[] yb) J Jx S W hJ hS hc.1 hq (fun g hg hs => hSM g hs (.inr (by subst hg; rfl))) h0 hY
  refine hw.mono ?_
  have hq' : ∀ W', Chg S W W' → Cell W' c (.slice pa la.length ca) ∧ Mv W' (.slice pa la.length ca) la := fun W' h =>
    ⟨hc.of (h.block c (hM c (.inl rfl)) (fun x => hSM c x (.inl rfl))), HRow.of hq (fun b hb => h.block b (hM b (.inr hb)) (fun x => hSM b x (.inr hb)))⟩
  rintro e W' ⟨v, rfl, (⟨S', h⟩ | ⟨k, S', hk0, hk, h⟩)⟩
  · exact ⟨v, S', rfl, h.grows, h.inW, h.chg.mono (fun _ _ x => .inl x), .inl ⟨h.j, hq' _ h.chg⟩⟩
  · exact ⟨v, S', rfl, h.grows, h.inW, h.chg.mono (fun _ _ x => .inl x), .inr ⟨k, hk0, hk, h.j, hq' _ h.chg⟩⟩
end Go.Proofs.YtffpmmphpdkkbaaGreat.Kc
