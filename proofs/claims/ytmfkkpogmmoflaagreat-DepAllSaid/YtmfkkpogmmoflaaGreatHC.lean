/- Clone. copied. -/
import Derived.Test.YtmfkkpogmmoflaaGreatEE
import Derived.Lib.SliceRun
import Derived.Lib.Walk
namespace Go.Proofs.YtmfkkpogmmoflaaGreat
open Go Go.RowKit Go.Proofs

theorem info43 : (Tryz.prog.info? 54).map (fun i => (i.zero, i.size, i.bytes)) = some (some (.agg #[.string e0, .int .i64 0, .bool false, .string e0]), 4, 48) := by kernel_rfl
theorem info9 : (Tryz.prog.info? 9).map (fun i => (i.zero, i.size, i.bytes)) = some (some (.string e0), 1, 16) := by kernel_rfl
theorem one_cellsC (l : List C) : ∀ u ∈ cellsC l, u.oneCell' = true := by
  intro u hu
  unfold cellsC at hu
  rw [List.mem_flatMap] at hu
  obtain ⟨c, _, hc⟩ := hu
  simp only [List.mem_cons, List.not_mem_nil, or_false] at hc
  rcases hc with rfl | rfl | rfl | rfl <;> rfl
theorem one_cellsS (l : List ByteArray) : ∀ u ∈ cellsS l, u.oneCell' = true := by
  intro u hu
  obtain ⟨c, _, rfl⟩ := List.mem_map.1 hu
  rfl

set_option maxRecDepth 100000 in
set_option maxHeartbeats 1000000 in
theorem cloneC_any {l : List C} {v : Value} {W : World} (h : RdC W v l) (hl : l.length ≤ 1000) : Calls Tryz.prog 63 #[v] W fun e w' => ∃ v', e = .returned v' ∧ HRow w' W.heap.size 54 4 v' l.length (cellsC l) ∧ Below W.heap.size W w' := by
  obtain ⟨i0, hi, hz0, hz1, hz2⟩ := info_parts info43
  have q31 : ∀ (w : World) (a : Option Addr) (n c n' c' : Nat), (binOp .eql 43 (.slice a n c) (.slice none n' c')).run Tryz.prog w = .ok (.bool a.isNone) w := fun w a n c n' c' => Lib.run_eql_slice_nil w _ _ a n c n' c' Tryz.underlying43
  obtain ⟨p, cap, rfl, hc, hm⟩ := h.slice
  rcases Rd.spot h with rfl | ⟨b, off, rfl⟩
  · have h0 : l.length = 0 := by
      rcases Nat.eq_zero_or_pos l.length with h0 | h0
      · exact h0
      · obtain ⟨_, _, e, _⟩ := Rd.at h h0; cases e
    have hl0 : l = [] := List.eq_nil_of_length_eq_zero h0
    subst hl0
    go_enter Tryz.func63, Tryz.ntmps63
    go_wp2_with fail
    go_ret
    exact ⟨_, rfl, HRow.nil, Below.refl _ _⟩
  · have hcell : ∀ j u, (cellsC l)[j]? = some u → W.cell? ⟨b, off + j, none⟩ = some u := fun j u hj => by
      have hn : 0 < l.length := by
        rcases Nat.eq_zero_or_pos l.length with h0 | h0
        · rw [List.eq_nil_of_length_eq_zero h0] at hj; simp [cellsC] at hj
        · exact h0
      obtain ⟨b', off', e, _, h3⟩ := Rd.at h hn
      cases e
      exact h3 j u hj
    have hlen := cellsC_len l
    have hone := one_cellsC l
    obtain ⟨n, hn⟩ : ∃ n, l.length = n := ⟨_, rfl⟩
    rw [hn] at hlen hl ⊢
    generalize cellsC l = news at hcell hlen hone ⊢
    have A := Lib.hid hcell
    clear hcell h hc hn
    unfold maxLen at hm
    go_enter Tryz.func63, Tryz.ntmps63
    go_wp2_with (at_builtin; refine wpList_append_own _ rfl _ _ 43 rfl W.heap.size 54 i0 _ 4 48 Tryz.underlying43 hi hz0 hz1 hz2 rfl (by decide) _ _ _ rfl (World.ownsRow_made W #[] 0 (Nat.le_refl _) (Nat.zero_le _) (by simp)) ⟨b, off, none⟩ n cap news rfl ?qc1 ?qc2 ?qc3 ?qc4 ?qc5 ?qc6 ?_)
    case qc1 => exact hlen
    case qc2 =>
      intro j u hj
      rw [Addr.add_lit]
      exact Lib.cell?_alloc_some _ (A.out j u hj)
    case qc3 => exact hone
    case qc4 => rw [Nat.zero_add]; unfold maxLen; omega
    case qc5 => rw [Nat.zero_add]; omega
    case qc6 => simp
    intro v' w1 hown hgrow hnil
    go_wp2
    go_ret
    refine ⟨v', rfl, HRow.of_own (by simpa using hown), ?_⟩
    exact ((Below.refl _ W).alloc (Nat.le_refl _) _).grown hgrow (by simp) (by intro k hk; simp [Value.ownBlock] at hk; omega)
theorem cellsS_len (l : List ByteArray) : (cellsS l).length = l.length * 1 := by simp [cellsS]
set_option maxRecDepth 100000 in
set_option maxHeartbeats 1000000 in
theorem cloneS_any {l : List ByteArray} {v : Value} {W : World} (h : RdS W v l) (hl : l.length ≤ 1000) : Calls Tryz.prog 64 #[v] W fun e w' => ∃ v', e = .returned v' ∧ HRow w' W.heap.size 9 1 v' l.length (cellsS l) ∧ Below W.heap.size W w' := by
  obtain ⟨i0, hi, hz0, hz1, hz2⟩ := info_parts info9
  have q36 : ∀ (w : World) (a : Option Addr) (n c n' c' : Nat), (binOp .eql 24 (.slice a n c) (.slice none n' c')).run Tryz.prog w = .ok (.bool a.isNone) w := fun w a n c n' c' => Lib.run_eql_slice_nil w _ _ a n c n' c' Tryz.underlying24
  obtain ⟨p, cap, rfl, hc, hm⟩ := h.slice
  rcases Rd.spot h with rfl | ⟨b, off, rfl⟩
  · have h0 : l.length = 0 := by
      rcases Nat.eq_zero_or_pos l.length with h0 | h0
      · exact h0
      · obtain ⟨_, _, e, _⟩ := Rd.at h h0; cases e
    have hl0 : l = [] := List.eq_nil_of_length_eq_zero h0
    subst hl0
    go_enter Tryz.func64, Tryz.ntmps64
    go_wp2_with fail
    go_ret
    exact ⟨_, rfl, HRow.nil, Below.refl _ _⟩
  · have hcell : ∀ j u, (cellsS l)[j]? = some u → W.cell? ⟨b, off + j, none⟩ = some u := fun j u hj => by
      have hn : 0 < l.length := by
        rcases Nat.eq_zero_or_pos l.length with h0 | h0
        · rw [List.eq_nil_of_length_eq_zero h0] at hj; simp [cellsS] at hj
        · exact h0
      obtain ⟨b', off', e, _, h3⟩ := Rd.at h hn
      cases e
      exact h3 j u hj
    have hlen := cellsS_len l
    have hone := one_cellsS l
    obtain ⟨n, hn⟩ : ∃ n, l.length = n := ⟨_, rfl⟩
    rw [hn] at hlen hl ⊢
    generalize cellsS l = news at hcell hlen hone ⊢
    have A := Lib.hid hcell
    clear hcell h hc hn
    unfold maxLen at hm
    go_enter Tryz.func64, Tryz.ntmps64
    go_wp2_with (at_builtin; refine wpList_append_own _ rfl _ _ 24 rfl W.heap.size 9 i0 _ 1 16 Tryz.underlying24 hi hz0 hz1 hz2 rfl (by decide) _ _ _ rfl (World.ownsRow_made W #[] 0 (Nat.le_refl _) (Nat.zero_le _) (by simp)) ⟨b, off, none⟩ n cap news rfl ?qc1 ?qc2 ?qc3 ?qc4 ?qc5 ?qc6 ?_)
    case qc1 => exact hlen
    case qc2 =>
      intro j u hj
      rw [Addr.add_lit]
      exact Lib.cell?_alloc_some _ (A.out j u hj)
    case qc3 => exact hone
    case qc4 => rw [Nat.zero_add]; unfold maxLen; omega
    case qc5 => rw [Nat.zero_add]; omega
    case qc6 => simp
    intro v' w1 hown hgrow hnil
    go_wp2
    go_ret
    refine ⟨v', rfl, HRow.of_own (by simpa using hown), ?_⟩
    exact ((Below.refl _ W).alloc (Nat.le_refl _) _).grown hgrow (by simp) (by intro k hk; simp [Value.ownBlock] at hk; omega)

theorem info53 : (Tryz.prog.info? 70).map (fun i => (i.zero, i.size, i.bytes)) = some (some (.agg #[.slice none 0 0, .string e0]), 2, 40) := by kernel_rfl
theorem info34 : (Tryz.prog.info? 46).map (fun i => (i.zero, i.size, i.bytes)) = some (some (.agg #[.string e0, .slice none 0 0, .string e0, .slice none 0 0]), 4, 80) := by kernel_rfl
/-- append of one element. -/
theorem app_one {t ty e : TypeId} {z : Value} {size bytes : Nat} (ht : Tryz.prog.underlying t = some (.slice e)) (hinf : (Tryz.prog.info? e).map (fun i => (i.zero, i.size, i.bytes)) = some (some z, size, bytes)) (hzs : z.cells.size = size) (hsz : 0 < size) (hby : bytes ≤ 80)
    (y : World) (base : Nat) {v : Value} {m : Nat} {xs : List Value} (hr : HRow y base e size v m xs) (hm : m + 1 ≤ 1000000) (hb : base ≤ y.heap.size) (cs : Array Value) (hcs : cs.size = size) (h1 : ∀ u ∈ cs.toList, u.oneCell' = true) :
    ∃ g cap w', (Builtin.append_ #[t, t] ty #[v, .slice (some ⟨y.heap.size, 0, none⟩) 1 1]).run Tryz.prog (y.alloc (.cells cs e)) = .ok (.slice (some ⟨g, 0, none⟩) (m + 1) cap) w' ∧
      HRow w' base e size (.slice (some ⟨g, 0, none⟩) (m + 1) cap) (m + 1) (xs ++ cs.toList) ∧ y.grownBy w' v.ownBlock ∧ (v.ownBlock = some g ∨ y.heap.size ≤ g) := by
  obtain ⟨i0, hi0, hz0, hz1, hz2⟩ := info_parts hinf
  have hh := heap_alloc_new y (.cells cs e)
  have hmul : (m + 1) * bytes ≤ 140737488355328 := by
    have : (m + 1) * bytes ≤ 1000000 * 80 := Nat.mul_le_mul hm hby
    omega
  obtain ⟨g, cap, w', h1', h2, h3, h4⟩ := run_append_has (P := Tryz.prog) (y.alloc (.cells cs e)) base t ty e i0 z size bytes ht hi0 hz0 hz1 hz2 hzs hsz (hr.later (below_alloc y _)) ⟨y.heap.size, 0, none⟩ 1 1 cs.toList (by simpa using hcs)
    (by exact World.news_of_block hh) h1 (by decide) (by unfold maxLen; omega) hmul (by rw [World.size_alloc]; omega)
  exact ⟨g, cap, w', h1', h2, ⟨h3.os, h3.tape, h3.output, Nat.le_trans (by simp) h3.size, fun q hq hne => (h3.block q (by simp; omega) hne).trans ((below_alloc y _).block q hq)⟩, h4.imp id (fun h => by rw [World.size_alloc] at h; omega)⟩
/-- Of what lies below n nothing turned, where a row of blocks from n on did. -/
theorem below_row {n base : Nat} {A B : World} {nv : Value} {e : TypeId} {sz m : Nat} {xs : List Value} (hr : HRow A base e sz nv m xs) (hg : A.grownBy B nv.ownBlock) (hn : n ≤ base) (hs : n ≤ A.heap.size) : Below n A B :=
  ⟨hg.os, hg.tape, hg.output, hg.size, fun q hq => hg.block q (by omega) (fun e => by have := (hr.lt q e.symm).1; omega)⟩

/-- A table whose lists are the call's own, each in a block of its own kind. -/
structure OwnT (w : World) (base : Nat) (cv dv : Value) (t : T) (ps : List Value) : Prop where
  c : HRow w base 54 4 cv t.cols.length (cellsC t.cols)
  n : ps.length = t.deps.length
  d : HRow w base 70 2 dv t.deps.length (cellsD ps t.deps)
  l : ∀ j (h : j < ps.length) (h' : j < t.deps.length), HRow w base 9 1 ps[j] t.deps[j].left.length (cellsS t.deps[j].left)
theorem OwnT.rd {w : World} {base : Nat} {cv dv : Value} {t : T} {ps : List Value} (h : OwnT w base cv dv t ps) : RdT w cv dv t :=
  ⟨HRow.rd h.c (by decide) (by decide), ps, h.n, HRow.rd h.d (by decide) (by decide), fun j a b => HRow.rd (h.l j a b) (by decide) (by decide)⟩
theorem OwnT.later {w w' : World} {base : Nat} {cv dv : Value} {t : T} {ps : List Value} (h : OwnT w base cv dv t ps) (hb : Below w.heap.size w w') : OwnT w' base cv dv t ps :=
  ⟨h.c.later hb, h.n, h.d.later hb, fun j a b => (h.l j a b).later hb⟩
/-- Few enough to be copied. -/
def Few (t : T) : Prop := t.cols.length ≤ 1000 ∧ t.deps.length ≤ 1000 ∧ ∀ d ∈ t.deps, d.left.length ≤ 1000
end Go.Proofs.YtmfkkpogmmoflaaGreat
namespace Go.Proofs.YtmfkkpogmmoflaaGreat
open Go Go.RowKit Go.Proofs

theorem below_drew (W : World) : Below W.heap.size W W.drew := below_drewN W 1
theorem HRow.beside {w w' : World} {base base' : Nat} {e e' : TypeId} {s s' : Nat} {v v' : Value} {n n' : Nat} {xs xs' : List Value} (h : HRow w base e s v n xs) (hr : HRow w base' e' s' v' n' xs') (hne : e ≠ e') (hg : w.grownBy w' v'.ownBlock) : HRow w' base e s v n xs :=
  h.of (fun k hk => hg.block k (h.lt k hk).2 (fun eq => by
    obtain ⟨_, c1, h1⟩ := h.block k hk
    obtain ⟨_, c2, h2⟩ := hr.block k eq.symm
    rw [h1] at h2
    cases h2
    exact hne rfl))
/-- What copied keeps behind its first steps. -/
structure CopyI (S : Nat) (W : World) (t : T) (cv dv : Value) (w : World) : Prop where
  box : w.heap[S]? = some (boxT t.nm cv t.key dv)
  res : w.heap[S + 1]? = some (boxT e0 (.slice none 0 0) e0 (.slice none 0 0))
  c : HRow w (S + 2) 54 4 cv t.cols.length (cellsC t.cols)
  below : Below S W w
section
variable {S : Nat} {W w w' : World} {t : T} {cv dv : Value}
theorem CopyI.sz (h : CopyI S W t cv dv w) : S + 2 ≤ w.heap.size := lt_of_heap h.res
theorem CopyI.on (h : CopyI S W t cv dv w) (hb : Below w.heap.size w w') : CopyI S W t cv dv w' :=
  ⟨heap_on hb h.box, heap_on hb h.res, h.c.later hb, h.below.trans (hb.mono (by have := h.sz; omega))⟩
theorem CopyI.grown (h : CopyI S W t cv dv w) {v : Value} {n : Nat} {xs : List Value} (hr : HRow w (S + 2) 70 2 v n xs) (hg : w.grownBy w' v.ownBlock) : CopyI S W t cv dv w' := by
  have hb := below_row (n := S + 2) hr hg (Nat.le_refl _) h.sz
  exact ⟨(hb.block S (by omega)).trans h.box, (hb.block (S + 1) (by omega)).trans h.res, h.c.beside hr (by decide) hg, h.below.trans (hb.mono (by omega))⟩
theorem CopyI.cells (h : CopyI S W t cv dv w) : S < w.heap.size ∧ w.cell? ⟨S, 0, none⟩ = some (.string t.nm) ∧ w.cell? ⟨S, 1, none⟩ = some cv ∧ w.cell? ⟨S, 2, none⟩ = some (.string t.key) ∧ w.cell? ⟨S, 3, none⟩ = some dv :=
  ⟨lt_of_heap h.box, nd_cell h.box 0, nd_cell h.box 1, nd_cell h.box 2, nd_cell h.box 3⟩
end
/-- The deps that are copied so far. -/
structure DepsI (w : World) (base : Nat) (v : Value) (ds : List D) (ps : List Value) : Prop where
  n : ps.length = ds.length
  d : HRow w base 70 2 v ds.length (cellsD ps ds)
  l : ∀ j (h : j < ps.length) (h' : j < ds.length), HRow w base 9 1 ps[j] ds[j].left.length (cellsS ds[j].left)
theorem DepsI.later {w w' : World} {base : Nat} {v : Value} {ds : List D} {ps : List Value} (h : DepsI w base v ds ps) (hb : Below w.heap.size w w') : DepsI w' base v ds ps := ⟨h.n, h.d.later hb, fun j a b => (h.l j a b).later hb⟩
theorem DepsI.snoc {y w' : World} {base : Nat} {v v' lv : Value} {ds : List D} {ps : List Value} {d : D} (h : DepsI y base v ds ps) (hl : HRow y base 9 1 lv d.left.length (cellsS d.left))
    (hr : HRow w' base 70 2 v' (ds.length + 1) (cellsD ps ds ++ [lv, .string d.right])) (hg : y.grownBy w' v.ownBlock) : DepsI w' base v' (ds ++ [d]) (ps ++ [lv]) := by
  refine ⟨by simp [h.n], ?_, fun j a b => ?_⟩
  · rw [cellsD_append _ _ _ _ h.n, List.length_append]; exact hr
  · by_cases e : j < ps.length
    · have e' : j < ds.length := by rw [← h.n]; exact e
      simp only [List.getElem_append_left e, List.getElem_append_left e']
      exact (h.l j e e').beside h.d (by decide) hg
    · have e2 : j = ps.length := by simp at a; omega
      have e3 : j = ds.length := by rw [← h.n]; exact e2
      have k1 : (ps ++ [lv])[j] = lv := by subst e2; simp
      have k2 : (ds ++ [d])[j] = d := by subst e3; simp
      rw [k1, k2]
      exact hl.beside h.d (by decide) hg

theorem DepsI.nil (w : World) (base : Nat) : DepsI w base (.slice none 0 0) [] [] := ⟨rfl, HRow.nil, fun j h => absurd h (Nat.not_lt_zero j)⟩
theorem HRow.mono {w : World} {b b' : Nat} {e : TypeId} {s : Nat} {v : Value} {n : Nat} {xs : List Value} (h : HRow w b e s v n xs) (hb : b' ≤ b) : HRow w b' e s v n xs := by
  refine ⟨h.1, ?_⟩
  rcases h.2 with h2 | ⟨g, cap, cur, h1, h3, h4⟩
  · exact .inl h2
  · exact .inr ⟨g, cap, cur, h1, Nat.le_trans hb h3, h4⟩
theorem copied_step {S : Nat} {W w1 y : World} {t : T} {cv dv v lv : Value} {ds : List D} {ps : List Value} {d : D} (hI : CopyI S W t cv dv w1) (hD : DepsI w1 (S + 2) v ds ps) (hb : Below w1.heap.size w1 y)
    (hl : HRow y w1.heap.size 9 1 lv d.left.length (cellsS d.left)) (hn : ds.length ≤ 1000) : ∃ g cap w3, (Builtin.append_ #[44, 44] 44 #[v, .slice (some ⟨y.heap.size, 0, none⟩) 1 1]).run Tryz.prog (y.alloc (.cells #[lv, .string d.right] 70)) = .ok (.slice (some ⟨g, 0, none⟩) (ds.length + 1) cap) w3 ∧
      CopyI S W t cv dv w3 ∧ DepsI w3 (S + 2) (.slice (some ⟨g, 0, none⟩) (ds.length + 1) cap) (ds ++ [d]) (ps ++ [lv]) := by
  have hI2 := hI.on hb
  have hD2 := hD.later hb
  obtain ⟨p, c, hlv, _, _⟩ := hl.isslice
  obtain ⟨g, cap, w3, h1, h2, h3, h4⟩ := app_one (ty := 44) Tryz.underlying44 info53 (by kernel_rfl) (by decide) (by decide) y (S + 2) hD2.d (by omega) hI2.sz #[lv, .string d.right] rfl (by
    intro u hu
    simp only [List.mem_cons, List.not_mem_nil, or_false] at hu
    rcases hu with rfl | rfl
    · rw [hlv]; rfl
    · rfl)
  exact ⟨g, cap, w3, h1, hI2.grown hD2.d h3, hD2.snoc (hl.mono hI.sz) h2 h3⟩
theorem OwnT.of {w w' : World} {base : Nat} {cv dv : Value} {t : T} {ps : List Value} (h : OwnT w base cv dv t ps) (hk : ∀ q : Nat, base ≤ q → w'.heap[q]? = w.heap[q]?) : OwnT w' base cv dv t ps :=
  ⟨h.c.of (fun k e => hk k (h.c.lt k e).1), h.n, h.d.of (fun k e => hk k (h.d.lt k e).1), fun j a b => (h.l j a b).of (fun k e => hk k ((h.l j a b).lt k e).1)⟩
theorem set4_other (x : World) (b q : Nat) (h : q ≠ b) (a c d e : Value) : ((((x.setCell ⟨b, 0, none⟩ a).setCell ⟨b, 1, none⟩ c).setCell ⟨b, 2, none⟩ d).setCell ⟨b, 3, none⟩ e).heap[q]? = x.heap[q]? := by
  have hs : ∀ (y : World) (i : Nat) (u : Value), (y.setCell ⟨b, i, none⟩ u).heap[q]? = y.heap[q]? := fun y i u => heap_setCell_other y ⟨b, i, none⟩ q u h
  rw [hs, hs, hs, hs]
set_option maxRecDepth 100000 in
set_option maxHeartbeats 2000000 in
theorem copied_any {t : T} {cv dv : Value} {W : World} (h : RdT W cv dv t) (hf : Few t) : Calls Tryz.prog 39 #[.agg #[.string t.nm, cv, .string t.key, dv]] W fun e w' => ∃ p1 c1 p2 c2 ps, e = .returned (.agg #[.string t.nm, .slice p1 t.cols.length c1, .string t.key, .slice p2 t.deps.length c2]) ∧
    OwnT w' (W.heap.size + 2) (.slice p1 t.cols.length c1) (.slice p2 t.deps.length c2) t ps ∧ Below W.heap.size W w' := by
  obtain ⟨pc, cc, hcv, hc1, hc2⟩ := h.1.slice
  obtain ⟨p, cap, hdv, hc3, hc4⟩ := h.2.slice
  obtain ⟨n, hn⟩ : ∃ n, t.cols.length = n := ⟨_, rfl⟩
  obtain ⟨nd, hnd⟩ : ∃ n, t.deps.length = n := ⟨_, rfl⟩
  obtain ⟨S, hS⟩ : ∃ S, W.heap.size = S := ⟨_, rfl⟩
  have hb1 := below_alloc W (boxT t.nm cv t.key dv)
  have hb2 := hb1.alloc hb1.size (boxT e0 (.slice none 0 0) e0 (.slice none 0 0))
  have k0 := alloc_old (u := boxT e0 (.slice none 0 0) e0 (.slice none 0 0)) (heap_alloc_new W (boxT t.nm cv t.key dv))
  have k1 := heap_alloc_new (W.alloc (boxT t.nm cv t.key dv)) (boxT e0 (.slice none 0 0) e0 (.slice none 0 0))
  rw [hS] at k0
  rw [World.size_alloc, hS] at k1
  have hcl := cloneC_any (h.1.later hb2) hf.1
  have hsz : ((W.alloc (boxT t.nm cv t.key dv)).alloc (boxT e0 (.slice none 0 0) e0 (.slice none 0 0))).heap.size = S + 2 := by rw [World.size_alloc, World.size_alloc, hS]
  obtain ⟨w0, hw0⟩ : ∃ w0, (W.alloc (boxT t.nm cv t.key dv)).alloc (boxT e0 (.slice none 0 0) e0 (.slice none 0 0)) = w0 := ⟨_, rfl⟩
  rw [hw0] at k0 k1 hb2 hcl hsz
  rw [hsz, hn] at hcl
  rw [hS] at hb2
  rw [hnd] at hdv hc3
  rw [hn] at hcv
  unfold maxLen at hc4
  have HW := Lib.hid hw0
  have HS := Lib.hid hS
  have HB := Lib.hid (And.intro k0 (And.intro k1 (And.intro hb2 hsz)))
  have HN := Lib.hid (And.intro hn hnd)
  have HR := Lib.hid (And.intro h.2 hf.2)
  have z1 := nd_cell k0 1
  have zf := frozen_of_row w0 S 1 _ _ k0
  have zl := lt_of_heap k0
  subst hcv hdv
  clear h hf hw0 hS k0 k1 hb1 hb2 hsz
  go_enter Tryz.func39, Tryz.ntmps39
  go_upto_region 1 with fail
  rw [HW.out, HS.out]
  go_upto_region 2 with (go_at_call 63; (with_reducible refine hcl.mono ?_); rintro e y1 ⟨v', rfl, hr, hb⟩; obtain ⟨pv, cv', rfl, _, _⟩ := HRow.isslice hr; have hbx := (hb.block S (by omega)).trans HB.out.1; have z1 := nd_cell hbx 1; have zf := frozen_of_row y1 S 1 _ _ hbx; have zl := lt_of_heap hbx; have H1 := Lib.hid (And.intro hr (And.intro hb hbx)); clear hr hb hbx)
  have hI : CopyI S W t (.slice pv n cv') (.slice p nd cap) (y1.setCell ⟨S, 1, none⟩ (.slice pv n cv')) := by
    have hne : ∀ (q : Nat), q ≠ S → (y1.setCell ⟨S, 1, none⟩ (.slice pv n cv')).heap[q]? = y1.heap[q]? := fun q h => heap_setCell_other y1 ⟨S, 1, none⟩ q _ h
    refine ⟨heap_setCell_same _ S 1 _ _ _ H1.out.2.2, (hne _ (by omega)).trans ((H1.out.2.1.block (S + 1) (by omega)).trans HB.out.2.1), ?_, ?_⟩
    · rw [HN.out.1]
      exact H1.out.1.of (fun k hk => hne k (by have := (H1.out.1.lt k hk).1; omega))
    · exact (HB.out.2.2.1.trans (H1.out.2.1.mono (by omega))).setCell (p := ⟨S, 1, none⟩) (Nat.le_refl _) _
  obtain ⟨y2, hy2⟩ : ∃ y2, y1.setCell ⟨S, 1, none⟩ (.slice pv n cv') = y2 := ⟨_, rfl⟩
  rw [hy2] at hI ⊢
  clear hy2 H1 hcl
  have c3 := hI.cells.2.2.2.2
  have HI := Lib.hid hI
  clear hI
  have ent42 : ∀ a w, (callFunc 64 a).run Tryz.prog w = .ok (.enter 64 a) w := by intro a w; rfl
  go_wp2_with fail
  clear c3
  go_loopg [3, 13] (nd + 1) (fun gh v jv w => ∃ (j : Nat) (ps : List Value), jv = .int .i64 (j : Int) ∧ j ≤ nd ∧ nd + 1 ≤ j + gh ∧ CopyI S W t (.slice pv n cv') (.slice p nd cap) w ∧ DepsI w (S + 2) v (t.deps.take j) ps)
  case atStart => exact ⟨0, [], rfl, Nat.zero_le _, by omega, HI.out, DepsI.nil _ _⟩
  case round =>
    obtain ⟨j, ps, rfl, hj, hg, hK, hD⟩ := hrel
    have hlen : (t.deps.take j).length = j := by rw [List.length_take, HN.out.2]; omega
    have hj1 := HR.out.2.1
    rw [HN.out.2] at hj1
    obtain ⟨pd, cd, hv, _, _⟩ := HRow.isslice hD.d
    rw [hlen] at hv
    subst hv
    by_cases hlt : j < nd
    · have hjl : j < t.deps.length := by rw [HN.out.2]; exact hlt
      have hsrc : RdD wr (.slice p nd cap) t.deps := HR.out.1.later (hK.below.mono (Nat.le_of_eq HS.out))
      obtain ⟨b, off, lv, rfl, hb, c0, c1, hlv⟩ := RdD.dep hsrc hjl
      obtain ⟨d, hdj⟩ : ∃ d, t.deps[j] = d := ⟨_, rfl⟩
      have htk : t.deps.take (j + 1) = t.deps.take j ++ [d] := by rw [List.take_succ_eq_append_getElem hjl, hdj]
      have hdl : d.left.length ≤ 1000 := HR.out.2.2 d (by rw [← hdj]; exact List.getElem_mem _)
      rw [hdj] at c1 hlv
      obtain ⟨pl, cl, rfl, _, _⟩ := hlv.slice
      have hnew := heap_alloc_new wr (.cells #[.slice pl d.left.length cl, .string d.right] 70)
      have hbn := below_alloc wr (.cells #[.slice pl d.left.length cl, .string d.right] 70)
      have hcs := cloneS_any ((hlv.later hbn).later (below_drew _)) hdl
      have K1 := Lib.hid (And.intro ((hK.on hbn).on (below_drew _)) (And.intro ((hD.later hbn).later (below_drew _)) (And.intro (heap_on (below_drew _) hnew) htk)))
      have HL := Lib.hid hlen
      clear hdj hsrc hlv hdl hK hD hnew hbn hlen htk
      go_upto_region 6 with fail
      obtain ⟨nl, hnl⟩ : ∃ m, d.left.length = m := ⟨_, rfl⟩
      obtain ⟨w1, hw1⟩ : ∃ w1, wr.alloc (.cells #[.slice pl d.left.length cl, .string d.right] 70) = w1 := ⟨_, rfl⟩
      obtain ⟨S1, hS1⟩ : ∃ S1, wr.heap.size = S1 := ⟨_, rfl⟩
      rw [hw1, hS1] at K1
      rw [hw1] at hcs
      rw [hw1, hS1]
      clear hw1 hS1 c0 c1 hb
      rw [hnl] at hcs K1 ⊢
      have HNL := Lib.hid hnl
      clear hnl
      have x0 := nd_cell K1.out.2.2.1 0
      have x1 := nd_cell K1.out.2.2.1 1
      have xl := lt_of_heap K1.out.2.2.1
      go_region_law (first
        | (refine step_call ent42 [.slice pl nl cl] (by simp [Act.eval]) ?_; (with_reducible refine Calls.mono hcs ?_); rintro e y2 ⟨lv', rfl, hr2, hb2⟩; obtain ⟨pv2, cv2, rfl, _, _⟩ := HRow.isslice hr2; have q2 := heap_on hb2 K1.out.2.2.1; have q0 := nd_cell q2 1; have ql := lt_of_heap q2; obtain ⟨g, cap', w3, hrun, I3, D3⟩ := copied_step (d := d) K1.out.1 K1.out.2.1 hb2 (by rw [HNL.out]; exact hr2) (by rw [HL.out]; omega); rw [HL.out] at hrun D3; have H3 := Lib.hid (And.intro I3 D3); clear I3 D3 hr2 hb2 q2 hcs; refine ⟨_, rfl, ?_⟩)
        | refine step_append_run rfl (.tmp 17) (.tmp 24) 44 rfl rfl rfl hrun ?_)
      all_goals
        go_wp2_with fail
        go_roundg (nd - j)
        case measure => omega
        case rel => exact ⟨j + 1, _, by go_num, by omega, by omega, H3.out.1, by rw [K1.out.2.2.2]; exact H3.out.2⟩
    · obtain rfl : j = nd := by omega
      have htk : t.deps.take j = t.deps := List.take_of_length_le (by rw [HN.out.2]; exact Nat.le_refl _)
      rw [htk] at hD
      have hbox := hK.box
      have hres := hK.res
      have z0 := nd_cell hbox 0
      have z1 := nd_cell hbox 1
      have z2 := nd_cell hbox 2
      have z3 := nd_cell hbox 3
      have zf := fun i => frozen_of_row wr S i _ _ hbox
      have zl := lt_of_heap hbox
      have r0 := nd_cell hres 0
      have r1 := nd_cell hres 1
      have r2 := nd_cell hres 2
      have r3 := nd_cell hres 3
      have rf := fun i => frozen_of_row wr (S + 1) i _ _ hres
      have rl := lt_of_heap hres
      have HK := Lib.hid (And.intro hK hD)
      clear hK hD hbox hres htk hlen
      go_wp2_with fail
      obtain ⟨wa, hwa⟩ : ∃ wa, wr.setCell ⟨S, 3, none⟩ (.slice pd j cd) = wa := ⟨_, rfl⟩
      have ha : ∀ q : Nat, q ≠ S → wa.heap[q]? = wr.heap[q]? := fun q h => by rw [← hwa]; exact heap_setCell_other wr ⟨S, 3, none⟩ q _ h
      have hab : Below S W wa := by rw [← hwa]; exact HK.out.1.below.setCell (p := ⟨S, 3, none⟩) (Nat.le_refl _) _
      have hra := (ha (S + 1) (by omega)).trans HK.out.1.res
      rw [hwa]
      clear hwa
      have hS4 := set4 hra (.string t.nm) (.slice pv n cv') (.string t.key) (.slice pd j cd)
      have hBx := below_set4 hab (show S ≤ S + 1 by omega) (.string t.nm) (.slice pv n cv') (.string t.key) (.slice pd j cd)
      have hO := set4_other wa (S + 1)
      have ho : ∀ q : Nat, S + 2 ≤ q → ((((wa.setCell ⟨S + 1, 0, none⟩ (.string t.nm)).setCell ⟨S + 1, 1, none⟩ (.slice pv n cv')).setCell ⟨S + 1, 2, none⟩ (.string t.key)).setCell ⟨S + 1, 3, none⟩ (.slice pd j cd)).heap[q]? = wr.heap[q]? := fun q h => (hO q (by omega) _ _ _ _).trans (ha q (by omega))
      generalize (((wa.setCell _ _).setCell _ _).setCell _ _).setCell _ _ = wz at hS4 hBx ho ⊢
      have y0 := nd_cell hS4 0
      have y1 := nd_cell hS4 1
      have y2 := nd_cell hS4 2
      have y3 := nd_cell hS4 3
      refine bodyPost_ret (v := .agg #[.string t.nm, (.slice pv n cv'), .string t.key, (.slice pd j cd)]) (by simp [results, Tryz.results39, go_sem, y0, y1, y2, y3]) rfl ?_
      rw [HN.out.1, HN.out.2, HS.out]
      have hOwn : OwnT wr (S + 2) (.slice pv n cv') (.slice pd j cd) t ps := ⟨HK.out.1.c, HK.out.2.n, HK.out.2.d, HK.out.2.l⟩
      exact ⟨_, _, _, _, ps, rfl, hOwn.of ho, hBx⟩
end Go.Proofs.YtmfkkpogmmoflaaGreat
