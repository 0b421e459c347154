/- Clone. -/
import Derived.Test.YtcgceigcegddlaaGG
import Derived.Lib.SliceRun
import Derived.Lib.Walk
namespace Go.Proofs.Ytcgceigcegddlaa
open Go Go.RowKit Go.Proofs

theorem info43 : (Try.prog.info? 33).map (fun i => (i.zero, i.size, i.bytes)) = some (some (.agg #[.string e0, .int .i64 0, .bool false, .string e0]), 4, 48) := by kernel_rfl
theorem info9 : (Try.prog.info? 9).map (fun i => (i.zero, i.size, i.bytes)) = some (some (.string e0), 1, 16) := by kernel_rfl
theorem one_cellsC (l : List C) : ∀ u ∈ cellsC l, u.oneCell' = true := by
  intro u hu
  unfold cellsC at hu
  rw [List.mem_flatMap] at hu
  obtain ⟨c, _, hc⟩ := hu
  simp only [List.mem_cons, List.not_mem_nil, or_false] at hc
  rcases hc with rfl | rfl | rfl | rfl <;> rfl
theorem one_cellsS (l : List ByteArray) : ∀ u ∈ cellsS l, u.oneCell' = true := by
  intro u hu
  obtain ⟨c, _, rfl⟩ := List.mem_map.1 hu
  rfl

set_option maxRecDepth 100000 in
set_option maxHeartbeats 1000000 in
theorem cloneC_any {l : List C} {v : Value} {W : World} (h : RdC W v l) (hl : l.length ≤ 1000) : Calls Try.prog 63 #[v] W fun e w' => ∃ v', e = .returned v' ∧ HRow w' W.heap.size 33 4 v' l.length (cellsC l) ∧ Below W.heap.size W w' := by
  obtain ⟨i0, hi, hz0, hz1, hz2⟩ := info_parts info43
  have q31 : ∀ (w : World) (a : Option Addr) (n c n' c' : Nat), (binOp .eql 50 (.slice a n c) (.slice none n' c')).run Try.prog w = .ok (.bool a.isNone) w := fun w a n c n' c' => Lib.run_eql_slice_nil w _ _ a n c n' c' Try.underlying50
  obtain ⟨p, cap, rfl, hc, hm⟩ := h.slice
  rcases Rd.spot h with rfl | ⟨b, off, rfl⟩
  · have h0 : l.length = 0 := by
      rcases Nat.eq_zero_or_pos l.length with h0 | h0
      · exact h0
      · obtain ⟨_, _, e, _⟩ := Rd.at h h0; cases e
    have hl0 : l = [] := List.eq_nil_of_length_eq_zero h0
    subst hl0
    go_enter Try.func63, Try.ntmps63
    go_wp2_with fail
    go_ret
    exact ⟨_, rfl, HRow.nil, Below.refl _ _⟩
  · have hcell : ∀ j u, (cellsC l)[j]? = some u → W.cell? ⟨b, off + j, none⟩ = some u := fun j u hj => by
      have hn : 0 < l.length := by
        rcases Nat.eq_zero_or_pos l.length with h0 | h0
        · rw [List.eq_nil_of_length_eq_zero h0] at hj; simp [cellsC] at hj
        · exact h0
      obtain ⟨b', off', e, _, h3⟩ := Rd.at h hn
      cases e
      exact h3 j u hj
    have hlen := cellsC_len l
    have hone := one_cellsC l
    obtain ⟨n, hn⟩ : ∃ n, l.length = n := ⟨_, rfl⟩
    rw [hn] at hlen hl ⊢
    generalize cellsC l = news at hcell hlen hone ⊢
    have A := Lib.hid hcell
    clear hcell h hc hn
    unfold maxLen at hm
    go_enter Try.func63, Try.ntmps63
    go_wp2_with (at_builtin; refine wpList_append_own _ rfl _ _ 50 rfl W.heap.size 33 i0 _ 4 48 Try.underlying50 hi hz0 hz1 hz2 rfl (by decide) _ _ _ rfl (World.ownsRow_made W #[] 0 (Nat.le_refl _) (Nat.zero_le _) (by simp)) ⟨b, off, none⟩ n cap news rfl ?qc1 ?qc2 ?qc3 ?qc4 ?qc5 ?qc6 ?_)
    case qc1 => exact hlen
    case qc2 =>
      intro j u hj
      rw [Addr.add_lit]
      exact Lib.cell?_alloc_some _ (A.out j u hj)
    case qc3 => exact hone
    case qc4 => rw [Nat.zero_add]; unfold maxLen; omega
    case qc5 => rw [Nat.zero_add]; omega
    case qc6 => simp
    intro v' w1 hown hgrow hnil
    go_wp2
    go_ret
    refine ⟨v', rfl, HRow.of_own (by simpa using hown), ?_⟩
    exact ((Below.refl _ W).alloc (Nat.le_refl _) _).grown hgrow (by simp) (by intro k hk; simp [Value.ownBlock] at hk; omega)
theorem cellsS_len (l : List ByteArray) : (cellsS l).length = l.length * 1 := by simp [cellsS]
set_option maxRecDepth 100000 in
set_option maxHeartbeats 1000000 in
theorem cloneS_any {l : List ByteArray} {v : Value} {W : World} (h : RdS W v l) (hl : l.length ≤ 1000) : Calls Try.prog 64 #[v] W fun e w' => ∃ v', e = .returned v' ∧ HRow w' W.heap.size 9 1 v' l.length (cellsS l) ∧ Below W.heap.size W w' := by
  obtain ⟨i0, hi, hz0, hz1, hz2⟩ := info_parts info9
  have q36 : ∀ (w : World) (a : Option Addr) (n c n' c' : Nat), (binOp .eql 23 (.slice a n c) (.slice none n' c')).run Try.prog w = .ok (.bool a.isNone) w := fun w a n c n' c' => Lib.run_eql_slice_nil w _ _ a n c n' c' Try.underlying23
  obtain ⟨p, cap, rfl, hc, hm⟩ := h.slice
  rcases Rd.spot h with rfl | ⟨b, off, rfl⟩
  · have h0 : l.length = 0 := by
      rcases Nat.eq_zero_or_pos l.length with h0 | h0
      · exact h0
      · obtain ⟨_, _, e, _⟩ := Rd.at h h0; cases e
    have hl0 : l = [] := List.eq_nil_of_length_eq_zero h0
    subst hl0
    go_enter Try.func64, Try.ntmps64
    go_wp2_with fail
    go_ret
    exact ⟨_, rfl, HRow.nil, Below.refl _ _⟩
  · have hcell : ∀ j u, (cellsS l)[j]? = some u → W.cell? ⟨b, off + j, none⟩ = some u := fun j u hj => by
      have hn : 0 < l.length := by
        rcases Nat.eq_zero_or_pos l.length with h0 | h0
        · rw [List.eq_nil_of_length_eq_zero h0] at hj; simp [cellsS] at hj
        · exact h0
      obtain ⟨b', off', e, _, h3⟩ := Rd.at h hn
      cases e
      exact h3 j u hj
    have hlen := cellsS_len l
    have hone := one_cellsS l
    obtain ⟨n, hn⟩ : ∃ n, l.length = n := ⟨_, rfl⟩
    rw [hn] at hlen hl ⊢
    generalize cellsS l = news at hcell hlen hone ⊢
    have A := Lib.hid hcell
    clear hcell h hc hn
    unfold maxLen at hm
    go_enter Try.func64, Try.ntmps64
    go_wp2_with (at_builtin; refine wpList_append_own _ rfl _ _ 23 rfl W.heap.size 9 i0 _ 1 16 Try.underlying23 hi hz0 hz1 hz2 rfl (by decide) _ _ _ rfl (World.ownsRow_made W #[] 0 (Nat.le_refl _) (Nat.zero_le _) (by simp)) ⟨b, off, none⟩ n cap news rfl ?qc1 ?qc2 ?qc3 ?qc4 ?qc5 ?qc6 ?_)
    case qc1 => exact hlen
    case qc2 =>
      intro j u hj
      rw [Addr.add_lit]
      exact Lib.cell?_alloc_some _ (A.out j u hj)
    case qc3 => exact hone
    case qc4 => rw [Nat.zero_add]; unfold maxLen; omega
    case qc5 => rw [Nat.zero_add]; omega
    case qc6 => simp
    intro v' w1 hown hgrow hnil
    go_wp2
    go_ret
    refine ⟨v', rfl, HRow.of_own (by simpa using hown), ?_⟩
    exact ((Below.refl _ W).alloc (Nat.le_refl _) _).grown hgrow (by simp) (by intro k hk; simp [Value.ownBlock] at hk; omega)

theorem info53 : (Try.prog.info? 71).map (fun i => (i.zero, i.size, i.bytes)) = some (some (.agg #[.slice none 0 0, .string e0]), 2, 40) := by kernel_rfl
theorem info34 : (Try.prog.info? 53).map (fun i => (i.zero, i.size, i.bytes)) = some (some (.agg #[.string e0, .slice none 0 0, .string e0, .slice none 0 0]), 4, 80) := by kernel_rfl
/-- append of one element. -/
theorem app_one {t ty e : TypeId} {z : Value} {size bytes : Nat} (ht : Try.prog.underlying t = some (.slice e)) (hinf : (Try.prog.info? e).map (fun i => (i.zero, i.size, i.bytes)) = some (some z, size, bytes)) (hzs : z.cells.size = size) (hsz : 0 < size) (hby : bytes ≤ 80)
    (y : World) (base : Nat) {v : Value} {m : Nat} {xs : List Value} (hr : HRow y base e size v m xs) (hm : m + 1 ≤ 1000000) (hb : base ≤ y.heap.size) (cs : Array Value) (hcs : cs.size = size) (h1 : ∀ u ∈ cs.toList, u.oneCell' = true) :
    ∃ g cap w', (Builtin.append_ #[t, t] ty #[v, .slice (some ⟨y.heap.size, 0, none⟩) 1 1]).run Try.prog (y.alloc (.cells cs e)) = .ok (.slice (some ⟨g, 0, none⟩) (m + 1) cap) w' ∧
      HRow w' base e size (.slice (some ⟨g, 0, none⟩) (m + 1) cap) (m + 1) (xs ++ cs.toList) ∧ y.grownBy w' v.ownBlock ∧ (v.ownBlock = some g ∨ y.heap.size ≤ g) := by
  obtain ⟨i0, hi0, hz0, hz1, hz2⟩ := info_parts hinf
  have hh := heap_alloc_new y (.cells cs e)
  have hmul : (m + 1) * bytes ≤ 140737488355328 := by
    have : (m + 1) * bytes ≤ 1000000 * 80 := Nat.mul_le_mul hm hby
    omega
  obtain ⟨g, cap, w', h1', h2, h3, h4⟩ := run_append_has (P := Try.prog) (y.alloc (.cells cs e)) base t ty e i0 z size bytes ht hi0 hz0 hz1 hz2 hzs hsz (hr.later (below_alloc y _)) ⟨y.heap.size, 0, none⟩ 1 1 cs.toList (by simpa using hcs)
    (by exact World.news_of_block hh) h1 (by decide) (by unfold maxLen; omega) hmul (by rw [World.size_alloc]; omega)
  exact ⟨g, cap, w', h1', h2, ⟨h3.os, h3.tape, h3.output, Nat.le_trans (by simp) h3.size, fun q hq hne => (h3.block q (by simp; omega) hne).trans ((below_alloc y _).block q hq)⟩, h4.imp id (fun h => by rw [World.size_alloc] at h; omega)⟩
/-- Of what lies below n nothing turned, where a row of blocks from n on did. -/
theorem below_row {n base : Nat} {A B : World} {nv : Value} {e : TypeId} {sz m : Nat} {xs : List Value} (hr : HRow A base e sz nv m xs) (hg : A.grownBy B nv.ownBlock) (hn : n ≤ base) (hs : n ≤ A.heap.size) : Below n A B :=
  ⟨hg.os, hg.tape, hg.output, hg.size, fun q hq => hg.block q (by omega) (fun e => by have := (hr.lt q e.symm).1; omega)⟩

/-- A table whose lists are the call's own, each in a block of its own kind. -/
structure OwnT (w : World) (base : Nat) (cv dv : Value) (t : T) (ps : List Value) : Prop where
  c : HRow w base 33 4 cv t.cols.length (cellsC t.cols)
  n : ps.length = t.deps.length
  d : HRow w base 71 2 dv t.deps.length (cellsD ps t.deps)
  l : ∀ j (h : j < ps.length) (h' : j < t.deps.length), HRow w base 9 1 ps[j] t.deps[j].left.length (cellsS t.deps[j].left)
theorem OwnT.rd {w : World} {base : Nat} {cv dv : Value} {t : T} {ps : List Value} (h : OwnT w base cv dv t ps) : RdT w cv dv t :=
  ⟨HRow.rd h.c (by decide) (by decide), ps, h.n, HRow.rd h.d (by decide) (by decide), fun j a b => HRow.rd (h.l j a b) (by decide) (by decide)⟩
theorem OwnT.later {w w' : World} {base : Nat} {cv dv : Value} {t : T} {ps : List Value} (h : OwnT w base cv dv t ps) (hb : Below w.heap.size w w') : OwnT w' base cv dv t ps :=
  ⟨h.c.later hb, h.n, h.d.later hb, fun j a b => (h.l j a b).later hb⟩
/-- Few enough to be copied. -/
def Few (t : T) : Prop := t.cols.length ≤ 1000 ∧ t.deps.length ≤ 1000 ∧ ∀ d ∈ t.deps, d.left.length ≤ 1000
end Go.Proofs.Ytcgceigcegddlaa
