/- add, behind the last run. -/
import Derived.Test.YtpdidlnbeahanaaF
import Derived.Deep.AppendLies
namespace Go.Proofs.Ytpdidlnbeahanaa
open Go Go.RowKit Go.Proofs

theorem info56 : (Try.prog.info? 56).map (fun i => (i.zero, i.size, i.bytes)) = some (some (Value.agg #[Value.int .i64 (0), Value.int .i64 (0), Value.int .i64 (0)]), 3, 24) := by kernel_rfl
theorem app_run (y : World) (base : Nat) {v : Value} {n : Nat} {xs : List Value} (hr : HRow y base 56 3 v n xs) (hm : n + 1 ≤ 1000000) (hb : base ≤ y.heap.size) (f t c : Int) :
    ∃ g cap w', (Builtin.append_ #[25, 25] 25 #[v, .slice (some ⟨y.heap.size, 0, none⟩) 1 1]).run Try.prog (y.alloc (.cells #[(Value.int .i64 (f)), (Value.int .i64 (t)), (Value.int .i64 (c))] 56)) = .ok (.slice (some ⟨g, 0, none⟩) (n + 1) cap) w' ∧
      HRow w' base 56 3 (.slice (some ⟨g, 0, none⟩) (n + 1) cap) (n + 1) (xs ++ [(Value.int .i64 (f)), (Value.int .i64 (t)), (Value.int .i64 (c))]) ∧ (y.alloc (.cells #[(Value.int .i64 (f)), (Value.int .i64 (t)), (Value.int .i64 (c))] 56)).grownBy w' v.ownBlock ∧ (v.ownBlock = some g ∨ y.heap.size ≤ g) := by
  obtain ⟨i0, hi0, hz0, hz1, hz2⟩ := info_parts info56
  have hh := heap_alloc_new y (.cells #[(Value.int .i64 (f)), (Value.int .i64 (t)), (Value.int .i64 (c))] 56)
  obtain ⟨g, cap, w', h1, h2, h3, h4⟩ := run_append_has (P := Try.prog) (y.alloc (.cells #[(Value.int .i64 (f)), (Value.int .i64 (t)), (Value.int .i64 (c))] 56)) base 25 25 56 i0 _ 3 24 Try.underlying25 hi0 hz0 hz1 hz2 rfl (by decide) (hr.later (below_alloc y _)) ⟨y.heap.size, 0, none⟩ 1 1 [(Value.int .i64 (f)), (Value.int .i64 (t)), (Value.int .i64 (c))] rfl
    (by exact World.news_of_block hh) (by simp [Value.oneCell']) (by decide) (by unfold maxLen; omega) (by omega) (by rw [World.size_alloc]; omega)
  exact ⟨g, cap, w', h1, h2, h3, h4.imp id (fun h => by rw [World.size_alloc] at h; omega)⟩

/-- What append does, behind whatever was made ahead of it. -/
theorem apart_done {W : World} {mb n cap : Nat} {p : Option Addr} {l : List R2} {f t z : Int} (h : Mk W mb (.slice p n cap) l) (hn : l.length = n) (hn1 : n ≤ 65536) (hz : z = ((els l).length : Int)) (he : addL l f t = l ++ [(f, t)]) (y : World) (hy : Below W.heap.size W y) :
    ∃ g cap' w3, (Builtin.append_ #[25, 25] 25 #[.slice p n cap, .slice (some ⟨y.heap.size, 0, none⟩) 1 1]).run Try.prog (y.alloc (.cells #[(Value.int .i64 (f)), (Value.int .i64 (t)), (Value.int .i64 (z))] 56)) = .ok (.slice (some ⟨g, 0, none⟩) (n + 1) cap') w3 ∧
      w3.cell? ⟨mb, 0, none⟩ = some (.slice p n cap) ∧ w3.frozen? ⟨mb, 0, none⟩ = false ∧ Added W mb (.slice p n cap) l f t (.returned (.tuple #[])) (w3.setCell ⟨mb, 0, none⟩ (.slice (some ⟨g, 0, none⟩) (n + 1) cap')) := by
  have h1 := h.later hy
  have h2 := h1.2
  rw [hn] at h2
  obtain ⟨g, cap', w3, hrun, r3, g3, own⟩ := app_run y (mb + 1) h2 (by omega) (by have := h1.lt; omega) f t z
  have hlt := h1.lt
  have hm3 : w3.heap[mb]? = (y.alloc (.cells #[(Value.int .i64 (f)), (Value.int .i64 (t)), (Value.int .i64 (z))] 56)).heap[mb]? := g3.block mb (by simp; omega) (fun e => by have := (h2.lt mb e.symm).1; omega)
  have hm4 : w3.heap[mb]? = y.heap[mb]? := hm3.trans (Below.heap_alloc _ _ _ hlt)
  have hc3 := h1.1.of hm4
  have hgm : g ≠ mb := by
    rcases own with e | e
    · have := (h2.lt g e).1; omega
    · omega
  refine ⟨g, cap', w3, hrun, hc3.1, hc3.2, rfl, .slice (some ⟨g, 0, none⟩) (n + 1) cap', ?_, ?_, fun q hq => ?_⟩
  · rw [he]
    refine ⟨hc3.set _, ?_⟩
    rw [mk_snoc, cellsI_append, ← hz, show (l ++ [(f, t)]).length = n + 1 by simp [hn]]
    exact r3.of (fun k hk => Below.heap_setCell _ _ _ _ (by cases hk; exact hgm))
  · exact (((Chg.of_below hy).alloc _).grown g3 (fun k hk _ => .inr hk)).setCell (fun _ => .inl rfl) _
  · cases hq
    exact own.imp id (fun e => Nat.le_trans hy.size e)

set_option maxRecDepth 100000 in
set_option maxHeartbeats 1000000 in
theorem add_new {W : World} {mb : Nat} {v : Value} {l : List R2} {f t : Int} (hl : Nrm l) (h : Mk W mb v l) (hf : f < t) (ht : ∀ k r, l = k ++ [r] → ¬ f ≤ r.2) : Calls Try.prog 32 #[(Value.pointer (some ⟨mb, 0, none⟩)), (Value.int .i64 (f)), (Value.int .i64 (t))] W (Added W mb v l f t) := by
  have hn1 := runs_len hl
  have he : addL l f t = l ++ [(f, t)] := by
    rcases snoc_or l with rfl | ⟨k, r, rfl⟩
    · exact addL_nil hf
    · exact addL_apart hf (ht k r rfl)
  have hcnt0 := fun y (hy : Below W.heap.size W y) => count_any hl (h.mv.later hy)
  obtain ⟨z, hz⟩ : ∃ z, z = ((els l).length : Int) := ⟨_, rfl⟩
  rw [← hz] at hcnt0
  obtain ⟨p, cap, rfl, hc, hcm⟩ := h.mv.slice
  have hm0 : ∀ y, Below W.heap.size W y → y.cell? ⟨mb, 0, none⟩ = some (.slice p l.length cap) := fun y hy => (h.later hy).1.1
  have hm0' := hm0 W (Below.refl _ _)
  have hlast : ∀ k, l.length = k + 1 → ∃ g b, p = some ⟨g, 0, none⟩ ∧ W.cell? ⟨g, k * 3 + 1, none⟩ = some (Value.int .i64 (b)) ∧ ¬ f ≤ b := fun k hk => by
    obtain ⟨g, hg, _, _, c1, _⟩ := h.mv.run (j := k) (by omega)
    refine ⟨g, l[k].2, hg, c1, ht (l.take k) l[k] ?_⟩
    have e := List.take_succ_eq_append_getElem (l := l) (i := k) (by omega)
    rw [← e, List.take_of_length_le (by omega)]
  obtain ⟨n, hn⟩ : ∃ n, l.length = n := ⟨_, rfl⟩
  have HA : Hid (∀ y, Below W.heap.size W y → _) := Lib.hid (apart_done (by rw [hn] at h; exact h) hn (by omega) hz he)
  rw [hn] at hn1 hm0 hm0' hlast hcnt0 hc
  simp only [hn]
  clear h hz he hn hl ht
  cases n with
  | zero =>
    clear hlast
    have hcnt := Lib.hid hcnt0
    have hm1 := Lib.hid hm0
    clear hcnt0 hm0
    go_enter Try.func32, Try.ntmps32
    go_wp2_with fail
    have hent : ∀ a w, (callFunc 28 a).run Try.prog w = .ok (.enter 28 a) w := by intro a w; rfl
    have hcc := hcnt.out W.drew (Below.refl _ W).drew
    go_region_law (first
      | (refine step_call hent [.agg #[.slice p 0 cap]] (by simp [Act.eval]) ?_; (with_reducible refine hcc.mono ?_); rintro e x2 ⟨rfl, hb2⟩; have hW2 : Below W.heap.size W x2 := (Below.refl _ W).drew.trans hb2; obtain ⟨g, cap', w3, hrun, c3, f3, hfin⟩ := HA.out x2 hW2; have m2 := hm1.out x2 hW2; have z2 : mb < x2.heap.size := World.block_lt_of_cell? x2 ⟨mb, 0, none⟩ m2; have HF := Lib.hid hfin; clear hfin hW2 hb2; refine ⟨_, rfl, ?_⟩)
      | refine step_append_run rfl (.tmp 51) (.tmp 59) 25 rfl rfl rfl hrun ?_)
    all_goals
      go_wp2_with fail
      go_end0
      exact HF.out
  | succ n =>
    obtain ⟨g0, b, rfl, c1, hb⟩ := hlast n rfl
    have x1 : (n : Int) < (n : Int) + 1 := by omega
    have x2 : n < n + 1 := by omega
    have x3 : (n : Int) < ((n + 1 : Nat) : Int) := by omega
    have hb' : b < f := by omega
    have hcnt := Lib.hid hcnt0
    have hm1 := Lib.hid hm0
    clear hcnt0 hm0 hlast
    go_enter Try.func32, Try.ntmps32
    go_wp2_with fail
    have hent : ∀ a w, (callFunc 28 a).run Try.prog w = .ok (.enter 28 a) w := by intro a w; rfl
    have hcc := hcnt.out W.drew (Below.refl _ W).drew
    go_region_law (first
      | (refine step_call hent [.agg #[.slice (some ⟨g0, 0, none⟩) (n + 1) cap]] (by simp [Act.eval]) ?_; (with_reducible refine hcc.mono ?_); rintro e x2 ⟨rfl, hb2⟩; have hW2 : Below W.heap.size W x2 := (Below.refl _ W).drew.trans hb2; obtain ⟨g, cap', w3, hrun, c3, f3, hfin⟩ := HA.out x2 hW2; have m2 := hm1.out x2 hW2; have z2 : mb < x2.heap.size := World.block_lt_of_cell? x2 ⟨mb, 0, none⟩ m2; have HF := Lib.hid hfin; clear hfin hW2 hb2; refine ⟨_, rfl, ?_⟩)
      | refine step_append_run rfl (.tmp 51) (.tmp 59) 25 rfl rfl rfl hrun ?_)
    all_goals
      go_wp2_with fail
      go_end0
      exact HF.out
end Go.Proofs.Ytpdidlnbeahanaa
