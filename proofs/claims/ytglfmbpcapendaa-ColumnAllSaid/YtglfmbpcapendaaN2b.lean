/- ColumnWords: what is needed of lists. -/
import Derived.Test.YtglfmbpcapendaaN2a
namespace Go.Proofs.Ytglfmbpcapendaa.S
open Go Go.RowKit Go.Shelf Go.Proofs Go.Proofs.Ytglfmbpcapendaa

/-- No block is both's. -/
def Apart (v nv : Value) : Prop := ∀ k, v.ownBlock = some k → nv.ownBlock ≠ some k
theorem Apart.left {v v' nv : Value} {w : World} (h : Apart v nv) (ho : ∀ q, v'.ownBlock = some q → v.ownBlock = some q ∨ w.heap.size ≤ q) (hl : ∀ q, nv.ownBlock = some q → q < w.heap.size) : Apart v' nv := fun k hk e => by
  rcases ho k hk with h1 | h1
  · exact h k h1 e
  · have := hl k e; omega
theorem Apart.right {v nv nv' : Value} {w : World} (h : Apart v nv) (ho : ∀ q, nv'.ownBlock = some q → nv.ownBlock = some q ∨ w.heap.size ≤ q) (hl : ∀ q, v.ownBlock = some q → q < w.heap.size) : Apart v nv' := fun k hk e => by
  rcases ho k e with h1 | h1
  · exact h k hk h1
  · have := hl k hk; omega
theorem Apart.nil (v : Value) : Apart v (.slice none 0 0) := fun k _ e => by simp [Value.ownBlock] at e
section
variable {cb : Nat} {kind : Int} {l : List T3} {v nv : Value} {W W' : World} {e : TypeId} {sz n : Nat} {xs : List Value}
/-- A row beside the column, where the column turned. -/
theorem row_beside (hr : HRow W (cb + 1) e sz nv n xs) (ha : Apart v nv) (hc : Chg (fun b => b = cb ∨ v.ownBlock = some b) W W') : HRow W' (cb + 1) e sz nv n xs :=
  hr.of (fun k hk => hc.block k (hr.lt k hk).2 (fun h => by
    rcases h with h | h
    · have := (hr.lt k hk).1; omega
    · exact ha k h hk))
/-- The column, where a row beside it turned. -/
theorem Col.beside (h : Col cb kind l v W) (hr : HRow W (cb + 1) e sz nv n xs) (he : e ≠ 66) (ha : Apart v nv) {row : Option Nat} (hrow : ∀ k, row = some k → nv.ownBlock = some k) (hg : W.grownBy W' row) : Col cb kind l v W' :=
  h.other hg (fun k hk => by
    have hk := hrow k hk
    obtain ⟨h1, cur, h2⟩ := hr.block k hk
    exact ⟨by omega, fun hv => ha k hv hk, cur, e, h2, he⟩)
end

abbrev nI (k : Nat) : Value := (Value.int .i64 ((k : Int)))
theorem inC_wv (k : Nat) (hk : k < 8) : inC 2 (wv k) = true := by
  obtain rfl | rfl | rfl | rfl | rfl | rfl | rfl | rfl : k = 0 ∨ k = 1 ∨ k = 2 ∨ k = 3 ∨ k = 4 ∨ k = 5 ∨ k = 6 ∨ k = 7 := by omega
  all_goals kernel_rfl
theorem size_wv (k : Nat) : (wv k).2.2.size ≤ maxLen := by
  unfold wv maxLen
  split
  · show (0 : Nat) ≤ _; omega
  · show (1 : Nat) ≤ _; omega
theorem kind_wv (k : Nat) : (wv k).1 = 2 ↔ 1 ≤ k := by
  unfold wv
  split
  · rename_i h; subst h; simp
  · simp; omega
theorem nz_wv (now : List Nat) : nz (now.map wv) = now.count 0 := by
  unfold nz
  induction now with
  | nil => rfl
  | cons a r ih =>
    rw [List.map_cons, List.map_cons, List.sum_cons, ih, List.count_cons]
    unfold nul wv
    by_cases h : a = 0
    · subst h; simp; omega
    · simp [h]
abbrev wk (k : Nat) : K 12 := wd (wv k).2.2
theorem wk_inj : ∀ j, j < 8 → ∀ k, k < 8 → 1 ≤ j → 1 ≤ k → wk j = wk k → j = k := by decide +kernel
/-- Which letters below k stand there. -/
def dk (now : List Nat) (k : Nat) : List Nat := (List.range k).filter (fun j => decide (1 ≤ j ∧ 0 < now.count j))
theorem dk_one (now : List Nat) : (dk now 1).length = 0 := by unfold dk; simp
theorem dk_succ (now : List Nat) (k : Nat) (hk : 1 ≤ k) : (dk now (k + 1)).length = (dk now k).length + if 0 < now.count k then 1 else 0 := by
  unfold dk
  rw [List.range_succ, List.filter_append, List.length_append]
  congr 1
  by_cases h : 0 < now.count k
  · have hm : k ∈ now := List.count_pos_iff.1 h
    simp [hm, hk]
  · have hm : ¬ k ∈ now := fun x => h (List.count_pos_iff.2 x)
    simp [hm]
theorem dk_mem (now : List Nat) (hn : ∀ k ∈ now, k < 8) (s : K 12) : s ∈ (dk now 8).map wk ↔ ∃ x ∈ now.map wv, x.1 = 2 ∧ wd x.2.2 = s := by
  unfold dk
  constructor
  · intro h
    obtain ⟨k, hk, rfl⟩ := List.mem_map.1 h
    rw [List.mem_filter, decide_eq_true_eq] at hk
    have : k ∈ now := List.count_pos_iff.1 hk.2.2
    exact ⟨wv k, List.mem_map.2 ⟨k, this, rfl⟩, (kind_wv k).2 hk.2.1, rfl⟩
  · rintro ⟨x, hx, h2, rfl⟩
    obtain ⟨k, hk, rfl⟩ := List.mem_map.1 hx
    exact List.mem_map.2 ⟨k, List.mem_filter.2 ⟨List.mem_range.2 (hn k hk), decide_eq_true ⟨(kind_wv k).1 h2, List.count_pos_iff.2 hk⟩⟩, rfl⟩
theorem dk_nodup (now : List Nat) : ((dk now 8).map wk).Nodup := by
  have h : (dk now 8).Nodup := List.Pairwise.filter _ List.nodup_range
  unfold List.Nodup
  rw [List.pairwise_map]
  refine List.Pairwise.imp_of_mem (fun {a b} ha hb hab e => hab ?_) h
  unfold dk at ha hb
  rw [List.mem_filter, decide_eq_true_eq, List.mem_range] at ha hb
  exact wk_inj a ha.1 b hb.1 ha.2.1 hb.2.1 e
/-- What Go's remainder leaves, moved up. -/
theorem mod_up (z n : Int) (hn : 0 < n) : 0 ≤ Int.tmod (Int.tmod z n + n) n ∧ Int.tmod (Int.tmod z n + n) n < n ∧ 0 ≤ Int.tmod z n + n ∧ Int.tmod z n + n < 2 * n := by
  have h1 := Int.tmod_lt_of_pos z hn
  have h2 : -n < Int.tmod z n := by
    rcases Int.le_total 0 z with hz | hz
    · have := Int.tmod_nonneg n hz
      omega
    · obtain ⟨m, rfl⟩ : ∃ m, z = -m := ⟨-z, by omega⟩
      have := Int.tmod_lt_of_pos m hn
      rw [Int.neg_tmod]
      omega
  have h3 : 0 ≤ Int.tmod z n + n := by omega
  exact ⟨Int.tmod_nonneg _ h3, Int.tmod_lt_of_pos _ hn, h3, by omega⟩
theorem info3 : (Try.prog.info? 3).map (fun i => (i.zero, i.size, i.bytes)) = some (some (.int .i64 0), 1, 8) := by kernel_rfl
/-- append of one number. -/
theorem app_int (y : World) (base : Nat) {v : Value} {m : Nat} {xs : List Value} (hr : HRow y base 3 1 v m xs) (hm : m + 1 ≤ 1000000) (hb : base ≤ y.heap.size) (k : Nat) :
    ∃ g cap w', (Builtin.append_ #[39, 39] 39 #[v, .slice (some ⟨y.heap.size, 0, none⟩) 1 1]).run Try.prog (y.alloc (.cells #[nI k] 3)) = .ok (.slice (some ⟨g, 0, none⟩) (m + 1) cap) w' ∧
      HRow w' base 3 1 (.slice (some ⟨g, 0, none⟩) (m + 1) cap) (m + 1) (xs ++ [nI k]) ∧ y.grownBy w' v.ownBlock ∧ (v.ownBlock = some g ∨ y.heap.size ≤ g) := by
  obtain ⟨i0, hi0, hz0, hz1, hz2⟩ := info_parts info3
  have hh := heap_alloc_new y (.cells #[nI k] 3)
  obtain ⟨g, cap, w', h1, h2, h3, h4⟩ := run_append_has (P := Try.prog) (y.alloc (.cells #[nI k] 3)) base 39 39 3 i0 _ 1 8 Try.underlying39 hi0 hz0 hz1 hz2 rfl (by decide) (hr.later (below_alloc y _)) ⟨y.heap.size, 0, none⟩ 1 1 [nI k] rfl
    (by exact World.news_of_block hh) (by simp [Value.oneCell']) (by decide) (by unfold maxLen; omega) (by omega) (by rw [World.size_alloc]; omega)
  exact ⟨g, cap, w', h1, h2, ⟨h3.os, h3.tape, h3.output, Nat.le_trans (by simp) h3.size, fun q hq hne => (h3.block q (by simp; omega) hne).trans ((below_alloc y _).block q hq)⟩, h4.imp id (fun h => by rw [World.size_alloc] at h; omega)⟩
/-- Of what lies below n nothing turned, where a row of blocks from n on did. -/
theorem below_row {n base : Nat} {A B : World} {nv : Value} {e : TypeId} {sz m : Nat} {xs : List Value} (hr : HRow A base e sz nv m xs) (hg : A.grownBy B nv.ownBlock) (hn : n ≤ base) (hs : n ≤ A.heap.size) : Below n A B :=
  ⟨hg.os, hg.tape, hg.output, hg.size, fun q hq => hg.block q (by omega) (fun e => by have := (hr.lt q e.symm).1; omega)⟩
end Go.Proofs.Ytglfmbpcapendaa.S
