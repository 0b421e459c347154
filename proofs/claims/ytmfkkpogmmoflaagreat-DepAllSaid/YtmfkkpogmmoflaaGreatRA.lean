/- The reference's Find, ColOf. -/
import Derived.Test.YtmfkkpogmmoflaaGreatBG
import Derived.Test.YtmfkkpogmmoflaaGreatPar
namespace Go.Proofs.YtmfkkpogmmoflaaGreat
open Go Go.RowKit Go.Proofs

theorem RdC.colAt {W : World} {b off n cap : Nat} {l : List C} (h : RdC W (.slice (some ⟨b, off, none⟩) n cap) l) {i : Nat} (hi : i < l.length) : b < W.heap.size ∧ W.cell? ⟨b, off + i * 4, none⟩ = some (.string l[i].nm) ∧ W.cell? ⟨b, off + i * 4 + 1, none⟩ = some (.int .i64 l[i].kd) ∧ W.cell? ⟨b, off + i * 4 + 2, none⟩ = some (.bool l[i].mu) ∧ W.cell? ⟨b, off + i * 4 + 3, none⟩ = some (.string l[i].tgt) := by
  obtain ⟨_, _, e, h1⟩ := RdC.col h hi
  cases e
  exact h1
theorem RdS.wordAt {W : World} {b off n cap : Nat} {l : List ByteArray} (h : RdS W (.slice (some ⟨b, off, none⟩) n cap) l) {i : Nat} (hi : i < l.length) : b < W.heap.size ∧ W.cell? ⟨b, off + i, none⟩ = some (.string l[i]) := by
  obtain ⟨_, _, e, h1⟩ := RdS.word h hi
  cases e
  exact h1
theorem ixT_at {l : List T} {x : ByteArray} (j : Nat) (h : j < l.length) (hp : isT x l[j] = true) (hn : ∀ i (hi : i < j), isT x (l[i]'(by omega)) = false) : ixT l x = (j : Int) := by
  obtain ⟨_, _, h3⟩ := first_at (p := isT x) l j h hp hn
  unfold ixT; rw [h3]
theorem ixT_none {l : List T} {x : ByteArray} (hn : ∀ i (hi : i < l.length), isT x l[i] = false) : ixT l x = -1 := by
  obtain ⟨_, _, h3⟩ := none_at (p := isT x) l hn
  unfold ixT; rw [h3]
theorem ixC_at {l : List C} {x : ByteArray} (j : Nat) (h : j < l.length) (hp : isC x l[j] = true) (hn : ∀ i (hi : i < j), isC x (l[i]'(by omega)) = false) : ixC l x = (j : Int) := by
  obtain ⟨_, _, h3⟩ := first_at (p := isC x) l j h hp hn
  unfold ixC; rw [h3]
theorem ixC_none {l : List C} {x : ByteArray} (hn : ∀ i (hi : i < l.length), isC x l[i] = false) : ixC l x = -1 := by
  obtain ⟨_, _, h3⟩ := none_at (p := isC x) l hn
  unfold ixC; rw [h3]
theorem ixT_cases (l : List T) (x : ByteArray) : (ixT l x = -1 ∧ hasT l x = false ∧ findT l x = none) ∨ ∃ (j : Nat) (h : j < l.length), ixT l x = (j : Int) ∧ hasT l x = true ∧ findT l x = some l[j] := by
  rw [hasT_find]
  unfold ixT findT
  have := find_idx (p := isT x) l
  cases h : l.findIdx? (isT x) with
  | none => rw [h] at this; simp only at this; rw [this]; exact .inl ⟨rfl, rfl, rfl⟩
  | some j => rw [h] at this; obtain ⟨h1, h2, _⟩ := this; rw [h2]; exact .inr ⟨j, h1, rfl, rfl, rfl⟩
theorem ixC_cases (l : List C) (x : ByteArray) : (ixC l x = -1 ∧ hasC l x = false ∧ colOf l x = none) ∨ ∃ (j : Nat) (h : j < l.length), ixC l x = (j : Int) ∧ hasC l x = true ∧ colOf l x = some l[j] := by
  rw [hasC_find]
  unfold ixC colOf
  have := find_idx (p := isC x) l
  cases h : l.findIdx? (isC x) with
  | none => rw [h] at this; simp only at this; rw [this]; exact .inl ⟨rfl, rfl, rfl⟩
  | some j => rw [h] at this; obtain ⟨h1, h2, _⟩ := this; rw [h2]; exact .inr ⟨j, h1, rfl, rfl, rfl⟩

set_option maxRecDepth 100000 in
set_option maxHeartbeats 1000000 in
theorem rfind_any {ts : List T} {v : Value} {x : ByteArray} {W : World} (h : RdTs W v ts) : Calls Tryz.prog 24 #[v, .string x] W fun e w' => e = .returned (.int .i64 (ixT ts x)) ∧ w' = W := by
  obtain ⟨p, cap, rfl, hc, hm⟩ := h.slice
  obtain ⟨n, hn⟩ : ∃ n, ts.length = n := ⟨_, rfl⟩
  unfold maxLen at hm
  rw [hn] at hc ⊢
  rw [hn] at h
  have HR := Lib.hid h
  have HN := Lib.hid hn
  clear h hn
  go_enter Tryz.func24, Tryz.ntmps24
  go_wp2_with fail
  go_loopg [5] (n + 1) (fun gh jv w => ∃ (j : Nat), jv = .int .i64 (j : Int) ∧ j ≤ n ∧ n + 1 ≤ j + gh ∧ (∀ i (h : i < ts.length), i < j → isT x ts[i] = false) ∧ w = W)
  case atStart => exact ⟨0, rfl, Nat.zero_le _, by omega, fun i _ hi => by omega, rfl⟩
  case round =>
    obtain ⟨j, rfl, hj, hg, hno, rfl⟩ := hrel
    have HI := Lib.hid hno
    clear hno
    by_cases hlt : j < n
    · have hjl : j < ts.length := by rw [HN.out]; exact hlt
      obtain ⟨b, off, cv, dv, rfl, hb, c0, _, _, _, _⟩ := RdTs.tab HR.out hjl
      obtain ⟨t, htj⟩ : ∃ t, ts[j] = t := ⟨_, rfl⟩
      rw [htj] at c0
      have HC := Lib.hid htj
      clear htj
      cases hx : isT x t
      · have HX := Lib.hid hx
        have hx2 : (t.nm.toList == x.toList) = false := by rw [eqS_toList]; exact hx
        clear hx
        go_wp2_with fail
        go_roundg (n - j)
        case measure => omega
        case rel =>
          refine ⟨j + 1, by go_num, by omega, by omega, fun i hi hij => ?_, rfl⟩
          by_cases e : i = j
          · subst e; rw [HC.out]; exact HX.out
          · exact HI.out i hi (by omega)
      · have HX := Lib.hid hx
        have hx2 : (t.nm.toList == x.toList) = true := by rw [eqS_toList]; exact hx
        clear hx
        go_wp2_with fail
        go_ret
        exact ⟨ret_int (ixT_at j (by rw [HN.out]; exact hlt) (by rw [HC.out]; exact HX.out) (fun i hi => HI.out i _ hi)).symm, rfl⟩
    · go_wp2_with fail
      go_ret
      exact ⟨ret_int (ixT_none (fun i hi => HI.out i hi (by have := HN.out; omega))).symm, rfl⟩

set_option maxRecDepth 100000 in
set_option maxHeartbeats 1000000 in
theorem rcolOf_any {t : T} {cv dv : Value} {x : ByteArray} {W : World} (h : RdT W cv dv t) : Calls Tryz.prog 41 #[.agg #[.string t.nm, cv, .string t.key, dv], .string x] W fun e w' => e = .returned (.int .i64 (ixC t.cols x)) ∧ Below W.heap.size W w' := by
  have HK := Lib.hid (KeepT.new h)
  obtain ⟨pc, cc, hcv, hc, hm⟩ := h.c.slice
  obtain ⟨p, cap, hdv, _, _⟩ := h.d.slice
  obtain ⟨n, hn⟩ : ∃ n, t.cols.length = n := ⟨_, rfl⟩
  obtain ⟨nd, hnd⟩ : ∃ n, t.deps.length = n := ⟨_, rfl⟩
  obtain ⟨B, hB⟩ : ∃ B, W.heap.size = B := ⟨_, rfl⟩
  unfold maxLen at hm
  rw [hnd] at hdv
  rw [hn] at hcv hc
  subst hcv hdv
  have HN := Lib.hid hn
  rw [hB] at HK
  have hB2 := Lib.hid hB
  clear h hn hnd hB
  go_enter Tryz.func41, Tryz.ntmps41
  go_upto_region 1 with fail
  obtain ⟨w0, hw0⟩ : ∃ w0, W.alloc (boxT t.nm (.slice pc n cc) t.key (.slice p nd cap)) = w0 := ⟨_, rfl⟩
  rw [hB2.out, hw0]
  rw [hw0] at HK
  clear hw0
  obtain ⟨hlt0, _, z1, _, _⟩ := HK.out.cells
  go_wp2_with fail
  go_loopg [5] (n + 1) (fun gh jv w => ∃ (j : Nat), jv = .int .i64 (j : Int) ∧ j ≤ n ∧ n + 1 ≤ j + gh ∧ (∀ i (h : i < t.cols.length), i < j → isC x t.cols[i] = false) ∧ w = w0)
  case atStart => exact ⟨0, rfl, Nat.zero_le _, by omega, fun i _ hi => by omega, rfl⟩
  case round =>
    obtain ⟨j, rfl, hj, hg, hno, rfl⟩ := hrel
    have HI := Lib.hid hno
    clear hno
    by_cases hlt : j < n
    · have hjl : j < t.cols.length := by rw [HN.out]; exact hlt
      obtain ⟨b, off, rfl, hb, c0, _⟩ := RdC.col HK.out.tab.c hjl
      obtain ⟨c, hcj⟩ : ∃ c, t.cols[j] = c := ⟨_, rfl⟩
      rw [hcj] at c0
      have HC := Lib.hid hcj
      clear hcj
      cases hx : isC x c
      · have HX := Lib.hid hx
        have hx2 : (c.nm.toList == x.toList) = false := by rw [eqS_toList]; exact hx
        clear hx
        go_wp2_with fail
        go_roundg (n - j)
        case measure => omega
        case rel =>
          refine ⟨j + 1, by go_num, by omega, by omega, fun i hi hij => ?_, rfl⟩
          by_cases e : i = j
          · subst e; rw [HC.out]; exact HX.out
          · exact HI.out i hi (by omega)
      · have HX := Lib.hid hx
        have hx2 : (c.nm.toList == x.toList) = true := by rw [eqS_toList]; exact hx
        clear hx
        go_wp2_with fail
        go_ret
        exact ⟨ret_int (ixC_at j (by rw [HN.out]; exact hlt) (by rw [HC.out]; exact HX.out) (fun i hi => HI.out i _ hi)).symm, hB2.out ▸ HK.out.below⟩
    · go_wp2_with fail
      go_ret
      exact ⟨ret_int (ixC_none (fun i hi => HI.out i hi (by have := HN.out; omega))).symm, hB2.out ▸ HK.out.below⟩

/-! ### The reference's words for what may be a name -/
theorem colGood_ref {l : List C} {i : Nat} (hi : i < l.length) : colGood l i = (named l[i].nm && decide (ixC l l[i].nm = (i : Int))) := by
  rw [colGood_at hi]
  congr 1
  rcases ixC_cases l l[i].nm with ⟨h1, h2, _⟩ | ⟨j, hj, h1, _, h3⟩
  · exfalso
    unfold hasC at h2
    rw [List.any_eq_false] at h2
    exact h2 l[i] (List.getElem_mem _) (eqS_self _)
  · rw [h1]
    have hfi := find_idx (p := isC l[i].nm) l
    have hx : l.findIdx? (isC l[i].nm) = some j := by
      unfold ixC at h1
      cases h : l.findIdx? (isC l[i].nm) with
      | none => rw [h] at h1; simp at h1
      | some k => rw [h] at h1; simp only at h1; congr 1; omega
    rw [List.findIdx?_eq_some_iff_getElem] at hx
    obtain ⟨_, hp, hlow⟩ := hx
    have hji : j ≤ i := by
      rcases Nat.lt_or_ge i j with h | h
      · exact absurd (eqS_self l[i].nm) (by have := hlow i h; simpa [isC] using this)
      · exact h
    by_cases e : j = i
    · subst e
      rw [decide_eq_true rfl, Bool.not_eq_true']
      unfold hasC
      rw [List.any_eq_false]
      intro c hc
      obtain ⟨k, hk, rfl⟩ := List.getElem_of_mem hc
      rw [List.length_take] at hk
      rw [List.getElem_take]
      exact hlow k (by omega)
    · rw [decide_eq_false (by omega), Bool.not_eq_false']
      unfold hasC
      rw [List.any_eq_true]
      exact ⟨l[j], List.mem_iff_getElem.2 ⟨j, by rw [List.length_take]; omega, by rw [List.getElem_take]⟩, hp⟩
end Go.Proofs.YtmfkkpogmmoflaaGreat
