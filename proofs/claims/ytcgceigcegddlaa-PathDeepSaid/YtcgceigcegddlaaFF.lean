/- free, leads. -/
import Derived.Test.YtcgceigcegddlaaEE
namespace Go.Proofs.Ytcgceigcegddlaa
open Go Go.RowKit Go.Proofs

theorem hasT_find (ts : List T) (x : ByteArray) : hasT ts x = (findT ts x).isSome := find_any ts
theorem hasC_find (l : List C) (x : ByteArray) : hasC l x = (colOf l x).isSome := find_any l
set_option maxRecDepth 100000 in
theorem sfree_any {pv : Value} {ts : List T} {x : ByteArray} {W : World} (h : SchP W pv ts) (hs : x.size ≤ maxLen) : Calls Try.prog 57 #[pv, .string x] W fun e w' => e = .returned (.bool (free ts x)) ∧ Below W.heap.size W w' := by
  have hf := sfind_any (x := x) h
  cases hn : named x
  · have HG : Hid (free ts x = false) := Lib.hid (by unfold free; rw [hn]; rfl)
    have hv := fun w => valName_is hn w hs
    generalize hasT ts x = ok at hf
    generalize orT (findT ts x) = t at hf
    clear h hs hn
    go_enter Try.func57, Try.ntmps57
    go_wp2_with (first
      | (go_at_call 45; (with_reducible refine hf.mono ?_); rintro e w1 ⟨p1, n1, c1, p2, n2, c2, rfl, hr, hb⟩)
      | (go_at_call 81; (with_reducible refine (hv _).mono ?_); rintro e w2 ⟨rfl, rfl⟩))
    go_ret
    exact ⟨ret_bool HG.out.symm, hb.alloc hb.size _⟩
  · have hv := fun w => valName_is hn w hs
    have HG : Hid (free ts x = !hasT ts x) := Lib.hid (by unfold free; rw [hn]; rfl)
    generalize hasT ts x = ok at hf HG
    generalize orT (findT ts x) = t at hf
    clear h hs hn
    go_enter Try.func57, Try.ntmps57
    go_wp2_with (first
      | (go_at_call 45; (with_reducible refine hf.mono ?_); rintro e w1 ⟨p1, n1, c1, p2, n2, c2, rfl, hr, hb⟩)
      | (go_at_call 81; (with_reducible refine (hv _).mono ?_); rintro e w2 ⟨rfl, rfl⟩))
    go_ret
    exact ⟨ret_bool HG.out.symm, hb.alloc hb.size _⟩

set_option maxRecDepth 100000 in
set_option maxHeartbeats 1000000 in
theorem leads_any {pv : Value} {ts : List T} {c : C} {W : World} (h : SchP W pv ts) : Calls Try.prog 62 #[pv, .agg #[.string c.nm, .int .i64 c.kd, .bool c.mu, .string c.tgt]] W fun e w' => e = .returned (.int .i64 (leads ts c)) ∧ Below W.heap.size W w' := by
  have hB0 := below_alloc W (.cells #[.string c.nm, .int .i64 c.kd, .bool c.mu, .string c.tgt] 33)
  have h0 := heap_alloc_new W (.cells #[.string c.nm, .int .i64 c.kd, .bool c.mu, .string c.tgt] 33)
  have hf := sfind_any (x := c.tgt) (h.later hB0)
  cases he : eqS c.tgt e0
  · have he2 : c.tgt.toList.isEmpty = false := by rw [eqS_e0]; exact he
    obtain ⟨S, hS⟩ : ∃ S, W.heap.size = S := ⟨_, rfl⟩
    have HS := Lib.hid hS
    obtain ⟨w0, hw0⟩ : ∃ w0, W.alloc (.cells #[.string c.nm, .int .i64 c.kd, .bool c.mu, .string c.tgt] 33) = w0 := ⟨_, rfl⟩
    rw [hw0] at hB0 h0 hf
    rw [hS] at h0
    have HB := Lib.hid (And.intro hB0 h0)
    have HW := Lib.hid hw0
    have y3 := nd_cell h0 3
    have hl0 := lt_of_heap h0
    rw [hasT_find] at hf
    have HF := Lib.hid he
    clear h hB0 h0 hw0 hS he
    cases hfind : findT ts c.tgt with
    | none =>
      rw [hfind] at hf
      have HG : Hid (leads ts c = 3) := Lib.hid (by unfold leads; rw [HF.out, hfind]; rfl)
      change Calls _ _ _ _ (GivesT zeroT false _) at hf
      generalize zeroT = t at hf
      go_enter Try.func62, Try.ntmps62
      go_upto_region 1 with fail
      rw [HW.out, HS.out]
      go_wp2_with (go_at_call 45; (with_reducible refine hf.mono ?_); rintro e w1 ⟨p1, n1, c1, p2, n2, c2, rfl, hr, hb⟩)
      go_ret
      exact ⟨ret_int HG.out.symm, (below_on HB.out.1 hb).alloc (below_on HB.out.1 hb).size _⟩
    | some t =>
      rw [hfind] at hf
      change Calls _ _ _ _ (GivesT t true _) at hf
      have hcol := fun (w : World) (v : Value) (hr : RdC w v t.cols) => column_any (x := t.key) hr
      rw [hasC_find] at hcol
      cases hcf : colOf t.cols t.key with
      | none =>
        have HG : Hid (leads ts c = 9) := Lib.hid (by unfold leads; rw [HF.out, hfind]; show (match colOf t.cols t.key with | none => (9 : Int) | some k => if k.kd = c.kd then 0 else 4) = 9; rw [hcf])
        simp only [hcf] at hcol
        change ∀ (w : World) (v : Value), RdC w v t.cols → Calls _ _ _ _ (fun e w' => e = .returned (.tuple #[.agg #[.string zeroC.nm, .int .i64 zeroC.kd, .bool zeroC.mu, .string zeroC.tgt], .bool false]) ∧ _) at hcol
        generalize zeroC = k at hcol
        clear hcf hfind
        go_enter Try.func62, Try.ntmps62
        go_upto_region 1 with fail
        rw [HW.out, HS.out]
        go_wp2_with (first
          | (go_at_call 45; (with_reducible refine hf.mono ?_); rintro e w1 ⟨p1, n1, c1, p2, n2, c2, rfl, hr, hb⟩; have hr1 := hr.1.later (below_alloc w1 (boxT t.nm (.slice p1 n1 c1) t.key (.slice p2 n2 c2))); have hb1 := (below_on HB.out.1 hb).alloc (below_on HB.out.1 hb).size (boxT t.nm (.slice p1 n1 c1) t.key (.slice p2 n2 c2)))
          | (go_at_call 46; (with_reducible refine (hcol _ _ hr1).mono ?_); rintro e w2 ⟨rfl, hb2⟩; have hb3 := below_on hb1 hb2))
        go_ret
        exact ⟨ret_int HG.out.symm, hb3.alloc hb3.size _⟩
      | some k =>
        have HG : Hid (leads ts c = if k.kd = c.kd then 0 else 4) := Lib.hid (by unfold leads; rw [HF.out, hfind]; show (match colOf t.cols t.key with | none => (9 : Int) | some k => if k.kd = c.kd then 0 else 4) = _; rw [hcf])
        simp only [hcf] at hcol
        change ∀ (w : World) (v : Value), RdC w v t.cols → Calls _ _ _ _ (fun e w' => e = .returned (.tuple #[.agg #[.string k.nm, .int .i64 k.kd, .bool k.mu, .string k.tgt], .bool true]) ∧ _) at hcol
        clear hcf hfind
        have h3 : ∀ {w1 w2 : World} {o : Obj}, Below w0.heap.size w0 w1 → Below (w1.alloc o).heap.size (w1.alloc o) w2 → S < w2.heap.size ∧ w2.cell? ⟨S, 1, none⟩ = some (.int .i64 c.kd) := fun {w1 w2 o} ha hb => by
          have := heap_on hb (heap_on (below_alloc w1 o) (heap_on ha HB.out.2))
          exact ⟨lt_of_heap this, nd_cell this 1⟩
        by_cases hk : k.kd = c.kd
        · have e4 : (k.kd != c.kd) = false := by simp [hk]
          rw [if_pos hk] at HG
          clear hk
          go_enter Try.func62, Try.ntmps62
          go_upto_region 1 with fail
          rw [HW.out, HS.out]
          go_wp2_with (first
            | (go_at_call 45; (with_reducible refine hf.mono ?_); rintro e w1 ⟨p1, n1, c1, p2, n2, c2, rfl, hr, hb⟩; have hr1 := hr.1.later (below_alloc w1 (boxT t.nm (.slice p1 n1 c1) t.key (.slice p2 n2 c2))); have hb1 := (below_on HB.out.1 hb).alloc (below_on HB.out.1 hb).size (boxT t.nm (.slice p1 n1 c1) t.key (.slice p2 n2 c2)))
            | (go_at_call 46; (with_reducible refine (hcol _ _ hr1).mono ?_); rintro e w2 ⟨rfl, hb2⟩; obtain ⟨z0, z1⟩ := h3 hb hb2; have hb3 := below_on hb1 hb2))
          go_ret
          exact ⟨ret_int HG.out.symm, hb3.alloc hb3.size _⟩
        · have e4 : (k.kd != c.kd) = true := by simp [hk]
          rw [if_neg hk] at HG
          clear hk
          go_enter Try.func62, Try.ntmps62
          go_upto_region 1 with fail
          rw [HW.out, HS.out]
          go_wp2_with (first
            | (go_at_call 45; (with_reducible refine hf.mono ?_); rintro e w1 ⟨p1, n1, c1, p2, n2, c2, rfl, hr, hb⟩; have hr1 := hr.1.later (below_alloc w1 (boxT t.nm (.slice p1 n1 c1) t.key (.slice p2 n2 c2))); have hb1 := (below_on HB.out.1 hb).alloc (below_on HB.out.1 hb).size (boxT t.nm (.slice p1 n1 c1) t.key (.slice p2 n2 c2)))
            | (go_at_call 46; (with_reducible refine (hcol _ _ hr1).mono ?_); rintro e w2 ⟨rfl, hb2⟩; obtain ⟨z0, z1⟩ := h3 hb hb2; have hb3 := below_on hb1 hb2))
          go_ret
          exact ⟨ret_int HG.out.symm, hb3.alloc hb3.size _⟩
  · have he2 : c.tgt.toList.isEmpty = true := by rw [eqS_e0]; exact he
    have HG : Hid (leads ts c = 0) := Lib.hid (by unfold leads; rw [he]; rfl)
    clear h hf h0 he
    go_enter Try.func62, Try.ntmps62
    go_wp2_with fail
    go_ret
    exact ⟨ret_int HG.out.symm, hB0⟩
end Go.Proofs.Ytcgceigcegddlaa
