/- New, Find, Col, Names. -/
import Derived.Test.YtcgceigcegddlaaHF
namespace Go.Proofs.Ytcgceigcegddlaa
open Go Go.RowKit Go.Proofs

def zrest : List Value := [.string e0, .slice none 0 0, .string e0, .slice none 0 0, .string e0, .slice none 0 0, .string e0, .slice none 0 0, .string e0, .slice none 0 0, .string e0, .slice none 0 0, .string e0, .slice none 0 0, .string e0, .slice none 0 0, .string e0, .slice none 0 0, .string e0, .slice none 0 0, .string e0, .slice none 0 0, .string e0, .slice none 0 0, .string e0, .slice none 0 0, .string e0, .slice none 0 0, .string e0, .slice none 0 0, .string e0, .slice none 0 0]
set_option maxRecDepth 100000 in
set_option maxHeartbeats 1000000 in
theorem new_any (W : World) : Calls Try.prog 25 #[] W fun e w' => e = .returned (Value.pointer (some ⟨W.heap.size, 0, none⟩)) ∧ Sch w' W.heap.size [] ∧ Below W.heap.size W w' := by
  go_enter Try.func25, Try.ntmps25
  go_wp2_with fail
  go_ret
  exact ⟨rfl, ⟨Nat.zero_le _, [], zrest, heap_alloc_new W _, rfl, TabsC.nil _⟩, below_alloc W _⟩

def AllFew (ts : List T) : Prop := ∀ t ∈ ts, Few t
theorem AllFew.nil : AllFew [] := fun t h => by simp at h
theorem AllFew.add {ts : List T} (h : AllFew ts) (t : T) : AllFew (addT ts t) := by
  unfold addT
  split
  · rename_i h0
    intro u hu
    rw [List.mem_append, List.mem_singleton] at hu
    rcases hu with hu | rfl
    · exact h u hu
    · obtain ⟨h1, h2, h3⟩ := few_of h0
      exact ⟨by unfold formT; simpa using h1, h2, h3⟩
  · exact h
theorem few_zero : Few zeroT := ⟨by decide, by decide, fun d h => by simp [zeroT] at h⟩
theorem few_find {ts : List T} (h : AllFew ts) (x : ByteArray) : Few (orT (findT ts x)) := by
  unfold orT
  cases hf : findT ts x with
  | none => exact few_zero
  | some t => exact h t (List.mem_of_find?_eq_some hf)

set_option maxRecDepth 100000 in
set_option maxHeartbeats 1000000 in
theorem sFind_any {pv : Value} {ts : List T} {x : ByteArray} {W : World} (h : SchP W pv ts) (hf : AllFew ts) : Calls Try.prog 51 #[pv, .string x] W (GivesT (orT (findT ts x)) (hasT ts x) W) := by
  have hfew := few_find hf x
  have hB0 := below_alloc W (boxT e0 (.slice none 0 0) e0 (.slice none 0 0))
  have h0 := heap_alloc_new W (boxT e0 (.slice none 0 0) e0 (.slice none 0 0))
  have hfi := sfind_any (x := x) (h.later hB0)
  generalize orT (findT ts x) = t at hfi hfew ⊢
  generalize hasT ts x = ok at hfi ⊢
  obtain ⟨S, hS⟩ : ∃ S, W.heap.size = S := ⟨_, rfl⟩
  obtain ⟨w0, hw0⟩ : ∃ w0, W.alloc (boxT e0 (.slice none 0 0) e0 (.slice none 0 0)) = w0 := ⟨_, rfl⟩
  rw [hw0] at hB0 h0 hfi
  rw [hS] at h0
  have HB := Lib.hid (And.intro hB0 (And.intro h0 hfew))
  have HW := Lib.hid hw0
  have HS := Lib.hid hS
  clear h hf hw0 hS hB0 h0 hfew
  go_enter Try.func51, Try.ntmps51
  go_upto_region 1 with fail
  rw [HW.out, HS.out]
  go_wp2_with (first
    | (go_at_call 45; (with_reducible refine hfi.mono ?_); rintro e w1 ⟨p1, n1, c1, p2, n2, c2, rfl, hr, hb⟩; have hb1 := below_alloc w1 (boxT t.nm (.slice p1 n1 c1) t.key (.slice p2 n2 c2)); have hcp := copied_any (hr.later hb1) HB.out.2.2; have H1 := Lib.hid (And.intro hb hb1); clear hb hb1 hr hfi)
    | (go_at_call 43; (with_reducible refine hcp.mono ?_); rintro e w2 ⟨q1, d1, q2, d2, ps, rfl, hO, hb2⟩; have hres := heap_on hb2 (heap_on H1.out.2 (heap_on H1.out.1 HB.out.2.1)); have z0 := nd_cell hres 0; have z1 := nd_cell hres 1; have z2 := nd_cell hres 2; have z3 := nd_cell hres 3; have zf := fun i => frozen_of_row w2 S i _ _ hres; have zl := lt_of_heap hres; have H2 := Lib.hid (And.intro hO (And.intro (below_on (below_on (below_on HB.out.1 H1.out.1) H1.out.2) hb2) hres)); clear hO hb2 hcp hres))
  have hS4 := set4 H2.out.2.2 (.string t.nm) (.slice q1 t.cols.length d1) (.string t.key) (.slice q2 t.deps.length d2)
  have hBx := below_set4 H2.out.2.1 (Nat.le_of_eq HS.out) (.string t.nm) (.slice q1 t.cols.length d1) (.string t.key) (.slice q2 t.deps.length d2)
  have hKp := kp_set4 H2.out.2.2 (.inr rfl) (.string t.nm) (.slice q1 t.cols.length d1) (.string t.key) (.slice q2 t.deps.length d2)
  generalize (((w2.setCell _ _).setCell _ _).setCell _ _).setCell _ _ = wz at hS4 hBx hKp ⊢
  have y0 := nd_cell hS4 0
  have y1 := nd_cell hS4 1
  have y2 := nd_cell hS4 2
  have y3 := nd_cell hS4 3
  refine bodyPost_ret (v := .tuple #[.agg #[.string t.nm, (.slice q1 t.cols.length d1), .string t.key, (.slice q2 t.deps.length d2)], .bool ok]) (by simp [results, Try.results51, go_sem, y0, y1, y2, y3]) rfl ?_
  exact ⟨_, _, _, _, _, _, rfl, H2.out.1.rd.kp hKp, hBx⟩

set_option maxRecDepth 100000 in
set_option maxHeartbeats 1000000 in
theorem sCol_any {pv : Value} {ts : List T} {x c : ByteArray} {W : World} (h : SchP W pv ts) : Calls Try.prog 30 #[pv, .string x, .string c] W fun e w' => e = .returned (.tuple #[colV (orC (colOf (orT (findT ts x)).cols c)), .bool (hasC (orT (findT ts x)).cols c)]) ∧ Below W.heap.size W w' := by
  have hB0 := below_alloc W (.cells #[.string e0, .int .i64 0, .bool false, .string e0] 33)
  have h0 := heap_alloc_new W (.cells #[.string e0, .int .i64 0, .bool false, .string e0] 33)
  have hfi := sfind_any (x := x) (h.later hB0)
  generalize orT (findT ts x) = t at hfi ⊢
  generalize hasT ts x = ok at hfi ⊢
  have hcl := fun (w : World) (v : Value) (hr : RdC w v t.cols) => column_any (x := c) hr
  generalize orC (colOf t.cols c) = k at hcl ⊢
  generalize hasC t.cols c = ok2 at hcl ⊢
  unfold colV at hcl ⊢
  obtain ⟨S, hS⟩ : ∃ S, W.heap.size = S := ⟨_, rfl⟩
  obtain ⟨w0, hw0⟩ : ∃ w0, W.alloc (.cells #[.string e0, .int .i64 0, .bool false, .string e0] 33) = w0 := ⟨_, rfl⟩
  rw [hw0] at hB0 h0 hfi
  rw [hS] at h0
  have HB := Lib.hid (And.intro hB0 h0)
  have HW := Lib.hid hw0
  have HS := Lib.hid hS
  clear h hw0 hS hB0 h0
  go_enter Try.func30, Try.ntmps30
  go_upto_region 1 with fail
  rw [HW.out, HS.out]
  go_wp2_with (first
    | (go_at_call 45; (with_reducible refine hfi.mono ?_); rintro e w1 ⟨p1, n1, c1, p2, n2, c2, rfl, hr, hb⟩; have hb1 := below_alloc w1 (boxT t.nm (.slice p1 n1 c1) t.key (.slice p2 n2 c2)); have hcp := hcl _ _ (hr.later hb1).c; have H1 := Lib.hid (And.intro hb hb1); clear hb hb1 hr hfi hcl)
    | (go_at_call 46; (with_reducible refine hcp.mono ?_); rintro e w2 ⟨rfl, hb2⟩; have hres := heap_on hb2 (heap_on H1.out.2 (heap_on H1.out.1 HB.out.2)); have z0 := nd_cell hres 0; have z1 := nd_cell hres 1; have z2 := nd_cell hres 2; have z3 := nd_cell hres 3; have zf := fun i => frozen_of_row w2 S i _ _ hres; have zl := lt_of_heap hres; have H2 := Lib.hid (And.intro (below_on (below_on (below_on HB.out.1 H1.out.1) H1.out.2) hb2) hres); clear hb2 hcp hres))
  have hS4 := set4 H2.out.2 (.string k.nm) (.int .i64 k.kd) (.bool k.mu) (.string k.tgt)
  have hBx := below_set4 H2.out.1 (Nat.le_of_eq HS.out) (.string k.nm) (.int .i64 k.kd) (.bool k.mu) (.string k.tgt)
  generalize (((w2.setCell _ _).setCell _ _).setCell _ _).setCell _ _ = wz at hS4 hBx ⊢
  have y0 := nd_cell hS4 0
  have y1 := nd_cell hS4 1
  have y2 := nd_cell hS4 2
  have y3 := nd_cell hS4 3
  refine bodyPost_ret (v := .tuple #[.agg #[.string k.nm, .int .i64 k.kd, .bool k.mu, .string k.tgt], .bool ok2]) (by simp [results, Try.results30, go_sem, y0, y1, y2, y3]) rfl ?_
  exact ⟨rfl, hBx⟩

theorem RdTs.later' {W W' : World} {v : Value} {ts : List T} (h : RdTs W v ts) (hb : Below W.heap.size W W') : RdTs W' v ts := h.later hb
set_option maxRecDepth 100000 in
set_option maxHeartbeats 1000000 in
theorem sNames_any {pv : Value} {ts : List T} {W : World} (h : SchP W pv ts) (hl : ts.length ≤ 1000) : Calls Try.prog 55 #[pv] W fun e w' => ∃ v', e = .returned v' ∧ HRow w' W.heap.size 9 1 v' ts.length (cellsS (ts.map T.nm)) ∧ Below W.heap.size W w' := by
  have hth := there_any h
  clear h
  obtain ⟨n, hn⟩ : ∃ n, ts.length = n := ⟨_, rfl⟩
  rw [hn] at hl ⊢
  have HNN := Lib.hid hn
  clear hn
  go_enter Try.func55, Try.ntmps55
  go_wp2_with (go_at_call 66; (with_reducible refine hth.mono ?_); rintro e w1 ⟨v, rfl, hr, hb⟩; clear hth; obtain ⟨p, cap, hv, hc, hm⟩ := hr.slice; rw [HNN.out] at hv hc; subst hv; have H1 := Lib.hid (And.intro hr (And.intro hb HNN.out)); clear hr hb)
  clear hm
  go_loopg [3, 9] (n + 1) (fun gh v jv w => ∃ (j : Nat), jv = .int .i64 (j : Int) ∧ j ≤ n ∧ n + 1 ≤ j + gh ∧ HRow w w1.heap.size 9 1 v j (cellsS ((ts.take j).map T.nm)) ∧ Below w1.heap.size w1 w)
  case atStart => exact ⟨0, rfl, Nat.zero_le _, by omega, HRow.nil, Below.refl _ _⟩
  case round =>
    obtain ⟨j, rfl, hj, hg, hR, hB⟩ := hrel
    obtain ⟨pv', cv', rfl, _, _⟩ := hR.isslice
    have hrw : RdTs wr (.slice p n cap) ts := H1.out.1.later hB
    have HI := Lib.hid (And.intro hR hB)
    by_cases hlt : j < n
    · have hjl : j < ts.length := by rw [H1.out.2.2]; exact hlt
      obtain ⟨b, off, cv, dv, rfl, hb, c0, c1, c2, c3, hrt⟩ := RdTs.tab hrw hjl
      obtain ⟨t, htj⟩ : ∃ t, ts[j] = t := ⟨_, rfl⟩
      rw [htj] at c0 c2 hrt
      obtain ⟨p1, cp1, rfl, _, _⟩ := hrt.1.slice
      obtain ⟨p2, cp2, rfl, _, _⟩ := hrt.2.slice
      generalize t.cols.length = m1 at *
      generalize t.deps.length = m2 at *
      have hba := below_alloc wr (boxT t.nm (.slice p1 m1 cp1) t.key (.slice p2 m2 cp2))
      obtain ⟨g, cap', w3, hrun, r3, g3, o3⟩ := app_one (ty := 23) Try.underlying23 info9 (by kernel_rfl) (by decide) (by decide) (wr.alloc (boxT t.nm (.slice p1 m1 cp1) t.key (.slice p2 m2 cp2))) w1.heap.size (hR.later hba) (by omega) (Nat.le_trans hB.size hba.size) #[.string t.nm] rfl (by intro u hu; simp only [List.mem_cons, List.not_mem_nil, or_false] at hu; subst hu; rfl)
      have htk : cellsS ((ts.take (j + 1)).map T.nm) = cellsS ((ts.take j).map T.nm) ++ [.string t.nm] := by rw [List.take_succ_eq_append_getElem hjl, htj]; simp [cellsS]
      have H3 := Lib.hid (And.intro r3 (And.intro ((hB.alloc hB.size _).trans (below_row (hR.later hba) g3 (Nat.le_refl _) (Nat.le_trans hB.size hba.size))) htk))
      rw [World.size_alloc] at hrun
      clear hR hB hrt hrw hba r3 g3 o3 htj htk
      go_wp2_with (at_builtin; refine wpList_append_run rfl (.tmp 13) (.tmp 16) 23 rfl rfl rfl hrun ?_)
      go_roundg (n - j)
      case measure => omega
      case rel => exact ⟨j + 1, by go_num, by omega, by omega, by rw [H3.out.2.2]; exact H3.out.1, H3.out.2.1⟩
    · obtain rfl : j = n := by omega
      clear hR hB hrw
      go_wp2_with fail
      go_ret
      have e : ts.take j = ts := List.take_of_length_le (by rw [H1.out.2.2]; exact Nat.le_refl _)
      refine ⟨_, rfl, ?_, below_on H1.out.2.1 HI.out.2⟩
      have := HI.out.1
      rw [e] at this
      exact this.mono H1.out.2.1.size
end Go.Proofs.Ytcgceigcegddlaa
