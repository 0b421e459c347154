/- count, uncount, At. -/
import Derived.Test.YtglfmbpcapendaaO2

namespace Go.Proofs.Ytglfmbpcapendaa.S
open Go Go.RowKit Go.Shelf Go.Proofs Go.Proofs.Ytglfmbpcapendaa
section
variable {cb : Nat} {kind n : Int} {v : Value} {L : List (K 12 × Int)} {W0 W W' : World}
theorem grown_set (W : World) (a : Addr) (u : Value) : W.grownBy (W.setCell a u) (some a.block) := ⟨rfl, rfl, rfl, by simp [World.setCell], fun _ _ hk => Below.heap_setCell _ _ _ _ (fun e => hk (by rw [e]))⟩
set_option maxRecDepth 100000 in
theorem count_null (h : Cm cb kind v n L W0 W) (n1 : Int) (s : ByteArray) (hn : 0 ≤ n ∧ n ≤ 1000000) : Calls Try.prog 20 #[(Value.pointer (some ⟨cb, 0, none⟩)), (Value.agg #[Value.int .i64 (0), Value.int .i64 (n1), Value.string (s)])] W fun e w' => e = .returned (.tuple #[]) ∧ Cm cb kind v (n + 1) L W0 w' ∧ Chg (fun b => b = cb) W w' := by
  have hlt := h.lt
  have c4 := h.c4
  have fz := h.dm.fz 4
  have hw : IntKind.i64.wrap (n + 1) = n + 1 := by rw [IntKind.wrap_i64]; omega
  go_enter Try.func20, Try.ntmps20
  go_wp2
  go_end0
  exact ⟨rfl, (h.set4 _).later (below_alloc _ _), ((Chg.refl (fun b => b = cb) W).setCell (fun _ => rfl) _).alloc _⟩
set_option maxRecDepth 100000 in
theorem uncount_null (h : Cm cb kind v n L W0 W) (n1 : Int) (s : ByteArray) (hn : 1 ≤ n ∧ n ≤ 1000000) : Calls Try.prog 21 #[(Value.pointer (some ⟨cb, 0, none⟩)), (Value.agg #[Value.int .i64 (0), Value.int .i64 (n1), Value.string (s)])] W fun e w' => e = .returned (.tuple #[]) ∧ Cm cb kind v (n - 1) L W0 w' ∧ Chg (fun b => b = cb) W w' := by
  have hlt := h.lt
  have c4 := h.c4
  have fz := h.dm.fz 4
  have hw : IntKind.i64.wrap (n - 1) = n - 1 := by rw [IntKind.wrap_i64]; omega
  go_enter Try.func21, Try.ntmps21
  go_wp2
  go_end0
  exact ⟨rfl, (h.set4 _).later (below_alloc _ _), ((Chg.refl (fun b => b = cb) W).setCell (fun _ => rfl) _).alloc _⟩
set_option maxRecDepth 100000 in
theorem count_other (h : Cm cb kind v n L W0 W) (n1 : Int) (s : ByteArray) (k : Int) (hk0 : k ≠ 0) (hk2 : k ≠ 2) : Calls Try.prog 20 #[(Value.pointer (some ⟨cb, 0, none⟩)), (Value.agg #[Value.int .i64 (k), Value.int .i64 (n1), Value.string (s)])] W fun e w' => e = .returned (.tuple #[]) ∧ Below W.heap.size W w' := by
  have hlt := h.lt
  have c4 := h.c4
  have fz := h.dm.fz 4
  have e0 : (k == 0) = false := by simp [hk0]
  have e2 : (k == 2) = false := by simp [hk2]
  go_enter Try.func20, Try.ntmps20
  go_wp2
  go_end0
  exact ⟨rfl, below_alloc W _⟩
set_option maxRecDepth 100000 in
theorem uncount_other (h : Cm cb kind v n L W0 W) (n1 : Int) (s : ByteArray) (k : Int) (hk0 : k ≠ 0) (hk2 : k ≠ 2) : Calls Try.prog 21 #[(Value.pointer (some ⟨cb, 0, none⟩)), (Value.agg #[Value.int .i64 (k), Value.int .i64 (n1), Value.string (s)])] W fun e w' => e = .returned (.tuple #[]) ∧ Below W.heap.size W w' := by
  have hlt := h.lt
  have c4 := h.c4
  have fz := h.dm.fz 4
  have e0 : (k == 0) = false := by simp [hk0]
  have e2 : (k == 2) = false := by simp [hk2]
  go_enter Try.func21, Try.ntmps21
  go_wp2
  go_end0
  exact ⟨rfl, below_alloc W _⟩
set_option maxRecDepth 100000 in
set_option maxHeartbeats 1000000 in
theorem count_text (h : Cm cb kind v n L W0 W) (n1 : Int) (s : ByteArray) (hs : s.size ≤ 12) (hl : L.length + 1 ≤ 999999) (ht : tm (wd s) L + 1 ≤ 1000000) : Calls Try.prog 20 #[(Value.pointer (some ⟨cb, 0, none⟩)), (Value.agg #[Value.int .i64 (2), Value.int .i64 (n1), Value.string (s)])] W fun e w' => e = .returned (.tuple #[]) ∧ Cm cb kind v n (insL keyOf (wd s) (tm (wd s) L + 1) L) W0 w' ∧ Chg (fun b => b = cb) W w' := by
  have hlt := h.lt
  have hnew := heap_alloc_new W (.cells #[.int .i64 2, .int .i64 n1, .string s] 28)
  have hbel := below_alloc W (.cells #[.int .i64 2, .int .i64 n1, .string s] 28)
  obtain ⟨B, hB⟩ : ∃ B, W.heap.size = B := ⟨_, rfl⟩
  have hws := wd_val hs
  rw [hB] at hnew hbel hlt
  have HK := Lib.hid (show (fun w : World => w.cell? ⟨B, 2, none⟩ = some (.string s) ∧ Below B W w ∧ B < w.heap.size) (W.alloc (.cells #[.int .i64 2, .int .i64 n1, .string s] 28)).drew from
    ⟨nd_cell hnew 2, hbel.drew, by show B < (W.alloc _).heap.size; simp; omega⟩)
  have h : ∀ {y : World}, Below B W y → Cm cb kind v n L W0 y := fun hb => h.later (hB ▸ hb)
  have hcal := fun (y : World) (hy : Below B W y) => add_any (wd s) (h hy).dm hl ht
  simp only [hws] at hcal
  clear hnew hbel
  go_enter Try.func20, Try.ntmps20
  go_wp2_with fail
  refine Par.wp_region_par 5 [.pointer (some ⟨cb, 0, none⟩), .pointer (some ⟨cb, 0, none⟩), .pointer (some ⟨cb, 2, none⟩), .pointer (some ⟨B, 2, none⟩), .string s] (fun w => w.cell? ⟨B, 2, none⟩ = some (.string s) ∧ Below B W w ∧ B < w.heap.size) ?A1 ?hm1 ?hB1 ?hA1 HK.out ?hop1 ?hT1
  case hm1 => kernel_rfl
  case hB1 => kernel_rfl
  case hA1 =>
    simp only [Par.putA, Par.dstAt, Act.put, List.getElem?_toArray, List.getElem?_cons_zero, List.getElem?_cons_succ, Option.bind_some, List.setIfInBounds_toArray, List.set_cons_zero, List.set_cons_succ, List.getD_cons_zero, List.getD_cons_succ]
    rfl
  case hop1 =>
    simp only [List.take_succ_cons, List.take_zero, Par.GiveAll, and_true]
    refine ⟨fun w' hR => ?_, fun w' hR => ?_, fun w' hR => ?_, fun w' hR => ?_, fun w' hR => ?_⟩
    · have HR := Lib.hid hR
      clear hR
      simp only [Par.Gives]
      go_simp
      all_goals exact HR.out
    · have HR := Lib.hid hR
      clear hR
      simp only [Par.Gives]
      go_simp
      all_goals exact HR.out
    · have HR := Lib.hid hR
      clear hR
      simp only [Par.Gives]
      go_simp
      all_goals exact HR.out
    · have HR := Lib.hid hR
      clear hR
      simp only [Par.Gives]
      go_simp
      all_goals exact HR.out
    · have HR := Lib.hid hR
      obtain ⟨b2, hW, hB⟩ := hR
      simp only [Par.Gives]
      go_simp
      all_goals exact HR.out
  case hT1 =>
    intro w' hR
    simp only [List.drop_succ_cons, List.drop_zero]
    have hbW := hR.2.1
    have hh := hcal w' hbW
    go_wp2_with (go_at_call 24; (with_reducible refine hh.mono ?_); rintro e w3 ⟨rfl, d3, c3⟩)
    go_end0
    exact ⟨rfl, (h hbW).map d3 c3, (Chg.of_below (S := fun b => b = cb) (hB.symm ▸ hbW)).trans c3.chg (fun _ _ x => x) (fun _ _ x => x)⟩
set_option maxRecDepth 100000 in
set_option maxHeartbeats 1000000 in
theorem uncount_text (h : Cm cb kind v n L W0 W) (n1 : Int) (s : ByteArray) (hs : s.size ≤ 12) (hl : L.length + 1 ≤ 999999) : Calls Try.prog 21 #[(Value.pointer (some ⟨cb, 0, none⟩)), (Value.agg #[Value.int .i64 (2), Value.int .i64 (n1), Value.string (s)])] W fun e w' => e = .returned (.tuple #[]) ∧ Cm cb kind v n (takeL (wd s) L) W0 w' ∧ Chg (fun b => b = cb) W w' := by
  have hlt := h.lt
  have hnew := heap_alloc_new W (.cells #[.int .i64 2, .int .i64 n1, .string s] 28)
  have hbel := below_alloc W (.cells #[.int .i64 2, .int .i64 n1, .string s] 28)
  obtain ⟨B, hB⟩ : ∃ B, W.heap.size = B := ⟨_, rfl⟩
  have hws := wd_val hs
  rw [hB] at hnew hbel hlt
  have HK := Lib.hid (show (fun w : World => w.cell? ⟨B, 2, none⟩ = some (.string s) ∧ Below B W w ∧ B < w.heap.size) (W.alloc (.cells #[.int .i64 2, .int .i64 n1, .string s] 28)).drew from
    ⟨nd_cell hnew 2, hbel.drew, by show B < (W.alloc _).heap.size; simp; omega⟩)
  have h : ∀ {y : World}, Below B W y → Cm cb kind v n L W0 y := fun hb => h.later (hB ▸ hb)
  have hcal := fun (y : World) (hy : Below B W y) => take_any (wd s) (h hy).dm hl
  simp only [hws] at hcal
  clear hnew hbel
  go_enter Try.func21, Try.ntmps21
  go_wp2_with fail
  refine Par.wp_region_par 5 [.pointer (some ⟨cb, 0, none⟩), .pointer (some ⟨cb, 0, none⟩), .pointer (some ⟨cb, 2, none⟩), .pointer (some ⟨B, 2, none⟩), .string s] (fun w => w.cell? ⟨B, 2, none⟩ = some (.string s) ∧ Below B W w ∧ B < w.heap.size) ?A2 ?hm2 ?hB2 ?hA2 HK.out ?hop2 ?hT2
  case hm2 => kernel_rfl
  case hB2 => kernel_rfl
  case hA2 =>
    simp only [Par.putA, Par.dstAt, Act.put, List.getElem?_toArray, List.getElem?_cons_zero, List.getElem?_cons_succ, Option.bind_some, List.setIfInBounds_toArray, List.set_cons_zero, List.set_cons_succ, List.getD_cons_zero, List.getD_cons_succ]
    rfl
  case hop2 =>
    simp only [List.take_succ_cons, List.take_zero, Par.GiveAll, and_true]
    refine ⟨fun w' hR => ?_, fun w' hR => ?_, fun w' hR => ?_, fun w' hR => ?_, fun w' hR => ?_⟩
    · have HR := Lib.hid hR
      clear hR
      simp only [Par.Gives]
      go_simp
      all_goals exact HR.out
    · have HR := Lib.hid hR
      clear hR
      simp only [Par.Gives]
      go_simp
      all_goals exact HR.out
    · have HR := Lib.hid hR
      clear hR
      simp only [Par.Gives]
      go_simp
      all_goals exact HR.out
    · have HR := Lib.hid hR
      clear hR
      simp only [Par.Gives]
      go_simp
      all_goals exact HR.out
    · have HR := Lib.hid hR
      obtain ⟨b2, hW, hB⟩ := hR
      simp only [Par.Gives]
      go_simp
      all_goals exact HR.out
  case hT2 =>
    intro w' hR
    simp only [List.drop_succ_cons, List.drop_zero]
    have hbW := hR.2.1
    have hh := hcal w' hbW
    go_wp2_with (go_at_call 25; (with_reducible refine hh.mono ?_); rintro e w3 ⟨rfl, d3, c3⟩)
    go_end0
    exact ⟨rfl, (h hbW).map d3 c3, (Chg.of_below (S := fun b => b = cb) (hB.symm ▸ hbW)).trans c3.chg (fun _ _ x => x) (fun _ _ x => x)⟩
set_option maxRecDepth 100000 in
set_option maxHeartbeats 1000000 in
theorem at_in {l : List T3} {base : Nat} (h : Cm cb kind v n L W0 W) (hr : HRow W base 28 3 v l.length (cells3 l)) (i : Nat) (hi : i < l.length) : Calls Try.prog 12 #[(Value.pointer (some ⟨cb, 0, none⟩)), (Value.int .i64 ((i : Int)))] W fun e w' => e = .returned (.tuple #[(Value.agg #[Value.int .i64 ((l[i]).1), Value.int .i64 ((l[i]).2.1), Value.string ((l[i]).2.2)]), .bool true]) ∧ Below W.heap.size W w' := by
  have hlt := h.lt
  have c1 := h.c1
  have hlen := fun y (hy : Below W.heap.size W y) => clen_any (h.later hy) (hr.later hy)
  obtain ⟨g, cap, rfl, hnc, _⟩ := hr.slice (by omega)
  obtain ⟨h0, h1, h2⟩ := cells3_at l i hi
  have a0 := hr.cell h0
  have a1 := hr.cell h1
  have a2 := hr.cell h2
  have hg := (hr.lt g rfl).2
  have b0 := hlen _ (below_alloc W (.cells #[.int .i64 0, .int .i64 0, .string ⟨#[]⟩] 28))
  generalize l[i] = x at a0 a1 a2 ⊢
  obtain ⟨k, n1, s⟩ := x
  obtain ⟨m, hm⟩ : ∃ m, l.length = m := ⟨_, rfl⟩
  rw [hm] at hi b0 hnc c1
  have d0 : decide ((i : Int) < 0) = false := decide_eq_false (by omega)
  have d1 : decide ((m : Int) ≤ (i : Int)) = false := decide_eq_false (by omega)
  have d2 : (i : Int) < (m : Int) := by omega
  clear h0 h1 h2 hlen hr h hm
  go_enter Try.func12, Try.ntmps12
  go_wp2_with (go_at_call 14; (with_reducible refine b0.mono ?_); rintro e w' ⟨rfl, hw⟩; subst w')
  refine bodyPost_ret (v := .tuple #[(Value.agg #[Value.int .i64 (k), Value.int .i64 (n1), Value.string (s)]), .bool true]) (by simp [results, Try.results12, go_sem]) rfl ?_
  exact ⟨rfl, by first | exact below_alloc W _ | exact (below_alloc W _).setCell (Nat.le_refl _) _⟩
end
end Go.Proofs.Ytglfmbpcapendaa.S
