/- Runs, as pairs. -/
import Derived.Test.YtpdidlnbeahanaaJO
import Derived.Laws.OwnMore
namespace Go.Proofs.Ytpdidlnbeahanaa
open Go Go.RowKit Go.Proofs

def cells2 (l : List R2) : List Value := l.flatMap fun x => [.int .i64 x.1, .int .i64 x.2]
theorem cells2_append (xs ys : List R2) : cells2 (xs ++ ys) = cells2 xs ++ cells2 ys := by simp [cells2]
theorem cells2_cons (x : R2) (r : List R2) : cells2 (x :: r) = .int .i64 x.1 :: .int .i64 x.2 :: cells2 r := by simp [cells2]
theorem cells2_len (xs : List R2) : (cells2 xs).length = xs.length * 2 := by
  induction xs with
  | nil => rfl
  | cons x r ih => rw [cells2_cons, List.length_cons, List.length_cons, List.length_cons, ih]; omega
theorem cells2_at (xs : List R2) (i : Nat) (x : R2) (h : xs[i]? = some x) : (cells2 xs)[i * 2]? = some (.int .i64 x.1) ∧ (cells2 xs)[i * 2 + 1]? = some (.int .i64 x.2) := by
  induction xs generalizing i with
  | nil => simp at h
  | cons y r ih =>
    cases i with
    | zero => simp at h; subst h; simp [cells2_cons]
    | succ i =>
      have := ih i (by simpa using h)
      rw [cells2_cons, show (i + 1) * 2 = i * 2 + 1 + 1 by omega]
      simp only [List.getElem?_cons_succ]
      exact this
theorem cells2_set (xs : List R2) (i : Nat) (x : R2) : cells2 (xs.set i x) = ((cells2 xs).set (i * 2) (.int .i64 x.1)).set (i * 2 + 1) (.int .i64 x.2) := by
  induction xs generalizing i with
  | nil => simp [cells2]
  | cons y r ih =>
    cases i with
    | zero => simp [cells2_cons]
    | succ i =>
      rw [List.set_cons_succ, cells2_cons, cells2_cons, ih i, show (i + 1) * 2 = i * 2 + 1 + 1 by omega]
      simp only [List.set_cons_succ]
theorem cells2_zeros (n : Nat) : cells2 (List.replicate n (0, 0)) = List.replicate (n * 2) (Value.int .i64 0) := by
  induction n with
  | zero => rfl
  | succ n ih => rw [List.replicate_succ, cells2_cons, ih, show (n + 1) * 2 = n * 2 + 1 + 1 by omega, List.replicate_succ, List.replicate_succ]
theorem made2 (n : Nat) : (madeCells #[Value.int .i64 0, Value.int .i64 0] (n * 2)).toList = cells2 (List.replicate n (0, 0)) := by
  rw [cells2_zeros]
  apply List.ext_getElem (by simp [madeCells])
  intro i h1 h2
  have hm : i % 2 = 0 ∨ i % 2 = 1 := by omega
  simp only [madeCells, Array.toList_map, List.getElem_map, List.getElem_replicate, Array.toList_range, List.getElem_range]
  rcases hm with h | h
  · simp [h]
  · simp [h]
theorem info43 : (Try.prog.info? 43).map (fun i => (i.zero, i.size, i.bytes)) = some (some (.agg #[.int .i64 0, .int .i64 0]), 2, 16) := by kernel_rfl
/-- A row of pairs. -/
abbrev Rp (W : World) (base : Nat) (v : Value) (l : List R2) : Prop := HRow W base 43 2 v l.length (cells2 l)
theorem make_pairs (n : Nat) (hn : n ≤ 65536) (w : World) : ∃ w', (Instr.makeSlice 42 (.int .i64 (n : Int)) (.int .i64 (n : Int))).run Try.prog w = .ok (.slice (some ⟨w.heap.size, 0, none⟩) n n) w' ∧ HRow w' w.heap.size 43 2 (.slice (some ⟨w.heap.size, 0, none⟩) n n) n (cells2 (List.replicate n (0, 0))) ∧ w.grownBy w' none := by
  obtain ⟨i0, hi0, hz0, hz1, hz2⟩ := info_parts info43
  obtain ⟨w', h1, h2, h3⟩ := run_make_full (P := Try.prog) w w.heap.size 42 43 i0 _ 2 Try.underlying42 hi0 hz0 hz1 .i64 .i64 n (by rw [hz2]; omega) (by unfold maxLen; omega) (Nat.le_refl _)
  refine ⟨w', h1, ?_, h3⟩
  rw [← made2]
  exact HRow.of_own h2
/-- A pair put into a row. -/
theorem Rp.put {w : World} {base g cap : Nat} {l : List R2} (h : HRow w base 43 2 (.slice (some ⟨g, 0, none⟩) l.length cap) l.length (cells2 l)) (i : Nat) (x : R2) :
    HRow ((w.setCell ⟨g, i * 2, none⟩ (Value.int .i64 (x.1))).setCell ⟨g, i * 2 + 1, none⟩ (Value.int .i64 (x.2))) base 43 2 (.slice (some ⟨g, 0, none⟩) l.length cap) l.length (cells2 (l.set i x)) ∧
      w.grownBy ((w.setCell ⟨g, i * 2, none⟩ (Value.int .i64 (x.1))).setCell ⟨g, i * 2 + 1, none⟩ (Value.int .i64 (x.2))) (some g) := by
  obtain ⟨h1, h2⟩ := HRow.stored h (i * 2) (Value.int .i64 (x.1))
  obtain ⟨h3, h4⟩ := HRow.stored h1 (i * 2 + 1) (Value.int .i64 (x.2))
  rw [cells2_set]
  exact ⟨h3, ⟨h4.os.trans h2.os, h4.tape.trans h2.tape, h4.output.trans h2.output, Nat.le_trans h2.size h4.size, fun k hk hne => (h4.block k (Nat.lt_of_lt_of_le hk h2.size) hne).trans (h2.block k hk hne)⟩⟩

/-- The answer is a row of the runs l. -/
def RunsAre (l : List R2) (W : World) (e : Ending) (w' : World) : Prop := ∃ v, e = .returned v ∧ Rp w' 0 v l ∧ Below W.heap.size W w'
set_option maxRecDepth 100000 in
set_option maxHeartbeats 2000000 in
theorem runs_any {la : List R2} {va : Value} {W : World} (ha : Nrm la) (hva : Mv W va la) : Calls Try.prog 29 #[.agg #[va]] W (RunsAre la W) := by
  have hla := runs_len ha
  obtain ⟨pa, ca, rfl, _, _⟩ := hva.slice
  have h0 := heap_alloc_new W (.cells #[.slice pa la.length ca] 27)
  have hB := below_alloc W (.cells #[.slice pa la.length ca] 27)
  obtain ⟨na, hna⟩ : ∃ na, la.length = na := ⟨_, rfl⟩
  obtain ⟨S, hS⟩ : ∃ S, W.heap.size = S := ⟨_, rfl⟩
  rw [hna] at hla h0 hB ⊢
  rw [hS] at h0
  obtain ⟨w1, hw1⟩ : ∃ w1, W.alloc (.cells #[.slice pa na ca] 27) = w1 := ⟨_, rfl⟩
  rw [hw1] at h0 hB
  obtain ⟨w2, hmk, r2, g2⟩ := make_pairs na hla w1
  have hB2 : Below W.heap.size W w2 := hB.trans ⟨g2.os, g2.tape, g2.output, g2.size, fun k hk => g2.block k (by have := hB.size; omega) (by simp)⟩
  have hz1 : S < w1.heap.size := lt_of_heap h0
  have h2 : w2.heap[S]? = some (.cells #[.slice pa na ca] 27) := (g2.block S hz1 (by simp)).trans h0
  have HW := Lib.hid (And.intro hva (And.intro hna (And.intro hS (And.intro hw1 (And.intro hB2 (And.intro ha (And.intro r2 hz1)))))))
  have c1 := nd_cell h0 0
  have c2 := nd_cell h2 0
  obtain ⟨mb, hmb⟩ : ∃ mb, w1.heap.size = mb := ⟨_, rfl⟩
  rw [hmb] at hmk
  have HM := Lib.hid hmb
  clear hva hna hS hB hB2 ha r2 g2 h0 h2 hw1 hz1
  go_enter Try.func29, Try.ntmps29
  go_upto_region 1 with fail
  rw [HW.out.2.2.2.1, HW.out.2.2.1]
  go_upto_block 0 with fail
  go_wp2_with fail
  go_loopg [13] (na + 1) (fun gh jv w => ∃ (j : Nat) (X : List R2), jv = .int .i64 (j : Int) ∧ j ≤ na ∧ na + 1 ≤ j + gh ∧ X.length = na ∧ X.take j = la.take j ∧ HRow w mb 43 2 (.slice (some ⟨mb, 0, none⟩) na na) na (cells2 X) ∧ Below mb w2 w)
  case atStart => exact ⟨0, List.replicate na (0, 0), rfl, Nat.zero_le _, by omega, by simp, rfl, by have := HW.out.2.2.2.2.2.2.1; rw [HM.out] at this; exact this, Below.refl _ _⟩
  case round =>
    obtain ⟨j, X, rfl, hj, hg, hX, htk, hR, hB⟩ := hrel
    have hBW : Below W.heap.size W wr := HW.out.2.2.2.2.1.trans (hB.mono (by have h1 := HW.out.2.2.2.2.2.2.2; have h2 := HW.out.2.2.1; have h3 := HM.out; omega))
    have HR := Lib.hid (And.intro hX (And.intro htk (And.intro hR (And.intro hB hBW))))
    clear hX htk hB hBW
    by_cases hlt : j < na
    · have hja : j < la.length := by rw [HW.out.2.1]; exact hlt
      have hjX : j < X.length := by rw [HR.out.1]; exact hlt
      have hva := HW.out.1.later HR.out.2.2.2.2
      obtain ⟨g, rfl, hg', a0, a1, a2⟩ := hva.run hja
      clear hva
      generalize ((els (la.take j)).length : Int) = ra at a2
      obtain ⟨r, hr⟩ : ∃ r, la[j] = r := ⟨_, rfl⟩
      rw [hr] at a0 a1
      have HX : Hid ((X.set j r).take (j + 1) = la.take (j + 1)) := Lib.hid (by
        rw [List.take_succ_eq_append_getElem hja, List.take_succ_eq_append_getElem (by simpa using hjX), List.take_set, hr, List.set_eq_of_length_le (by simp; omega), HR.out.2.1, List.getElem_set_self])
      clear hr
      obtain ⟨f1, t1⟩ := r
      have hmw := (HRow.lt hR mb rfl).2
      obtain ⟨q0, q1⟩ := cells2_at X j X[j] (List.getElem?_eq_getElem hjX)
      have e0 := HRow.cell hR q0
      have e1 := HRow.cell hR q1
      have z0 := HRow.frozenAt hR (j * 2)
      have z1 := HRow.frozenAt hR (j * 2 + 1)
      have HP := Lib.hid (Rp.put (l := X) (by rw [HR.out.1]; exact hR) j (f1, t1))
      clear q0 q1 hR
      go_wp2_with fail
      go_roundg (na - j)
      case measure => omega
      case rel =>
        obtain ⟨h1, h2⟩ := HP.out
        rw [HR.out.1] at h1
        have hb : Below mb wr ((wr.setCell ⟨mb, j * 2, none⟩ (Value.int .i64 (f1))).setCell ⟨mb, j * 2 + 1, none⟩ (Value.int .i64 (t1))) := ((Below.refl mb wr).setCell (Nat.le_refl _) _).setCell (Nat.le_refl _) _
        exact ⟨j + 1, X.set j (f1, t1), by go_num, by omega, by omega, by simp [HR.out.1], HX.out, HRow.later h1 (below_alloc _ _), (HR.out.2.2.2.1.trans hb).alloc (by simp; omega) _⟩
    · have e : X = la := by
        have h := HR.out.2.1
        rw [List.take_of_length_le (by rw [HR.out.1]; omega), List.take_of_length_le (by rw [HW.out.2.1]; omega)] at h
        exact h
      have hE : RunsAre la W (.returned (.slice (some ⟨mb, 0, none⟩) na na)) wr := ⟨_, rfl, by
        have h := HRow.mono hR (Nat.zero_le mb)
        rw [e] at h
        rw [← HW.out.2.1] at h ⊢
        exact h, HR.out.2.2.2.2⟩
      have HE := Lib.hid hE
      clear e hE hR
      go_wp2_with fail
      go_ret
      exact HE.out
end Go.Proofs.Ytpdidlnbeahanaa
