/- A Map in memory; looking it up. -/
import Derived.Test.YtpdidlnbeahanaaHR
import Derived.Test.YtpdidlnbeahanaaEq
import Derived.Test.YtpdidlnbeahanaaPar
import Derived.Test.YtpdidlnbeahanaaA2
namespace Go.Proofs.Ytpdidlnbeahanaa
open Go Go.RowKit Go.Proofs

def cellsI (l : List R3) : List Value := l.flatMap fun x => [.int .i64 x.1, .int .i64 x.2.1, .int .i64 x.2.2]
theorem cellsI_append (xs ys : List R3) : cellsI (xs ++ ys) = cellsI xs ++ cellsI ys := by simp [cellsI]
theorem cellsI_cons (x : R3) (r : List R3) : cellsI (x :: r) = .int .i64 x.1 :: .int .i64 x.2.1 :: .int .i64 x.2.2 :: cellsI r := by simp [cellsI]
theorem cellsI_len (xs : List R3) : (cellsI xs).length = xs.length * 3 := by
  induction xs with
  | nil => rfl
  | cons x r ih => rw [cellsI_cons, List.length_cons, List.length_cons, List.length_cons, List.length_cons, ih]; omega
theorem cellsI_at (xs : List R3) (i : Nat) (x : R3) (h : xs[i]? = some x) : (cellsI xs)[i * 3]? = some (.int .i64 x.1) ∧ (cellsI xs)[i * 3 + 1]? = some (.int .i64 x.2.1) ∧ (cellsI xs)[i * 3 + 2]? = some (.int .i64 x.2.2) := by
  induction xs generalizing i with
  | nil => simp at h
  | cons y r ih =>
    cases i with
    | zero => simp at h; subst h; simp [cellsI_cons]
    | succ i =>
      have := ih i (by simpa using h)
      rw [cellsI_cons, show (i + 1) * 3 = i * 3 + 1 + 1 + 1 by omega, show i * 3 + 1 + 1 + 1 + 1 = i * 3 + 1 + 1 + 1 + 1 by omega]
      simp only [List.getElem?_cons_succ]
      exact this
theorem cellsI_set1 (xs : List R3) (x : R3) (b : Int) : (cellsI (xs ++ [x])).set (xs.length * 3 + 1) (.int .i64 b) = cellsI (xs ++ [(x.1, b, x.2.2)]) := by
  rw [cellsI_append, cellsI_append, List.set_append_right _ _ (by rw [cellsI_len]; omega), cellsI_len, show xs.length * 3 + 1 - xs.length * 3 = 1 by omega]
  simp [cellsI]

/-- The value m is a Map of the runs l. -/
def Mv (W : World) (v : Value) (l : List R2) : Prop := HRow W 0 56 3 v l.length (cellsI (mk l))
theorem Mv.later {W W' : World} {v : Value} {l : List R2} (h : Mv W v l) (hb : Below W.heap.size W W') : Mv W' v l := HRow.later h hb
theorem Mv.nil (W : World) : Mv W (.slice none 0 0) [] := HRow.nil
theorem Mv.slice {W : World} {v : Value} {l : List R2} (h : Mv W v l) : ∃ p cap, v = .slice p l.length cap ∧ l.length ≤ cap ∧ cap ≤ maxLen := HRow.isslice h
/-- What the cells of the run j tell. -/
theorem Mv.run {W : World} {p : Option Addr} {cap : Nat} {l : List R2} (h : Mv W (.slice p l.length cap) l) {j : Nat} (hj : j < l.length) : ∃ g, p = some ⟨g, 0, none⟩ ∧ g < W.heap.size ∧
    W.cell? ⟨g, j * 3, none⟩ = some (Value.int .i64 (l[j].1)) ∧ W.cell? ⟨g, j * 3 + 1, none⟩ = some (Value.int .i64 (l[j].2)) ∧ W.cell? ⟨g, j * 3 + 2, none⟩ = some (Value.int .i64 ((((els (l.take j)).length : Nat) : Int))) := by
  obtain ⟨g, cap', e, _, _⟩ := HRow.slice h (by omega)
  cases e
  obtain ⟨c0, c1, c2⟩ := cellsI_at (mk l) j _ (mk_get l j hj)
  exact ⟨g, rfl, (HRow.lt h g rfl).2, HRow.cell h c0, HRow.cell h c1, HRow.cell h c2⟩

/-- A function value that answers p of the runs of l, wherever what lay below D is as it was. -/
def Fst (D : Nat) (W0 : World) (fv : Value) (l : List R2) (p : Nat → Bool) : Prop := ∃ (g : Nat) (lb : Array Value), fv = .func (.func g) #[] lb ∧ (∀ a w, (callFunc g a).run Try.prog w = .ok (.enter g a) w) ∧
  ∀ w j (h : j < l.length), Below D W0 w → Calls Try.prog g (#[(Value.agg #[Value.int .i64 ((l[j].1)), Value.int .i64 ((l[j].2)), Value.int .i64 (((els (l.take j)).length : Int))])] ++ lb) w fun e w' => e = .returned (.bool (p j)) ∧ Below w.heap.size w w'

theorem count1_any (f t c : Int) (W : World) : Calls Try.prog 39 #[(Value.agg #[Value.int .i64 (f), Value.int .i64 (t), Value.int .i64 (c)])] W fun e w' => e = .returned (.bool true) ∧ Below W.heap.size W w' := by
  go_enter Try.func39, Try.ntmps39
  go_wp2
  go_ret
  exact ⟨rfl, below_alloc W _⟩
theorem has1_any (f t c i : Int) (ib : Nat) (W : World) (h : W.cell? ⟨ib, 0, none⟩ = some (Value.int .i64 (i))) : Calls Try.prog 35 #[(Value.agg #[Value.int .i64 (f), Value.int .i64 (t), Value.int .i64 (c)]), (Value.pointer (some ⟨ib, 0, none⟩))] W fun e w' => e = .returned (.bool (decide (f ≤ i))) ∧ Below W.heap.size W w' := by
  have hlt : ib < W.heap.size := World.block_lt_of_cell? W ⟨ib, 0, none⟩ h
  go_enter Try.func35, Try.ntmps35
  go_wp2
  go_ret
  exact ⟨rfl, below_alloc W _⟩
theorem rank1_any (f t c i : Int) (ib : Nat) (W : World) (h : W.cell? ⟨ib, 0, none⟩ = some (Value.int .i64 (i))) : Calls Try.prog 36 #[(Value.agg #[Value.int .i64 (f), Value.int .i64 (t), Value.int .i64 (c)]), (Value.pointer (some ⟨ib, 0, none⟩))] W fun e w' => e = .returned (.bool (decide (f < i))) ∧ Below W.heap.size W w' := by
  have hlt : ib < W.heap.size := World.block_lt_of_cell? W ⟨ib, 0, none⟩ h
  go_enter Try.func36, Try.ntmps36
  go_wp2
  go_ret
  exact ⟨rfl, below_alloc W _⟩
theorem select1_any (f t c i : Int) (ib : Nat) (W : World) (h : W.cell? ⟨ib, 0, none⟩ = some (Value.int .i64 (i))) : Calls Try.prog 37 #[(Value.agg #[Value.int .i64 (f), Value.int .i64 (t), Value.int .i64 (c)]), (Value.pointer (some ⟨ib, 0, none⟩))] W fun e w' => e = .returned (.bool (decide (c ≤ i))) ∧ Below W.heap.size W w' := by
  have hlt : ib < W.heap.size := World.block_lt_of_cell? W ⟨ib, 0, none⟩ h
  go_enter Try.func37, Try.ntmps37
  go_wp2
  go_ret
  exact ⟨rfl, below_alloc W _⟩
end Go.Proofs.Ytpdidlnbeahanaa
