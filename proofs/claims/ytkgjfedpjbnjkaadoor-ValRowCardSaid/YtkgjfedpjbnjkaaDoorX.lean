/- Rows: nil ones too; what a row of the call's own is; Vals; Row and the reference's Row of any. -/
import Derived.Test.YtkgjfedpjbnjkaaDoorQ
import Derived.OwnWalk
import Derived.Laws.AppendOwn
namespace Go.Proofs.YtkgjfedpjbnjkaaDoor
open Go Go.RowKit

/-- A row as a slice value: nil and empty, or at the head of a block. -/
def RowV (w : World) (v : Value) (xs : List T3) : Prop :=
  (v = .slice none 0 0 ∧ xs = []) ∨ ∃ g cap, v = .slice (some ⟨g, 0, none⟩) xs.length cap ∧ RowAt w g xs
theorem RowV.on {w w' : World} {v : Value} {xs : List T3} (h : RowV w v xs) (hb : Below w.heap.size w w') : RowV w' v xs := by
  rcases h with h | ⟨g, cap, h1, h2⟩
  · exact .inl h
  · exact .inr ⟨g, cap, h1, h2.on hb⟩

theorem rowC_nil_l (ys : List T3) : rowC [] ys = if 0 < ys.length then -1 else 0 := by
  cases ys <;> simp [rowC]
theorem rowC_nil_r (xs : List T3) : rowC xs [] = if 0 < xs.length then 1 else 0 := by
  cases xs <;> simp [rowC]

set_option maxHeartbeats 1000000 in
/-- CompareFunc where the first list is nil. -/
theorem cmpFunc_nil (v : Value) (ys : List T3) (w : World) (hy : ys.length ≤ maxLen) (h2 : RowV w v ys) :
    Calls Tryd.prog 39 #[.slice none 0 0, v, .func (.func 15) #[] #[]] w fun e w' => e = .returned (.int .i64 (rowC [] ys)) ∧ Below w.heap.size w w' := by
  unfold maxLen at hy
  have hn := Lib.hid (rowC_nil_l ys)
  rcases h2 with ⟨rfl, rfl⟩ | ⟨g, cap, rfl, _⟩
  · go_enter Tryd.func39, Tryd.ntmps39
    go_wp2
    refine wp_loop_rounds 1 ?_
    rw [rounds_succ]
    go_wp2
    go_ret
    exact ⟨ret_int (by rw [hn.out]; rfl), Below.refl _ _⟩
  · by_cases h0 : 0 < ys.length
    · go_enter Tryd.func39, Tryd.ntmps39
      go_wp2
      refine wp_loop_rounds 1 ?_
      rw [rounds_succ]
      go_wp2
      go_ret
      exact ⟨ret_int (by rw [hn.out, if_pos h0]), Below.refl _ _⟩
    · go_enter Tryd.func39, Tryd.ntmps39
      go_wp2
      refine wp_loop_rounds 1 ?_
      rw [rounds_succ]
      go_wp2
      go_ret
      exact ⟨ret_int (by rw [hn.out, if_neg h0]), Below.refl _ _⟩

set_option maxHeartbeats 1000000 in
/-- CompareFunc where the second list alone is nil. -/
theorem cmpFunc_nil2 (g1 c1 : Nat) (xs : List T3) (w : World) (hx : xs.length ≤ maxLen) (h1 : RowAt w g1 xs) :
    Calls Tryd.prog 39 #[.slice (some ⟨g1, 0, none⟩) xs.length c1, .slice none 0 0, .func (.func 15) #[] #[]] w fun e w' => e = .returned (.int .i64 (rowC xs [])) ∧ Below w.heap.size w w' := by
  unfold maxLen at hx
  have hn := Lib.hid (rowC_nil_r xs)
  by_cases h0 : 0 < xs.length
  · obtain ⟨a0, a1, a2⟩ := h1.2 0 h0
    generalize xs[0] = x at a0 a1 a2
    obtain ⟨k1, n1, s1⟩ := x
    simp only at a0 a1 a2
    have hf : Below w.heap.size w (w.alloc (.cells #[.int .i64 k1, .int .i64 n1, .string s1] 23)) := below_alloc1 _ _
    have HF := Lib.hid hf
    clear hf h1
    go_enter Tryd.func39, Tryd.ntmps39
    go_wp2
    refine wp_loop_rounds 1 ?_
    rw [rounds_succ]
    go_wp2
    go_ret
    exact ⟨ret_int (by rw [hn.out, if_pos h0]), HF.out⟩
  · have e0 : xs.length = 0 := by omega
    go_enter Tryd.func39, Tryd.ntmps39
    go_wp2
    refine wp_loop_rounds 1 ?_
    rw [rounds_succ]
    go_wp2
    go_ret
    exact ⟨ret_int (by rw [hn.out, if_neg h0]), Below.refl _ _⟩

theorem rowV_any (v1 v2 : Value) (xs ys : List T3) (w : World) (hx : xs.length ≤ maxLen) (hy : ys.length ≤ maxLen) (h1 : RowV w v1 xs) (h2 : RowV w v2 ys) :
    Calls Tryd.prog 24 #[v1, v2] w fun e w' => e = .returned (.int .i64 (rowC xs ys)) ∧ Below w.heap.size w w' := by
  have hc : Calls Tryd.prog 39 #[v1, v2, .func (.func 15) #[] #[]] w fun e w' => e = .returned (.int .i64 (rowC xs ys)) ∧ Below w.heap.size w w' := by
    rcases h1 with ⟨rfl, rfl⟩ | ⟨g1, c1, rfl, r1⟩
    · exact cmpFunc_nil v2 ys w hy h2
    · rcases h2 with ⟨rfl, rfl⟩ | ⟨g2, c2, rfl, r2⟩
      · exact cmpFunc_nil2 g1 c1 xs w hx r1
      · exact cmpFunc_any g1 g2 c1 c2 xs ys w hx hy r1 r2
  have HC := Lib.hid hc
  clear hc h1 h2
  go_enter Tryd.func24, Tryd.ntmps24
  go_wp2_with fail
  refine (HC.out).mono ?_
  rintro e w' ⟨rfl, hb⟩
  go_wp2
  go_ret
  exact ⟨rfl, hb⟩
end Go.Proofs.YtkgjfedpjbnjkaaDoor
