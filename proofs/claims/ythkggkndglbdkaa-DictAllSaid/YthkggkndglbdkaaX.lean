import Derived.Test.YthkggkndglbdkaaV2
namespace Go.Proofs.Ythkggkndglbdkaa.S
open Go Go.RowKit Go.Shelf Go.Proofs Go.Proofs.Ythkggkndglbdkaa
variable {M : Nat}

def cutB (m : Nat) (s : ByteArray) : ByteArray := if m < s.size then s.extract 0 m else s
theorem cutB_le (m : Nat) (s : ByteArray) : (cutB m s).size ≤ m := by
  unfold cutB; split
  · rw [ByteArray.size_extract]; omega
  · omega
theorem cut_any (s : ByteArray) (w : World) : Calls Try.prog 8 #[.string s, (Value.int .i64 (10))] w fun e w' => e = .returned (.string (cutB 10 s)) ∧ w' = w := by
  unfold cutB
  by_cases h : 10 < s.size
  · rw [if_pos h]
    go_enter Try.func8, Try.ntmps8
    go_wp2
    go_ret
    exact ⟨rfl, rfl⟩
  · rw [if_neg h]
    go_enter Try.func8, Try.ntmps8
    go_wp2
    go_ret
    exact ⟨rfl, rfl⟩
abbrev cutK (s : ByteArray) : K 10 := ⟨cutB 10 s, cutB_le 10 s⟩
abbrev txt (s : K M) : Value := .agg #[.int .i64 2, .int .i64 0, .string s.1]
theorem below_alloc2 (W : World) (a b : Obj) : Below W.heap.size W ((W.alloc a).alloc b) := below_on (below_alloc W a) (below_alloc _ b)
set_option maxHeartbeats 800000 in
theorem refcmp_any (x y : K M) (w : World) : Calls Try.prog 40 #[txt x, txt y] w fun e w' => e = .returned (Value.int .i64 (cmp3 (keyOf x) (keyOf y))) ∧ Below w.heap.size w w' := by
  have h1 := str_lt x y
  have h2 := str_eq x y
  by_cases hlt : keyOf x < keyOf y
  · have e0 : cmp3 (keyOf x) (keyOf y) = -1 := by unfold cmp3; rw [if_pos hlt]
    have e1 : Op.bytesLess x.1.toList y.1.toList = true := by rw [h1]; exact decide_eq_true hlt
    rw [e0]
    clear h1 h2 e0
    go_enter Try.func40, Try.ntmps40
    go_wp2
    go_ret
    exact ⟨rfl, below_alloc2 _ _ _⟩
  · have e1 : Op.bytesLess x.1.toList y.1.toList = false := by rw [h1]; exact decide_eq_false hlt
    by_cases hgt : keyOf y < keyOf x
    · have e0 : cmp3 (keyOf x) (keyOf y) = 1 := by unfold cmp3; rw [if_neg hlt, if_pos hgt]
      have e2 : (x.1.toList == y.1.toList) = false := by rw [h2]; exact decide_eq_false (by omega)
      rw [e0]
      clear h1 h2 e0
      go_enter Try.func40, Try.ntmps40
      go_wp2
      go_ret
      exact ⟨rfl, below_alloc2 _ _ _⟩
    · have e0 : cmp3 (keyOf x) (keyOf y) = 0 := by unfold cmp3; rw [if_neg hlt, if_neg hgt]
      have e2 : (x.1.toList == y.1.toList) = true := by rw [h2]; exact decide_eq_true (by omega)
      rw [e0]
      clear h1 h2 e0
      go_enter Try.func40, Try.ntmps40
      go_wp2
      go_ret
      exact ⟨rfl, below_alloc2 _ _ _⟩
def yesB (op a b : Int) : Bool := if op = 1 then decide (a = b) else if op = 3 then decide (a < b) else if op = 4 then decide (a ≤ b) else if op = 5 then decide (b < a) else decide (b ≤ a)
set_option maxRecDepth 100000 in
set_option maxHeartbeats 800000 in
theorem reftest_any (op : Int) (ho : isSp op) (x y : K M) (w : World) : Calls Try.prog 26 #[(Value.int .i64 (op)), txt x, txt y] w fun e w' => e = .returned (.bool (yesB op (keyOf x) (keyOf y))) ∧ Below w.heap.size w w' := by
  have hc := fun W => refcmp_any x y W
  have hcases : (cmp3 (keyOf x) (keyOf y) = -1 ∧ keyOf x < keyOf y) ∨ (cmp3 (keyOf x) (keyOf y) = 0 ∧ keyOf x = keyOf y) ∨ (cmp3 (keyOf x) (keyOf y) = 1 ∧ keyOf y < keyOf x) := by
    unfold cmp3
    rcases Int.lt_trichotomy (keyOf x) (keyOf y) with h | h | h
    · exact .inl ⟨by rw [if_pos h], h⟩
    · exact .inr (.inl ⟨by rw [if_neg (by omega), if_neg (by omega)], h⟩)
    · exact .inr (.inr ⟨by rw [if_neg (by omega), if_pos h], h⟩)
  rcases ho with rfl | rfl | rfl | rfl | rfl
  all_goals
    rcases hcases with ⟨hv, hk⟩ | ⟨hv, hk⟩ | ⟨hv, hk⟩
    all_goals
      simp only [hv] at hc
      clear hv
      have HK := Lib.hid hk
      clear hk
      go_enter Try.func26, Try.ntmps26
      go_wp2_with (go_at_call 40; (with_reducible refine (hc _).mono ?_); rintro e x1 ⟨rfl, b1⟩)
      go_ret
      have hk := HK.out
      exact ⟨by simp [yesB]; omega, (below_alloc2 w _ _).trans (b1.mono (below_alloc2 w _ _).size)⟩
end Go.Proofs.Ythkggkndglbdkaa.S
