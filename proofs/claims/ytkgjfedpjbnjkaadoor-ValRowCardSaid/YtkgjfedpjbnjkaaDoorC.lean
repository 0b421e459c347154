/- Contracts: Cut, Val, num, text; comparing. -/
import Derived.Test.YtkgjfedpjbnjkaaDoorB
import Derived.Test.YtkgjfedpjbnjkaaDoorShelf
import Derived.StillTailTactics
namespace Go.Proofs.YtkgjfedpjbnjkaaDoor
open Go Go.RowKit

/-- What Cut leaves of a text. -/
def cutB (m : Nat) (s : ByteArray) : ByteArray := if m < s.size then s.extract 0 m else s
theorem cutB_size (m : Nat) (s : ByteArray) : (cutB m s).size ≤ m ∨ (cutB m s).size ≤ s.size := by
  unfold cutB; split
  · left; simp; omega
  · right; omega
theorem cutB_le (m : Nat) (s : ByteArray) : (cutB m s).size ≤ m := by
  unfold cutB; split
  · simp; omega
  · omega

theorem cut_any (s : ByteArray) (m : Int) (w : World) (_hs : s.size ≤ maxLen) (h0 : 0 ≤ m) (_h1 : m ≤ 1000) :
    Calls Tryd.prog 26 #[.string s, .int .i64 m] w fun e w' => e = .returned (.string (cutB m.toNat s)) ∧ w = w' := by
  obtain ⟨n, rfl⟩ := Int.eq_ofNat_of_zero_le h0
  rw [Int.toNat_natCast]
  unfold cutB
  by_cases h : n < s.size
  · rw [if_pos h]
    go_enter Tryd.func26, Tryd.ntmps26
    go_wp2
    go_ret
    exact ⟨rfl, rfl⟩
  · rw [if_neg h]
    go_enter Tryd.func26, Tryd.ntmps26
    go_wp2
    go_ret
    exact ⟨rfl, rfl⟩

theorem num_any (n : Int) (w : World) :
    Calls Tryd.prog 29 #[.int .i64 n] w fun e w' => e = .returned (.agg #[.int .i64 1, .int .i64 n, .string ⟨#[]⟩]) ∧ Below w.heap.size w w' := by
  go_enter Tryd.func29, Tryd.ntmps29
  go_wp2
  exact bodyPost_ret (v := .agg #[.int .i64 1, .int .i64 n, .string ⟨#[]⟩]) (by simp [results, Tryd.results29, go_sem]) rfl ⟨rfl, below_alloc1 _ _⟩

theorem text_any (s : ByteArray) (w : World) :
    Calls Tryd.prog 30 #[.string s] w fun e w' => e = .returned (.agg #[.int .i64 2, .int .i64 0, .string s]) ∧ Below w.heap.size w w' := by
  go_enter Tryd.func30, Tryd.ntmps30
  go_wp2
  exact bodyPost_ret (v := .agg #[.int .i64 2, .int .i64 0, .string s]) (by simp [results, Tryd.results30, go_sem]) rfl ⟨rfl, below_alloc1 _ _⟩

theorem val_any (k n : Int) (s : ByteArray) (w : World) (hs : s.size ≤ maxLen) :
    Calls Tryd.prog 12 #[.agg #[.int .i64 k, .int .i64 n, .string s]] w fun e w' => e = .returned (.agg #[.int .i64 k, .int .i64 n, .string (cutB 20 s)]) ∧ Below w.heap.size w w' := by
  go_enter Tryd.func12, Tryd.ntmps12
  go_wp2_with (go_at_call 26; refine (cut_any _ _ _ hs (by omega) (by omega)).mono ?_; rintro e w' ⟨rfl, rfl⟩)
  exact bodyPost_ret (v := .agg #[.int .i64 k, .int .i64 n, .string (cutB 20 s)]) (by simp [results, Tryd.results12, go_sem]) rfl ⟨rfl, (below_alloc1 _ _).alloc (by simp) _⟩

theorem cmp64_any (x y : Int) (w : World) :
    Calls Tryd.prog 34 #[.int .i64 x, .int .i64 y] w fun e w' => e = .returned (.int .i64 (Lib.compareInt x y)) ∧ w' = w := by
  unfold Lib.compareInt
  rcases Int.lt_trichotomy x y with h | h | h
  · rw [if_pos h]
    go_enter Tryd.func34, Tryd.ntmps34
    go_wp2
    go_ret
    exact ⟨rfl, rfl⟩
  · subst h
    rw [if_neg (by omega), if_neg (by omega)]
    go_enter Tryd.func34, Tryd.ntmps34
    go_wp2
    go_ret
    exact ⟨rfl, rfl⟩
  · rw [if_neg (by omega), if_pos (by omega)]
    go_enter Tryd.func34, Tryd.ntmps34
    go_wp2
    go_ret
    exact ⟨rfl, rfl⟩
end Go.Proofs.YtkgjfedpjbnjkaaDoor
