/- Contracts: Eq, holds, Test; the reference's Compare, Eq, Test. -/
import Derived.Test.YtkgjfedpjbnjkaaDoorD
namespace Go.Proofs.YtkgjfedpjbnjkaaDoor
open Go Go.RowKit

def holdsV (op c : Int) : Bool :=
  if op = 1 then c == 0 else if op = 2 then c != 0 else if op = 3 then decide (c < 0) else if op = 4 then decide (c ≤ 0) else if op = 5 then decide (0 < c) else if op = 6 then decide (0 ≤ c) else false
def testV (op k1 n1 : Int) (l1 : List UInt8) (k2 n2 : Int) (l2 : List UInt8) : Bool :=
  if op = 7 then k1 == 0 else if op = 8 then k1 != 0 else if k1 = 0 ∨ k1 ≠ k2 then false else holdsV op (cmpV k1 n1 l1 k2 n2 l2)

theorem eq_any (k1 n1 : Int) (s1 : ByteArray) (k2 n2 : Int) (s2 : ByteArray) (w : World) :
    Calls Tryd.prog 17 #[.agg #[.int .i64 k1, .int .i64 n1, .string s1], .agg #[.int .i64 k2, .int .i64 n2, .string s2]] w fun e w' => e = .returned (.bool (cmpV k1 n1 s1.data.toList k2 n2 s2.data.toList == 0)) ∧ Below w.heap.size w w' := by
  go_enter Tryd.func17, Tryd.ntmps17
  go_wp2_with (go_at_call 15; refine (compare_any _ _ _ _ _ _ _).mono ?_; rintro e w' ⟨rfl, hb⟩)
  go_ret
  exact ⟨rfl, ((below_alloc1 _ _).alloc (by simp) _).trans (hb.mono (by simp; omega))⟩

set_option maxHeartbeats 400000 in
theorem holds_any (op c : Int) (w : World) :
    Calls Tryd.prog 36 #[.int .i64 op, .int .i64 c] w fun e w' => e = .returned (.bool (holdsV op c)) ∧ w = w' := by
  by_cases h1 : op = 1
  · subst h1
    go_enter Tryd.func36, Tryd.ntmps36
    go_wp2
    go_ret
    exact ⟨ret_bool (by simp [holdsV]), rfl⟩
  by_cases h2 : op = 2
  · subst h2
    go_enter Tryd.func36, Tryd.ntmps36
    go_wp2
    go_ret
    exact ⟨ret_bool (by simp [holdsV]), rfl⟩
  by_cases h3 : op = 3
  · subst h3
    go_enter Tryd.func36, Tryd.ntmps36
    go_wp2
    go_ret
    exact ⟨ret_bool (by simp [holdsV]), rfl⟩
  by_cases h4 : op = 4
  · subst h4
    go_enter Tryd.func36, Tryd.ntmps36
    go_wp2
    go_ret
    exact ⟨ret_bool (by simp [holdsV]), rfl⟩
  by_cases h5 : op = 5
  · subst h5
    go_enter Tryd.func36, Tryd.ntmps36
    go_wp2
    go_ret
    exact ⟨ret_bool (by simp [holdsV]), rfl⟩
  by_cases h6 : op = 6
  · subst h6
    go_enter Tryd.func36, Tryd.ntmps36
    go_wp2
    go_ret
    exact ⟨ret_bool (by simp [holdsV]), rfl⟩
  · go_enter Tryd.func36, Tryd.ntmps36
    go_wp2
    go_ret
    exact ⟨ret_bool (by simp [holdsV, h1, h2, h3, h4, h5, h6]), rfl⟩

set_option maxHeartbeats 400000 in
theorem test_any (op k1 n1 : Int) (s1 : ByteArray) (k2 n2 : Int) (s2 : ByteArray) (w : World) :
    Calls Tryd.prog 19 #[.int .i64 op, .agg #[.int .i64 k1, .int .i64 n1, .string s1], .agg #[.int .i64 k2, .int .i64 n2, .string s2]] w fun e w' => e = .returned (.bool (testV op k1 n1 s1.data.toList k2 n2 s2.data.toList)) ∧ Below w.heap.size w w' := by
  by_cases h7 : op = 7
  · subst h7
    go_enter Tryd.func19, Tryd.ntmps19
    go_wp2
    go_ret
    exact ⟨ret_bool (by simp [testV]), (below_alloc1 _ _).alloc (by simp) _⟩
  by_cases h8 : op = 8
  · subst h8
    go_enter Tryd.func19, Tryd.ntmps19
    go_wp2
    go_ret
    exact ⟨ret_bool (by simp [testV]), (below_alloc1 _ _).alloc (by simp) _⟩
  by_cases k0 : k1 = 0
  · subst k0
    go_enter Tryd.func19, Tryd.ntmps19
    go_wp2
    go_ret
    exact ⟨ret_bool (by simp [testV, h7, h8]), (below_alloc1 _ _).alloc (by simp) _⟩
  have kb : (k1 == 0) = false := beq_eq_false_iff_ne.2 k0
  by_cases ke : k1 = k2
  · subst ke
    go_enter Tryd.func19, Tryd.ntmps19
    go_wp2_with (first
      | (go_at_call 15; refine (compare_any _ _ _ _ _ _ _).mono ?_; rintro e w' ⟨rfl, hb⟩)
      | (go_at_call 36; refine (holds_any _ _ _).mono ?_; rintro e w' ⟨rfl, rfl⟩))
    go_ret
    exact ⟨ret_bool (by simp [testV, h7, h8, k0]), ((below_alloc1 _ _).alloc (by simp) _).trans (hb.mono (by simp; omega))⟩
  · have kc : (k1 == k2) = false := beq_eq_false_iff_ne.2 ke
    go_enter Tryd.func19, Tryd.ntmps19
    go_wp2
    go_ret
    exact ⟨ret_bool (by simp [testV, h7, h8, ke]), (below_alloc1 _ _).alloc (by simp) _⟩
end Go.Proofs.YtkgjfedpjbnjkaaDoor
