/- Contracts of package wide's functions: Of, Add, Neg, Times. -/
import Derived.Test.YtfcllangolinaaaShelf
import Derived.Test.YtfcllangolinaaaM
import Derived.Shelf.Spec.BitsCarry
import Derived.WalkKit
import Derived.Below
import Derived.Lib.Hide
import Derived.Outline
import Derived.Deep.QuietTactic
import Derived.BigQuiet
namespace Go.Proofs.Ytfcllangolinaaa
open Go Go.RowKit

theorem below_alloc1 (w : World) (o : Obj) : Below w.heap.size w (w.alloc o) := (Below.refl _ _).alloc (Nat.le_refl _) _
theorem below_alloc2 (w : World) (o p : Obj) : Below w.heap.size w ((w.alloc o).alloc p) := (below_alloc1 w o).alloc (by simp) _
theorem below_alloc3 (w : World) (o p q : Obj) : Below w.heap.size w (((w.alloc o).alloc p).alloc q) := (below_alloc2 w o p).alloc (by simp; omega) _

theorem add64_run (x y : Int) (hx : 0 ≤ x) (hy : 0 ≤ y) (w : World) :
    (callFunc 26 #[.int .u64 x, .int .u64 y, .int .u64 0]).run Try.prog w = .ok (.value (.tuple #[.int .u64 ((x + y) % 18446744073709551616), .int .u64 ((x + y) / 18446744073709551616)])) w := by
  rw [run_callFunc_extern Try.func26 (by kernel_rfl) (by kernel_rfl) (by kernel_rfl) (e := add64Entry) (by kernel_rfl), run_add64 x y 0 hx hy (by omega) (by omega)]
  simp only [Result.andThen, Int.add_zero]
theorem sub64_zero (w : World) :
    (callFunc 27 #[.int .u64 0, .int .u64 0, .int .u64 0]).run Try.prog w = .ok (.value (.tuple #[.int .u64 0, .int .u64 0])) w := by
  rw [run_callFunc_extern Try.func27 (by kernel_rfl) (by kernel_rfl) (by kernel_rfl) (e := sub64Entry) (by kernel_rfl)]
  have h := run_sub64 (P := Try.prog) 0 0 0 (by omega) w
  rw [show ((0 : Nat) : Int) = 0 from rfl] at h
  rw [h]
  rfl
theorem sub64_pos (x : Int) (hx : 0 < x) (hx1 : x ≤ 18446744073709551615) (w : World) :
    (callFunc 27 #[.int .u64 0, .int .u64 x, .int .u64 0]).run Try.prog w = .ok (.value (.tuple #[.int .u64 (18446744073709551616 - x), .int .u64 1])) w := by
  obtain ⟨n, rfl⟩ := Int.eq_ofNat_of_zero_le (Int.le_of_lt hx)
  rw [run_callFunc_extern Try.func27 (by kernel_rfl) (by kernel_rfl) (by kernel_rfl) (e := sub64Entry) (by kernel_rfl)]
  have h := run_sub64 (P := Try.prog) 0 n 0 (by omega) w
  rw [show ((0 : Nat) : Int) = 0 from rfl] at h
  rw [h, if_pos (by omega), show (((0 + 18446744073709551616 - n - 0) % 18446744073709551616 : Nat) : Int) = 18446744073709551616 - (n : Int) from by omega]
  rfl
theorem mul64_any (x y : Int) (hx : 0 ≤ x) (hx1 : x ≤ 18446744073709551615) (hy : 0 ≤ y) (hy1 : y ≤ 18446744073709551615) (w : World) :
    Calls Try.prog 28 #[.int .u64 x, .int .u64 y] w fun e w' => e = .returned (.tuple #[.int .u64 (x * y / 18446744073709551616), .int .u64 (x * y % 18446744073709551616)]) ∧ w = w' := by
  obtain ⟨n, rfl⟩ := Int.eq_ofNat_of_zero_le hx
  obtain ⟨m, rfl⟩ := Int.eq_ofNat_of_zero_le hy
  refine (Try.bits_Mul64 n m (by omega) (by omega) w).mono ?_
  rintro e w' ⟨rfl, rfl⟩
  exact ⟨by simp, rfl⟩

set_option maxHeartbeats 400000 in
theorem of_any (n : Int) (w : World) (h0 : -9223372036854775808 ≤ n) (h1 : n ≤ 9223372036854775807) :
    Calls Try.prog 12 #[.int .i64 n] w fun e w' => e = .returned (.agg #[.int .i64 (hiOf n), .int .u64 (loOf n)]) ∧ Below w.heap.size w w' := by
  rw [hi_of n h0 h1, lo_of n]
  go_enter Try.func12, Try.ntmps12
  go_wp2
  exact bodyPost_ret (v := .agg #[.int .i64 (n / 9223372036854775808), .int .u64 (IntKind.u64.wrap n)]) (by simp [results, Try.results12, go_sem]) rfl ⟨rfl, below_alloc1 _ _⟩

theorem hi_add' (x y : Int) : hiOf (x + y) = wrap64 (wrap64 (hiOf x + hiOf y) + wrap64 ((loOf x + loOf y) / 18446744073709551616)) := by
  rw [hi_add, wrap64_wrap, wrap64_wrap2]
set_option maxHeartbeats 400000 in
theorem add_any (x y : Int) (w : World) :
    Calls Try.prog 11 #[.agg #[.int .i64 (hiOf x), .int .u64 (loOf x)], .agg #[.int .i64 (hiOf y), .int .u64 (loOf y)]] w fun e w' => e = .returned (.agg #[.int .i64 (hiOf (x + y)), .int .u64 (loOf (x + y))]) ∧ Below w.heap.size w w' := by
  have h26 := add64_run (loOf x) (loOf y) (lo_nn x) (lo_nn y)
  rw [hi_add', lo_add]
  go_enter Try.func11, Try.ntmps11
  go_wp2
  exact bodyPost_ret (v := .agg #[.int .i64 (wrap64 (wrap64 (hiOf x + hiOf y) + wrap64 ((loOf x + loOf y) / 18446744073709551616))), .int .u64 ((loOf x + loOf y) % 18446744073709551616)]) (by simp [results, Try.results11, go_sem]) rfl ⟨rfl, below_alloc3 _ _ _ _⟩

theorem wrap64_twice (a : Int) : wrap64 (wrap64 a) = wrap64 a := by unfold wrap64; omega
theorem times_low (a b c : Int) : wrap64 (wrap64 a + wrap64 (IntKind.u64.wrap (b - c))) = wrap64 (a + b - c) := by rw [IntKind.wrap_u64]; unfold wrap64; omega
set_option maxHeartbeats 400000 in
theorem neg_any (x : Int) (w : World) :
    Calls Try.prog 15 #[.agg #[.int .i64 (hiOf x), .int .u64 (loOf x)]] w fun e w' => e = .returned (.agg #[.int .i64 (hiOf (-x)), .int .u64 (loOf (-x))]) ∧ Below w.heap.size w w' := by
  have hb := lo_bd x
  rcases Int.lt_or_le 0 (loOf x) with h | h
  · have h27 := sub64_pos (loOf x) h hb.2
    rw [hi_neg1 x h, lo_neg, Int.emod_eq_of_lt (by omega) (by omega)]
    clear hb h
    go_enter Try.func15, Try.ntmps15
    go_wp2
    exact bodyPost_ret (v := .agg #[.int .i64 (wrap64 (wrap64 (-hiOf x) - 1)), .int .u64 (18446744073709551616 - loOf x)]) (by simp [results, Try.results15, go_sem]) rfl ⟨by rw [wrap64_sub], below_alloc2 _ _ _⟩
  · have h0 : loOf x = 0 := by omega
    rw [hi_neg0 x h0, lo_neg, h0]
    rw [show ((18446744073709551616 - 0 : Int) % 18446744073709551616) = 0 from by decide]
    have h27 := sub64_zero
    clear hb h h0
    go_enter Try.func15, Try.ntmps15
    go_wp2
    exact bodyPost_ret (v := .agg #[.int .i64 (wrap64 (wrap64 (-hiOf x))), .int .u64 0]) (by simp [results, Try.results15, go_sem]) rfl ⟨by rw [wrap64_twice], below_alloc2 _ _ _⟩

set_option maxHeartbeats 400000 in
theorem times_any (x n : Int) (w : World) (h0 : -9223372036854775808 ≤ n) (h1 : n ≤ 9223372036854775807) :
    Calls Try.prog 17 #[.agg #[.int .i64 (hiOf x), .int .u64 (loOf x)], .int .i64 n] w fun e w' => e = .returned (.agg #[.int .i64 (hiOf (x * n)), .int .u64 (loOf (x * n))]) ∧ Below w.heap.size w w' := by
  have hb := lo_bd x
  obtain ⟨u, hu⟩ : ∃ u, u = IntKind.u64.wrap n := ⟨_, rfl⟩
  have hu0 : 0 ≤ u := by rw [hu, IntKind.wrap_u64]; omega
  have hu1 : u ≤ 18446744073709551615 := by rw [hu, IntKind.wrap_u64]; omega
  rcases Int.lt_or_le n 0 with h | h
  · have e : u = n + 18446744073709551616 := by rw [hu, IntKind.wrap_u64]; omega
    rw [hi_times x n u (.inr e), lo_times x n u (.inr e), if_neg (by omega)]
    clear e
    rw [hu] at hu0 hu1 ⊢
    clear hu
    go_enter Try.func17, Try.ntmps17
    go_wp2_with (go_at_call 28; refine (mul64_any _ _ hb.1 hb.2 hu0 hu1 _).mono ?_; rintro e w' ⟨rfl, rfl⟩)
    exact bodyPost_ret (v := .agg #[.int .i64 (wrap64 (wrap64 (hiOf x * n) + wrap64 (IntKind.u64.wrap (loOf x * IntKind.u64.wrap n / 18446744073709551616 - loOf x)))), .int .u64 (loOf x * IntKind.u64.wrap n % 18446744073709551616)]) (by simp [results, Try.results17, go_sem]) rfl ⟨by rw [times_low], below_alloc2 _ _ _⟩
  · have e : u = n := by rw [hu, IntKind.wrap_u64]; omega
    rw [hi_times x n u (.inl e), lo_times x n u (.inl e), if_pos e]
    clear hu
    subst e
    go_enter Try.func17, Try.ntmps17
    go_wp2_with (go_at_call 28; refine (mul64_any _ _ hb.1 hb.2 hu0 hu1 _).mono ?_; rintro e w' ⟨rfl, rfl⟩)
    exact bodyPost_ret (v := .agg #[.int .i64 (wrap64 (wrap64 (hiOf x * u) + wrap64 (loOf x * u / 18446744073709551616))), .int .u64 (loOf x * u % 18446744073709551616)]) (by simp [results, Try.results17, go_sem]) rfl ⟨by rw [wrap64_wrap, wrap64_wrap2, Int.sub_zero], below_alloc2 _ _ _⟩
end Go.Proofs.Ytfcllangolinaaa
