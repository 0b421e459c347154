/- The walk of WideNum. -/
import Derived.Test.YtfcllangolinaaaL
namespace Go.Proofs.Ytfcllangolinaaa
open Go Go.RowKit

theorem num_small (a : Int) (h0 : -9223372036854775808 ≤ a) (h1 : a ≤ 9223372036854775807) : numV a = a ∧ numB a = true := by
  have e : sm a = a := sm_small (by omega) (by omega)
  unfold numV numB; rw [e, if_pos ⟨h0, h1⟩]; exact ⟨rfl, decide_eq_true ⟨h0, h1⟩⟩
theorem num_out (a : Int) (h : a < -9223372036854775808 ∨ 9223372036854775807 < a) (h0 : -170141183460469231731687303715884105728 ≤ a) (h1 : a < 170141183460469231731687303715884105728) : numV a = 0 ∧ numB a = false := by
  have e : sm a = a := sm_small h0 h1
  have hn : ¬ (-9223372036854775808 ≤ a ∧ a ≤ 9223372036854775807) := by omega
  unfold numV numB; rw [e, if_neg hn]; exact ⟨rfl, decide_eq_false hn⟩
theorem sum_wrap (a b : Int) : wrap64 (IntKind.u64.wrap (IntKind.u64.wrap a + IntKind.u64.wrap b)) = wrap64 (a + b) := by
  rw [IntKind.wrap_u64, IntKind.wrap_u64, IntKind.wrap_u64]; unfold wrap64; omega

theorem sum_wrapB (a b : Int) : wrap64 (IntKind.u64.wrap (a + IntKind.u64.wrap b)) = wrap64 (a + b) := by
  rw [IntKind.wrap_u64, IntKind.wrap_u64]; unfold wrap64; omega
theorem sum_wrapC (a b : Int) : wrap64 (IntKind.u64.wrap (IntKind.u64.wrap a + b)) = wrap64 (a + b) := by
  rw [IntKind.wrap_u64, IntKind.wrap_u64]; unfold wrap64; omega

set_option maxRecDepth 10000 in
set_option maxHeartbeats 4000000 in
theorem wideNum_over (a b c : Int) (ha0 : -9223372036854775808 ≤ a) (ha1 : a ≤ 9223372036854775807) (hb0 : -9223372036854775808 ≤ b) (hb1 : b ≤ 9223372036854775807)
    (hcA : wrap64 (a + b) = c) (hcB : wrap64 (IntKind.u64.wrap (a + IntKind.u64.wrap b)) = c) (hcC : wrap64 (IntKind.u64.wrap (IntKind.u64.wrap a + b)) = c) (hc : wrap64 (IntKind.u64.wrap (IntKind.u64.wrap a + IntKind.u64.wrap b)) = c) (hn : numV (a + b) = 0 ∧ numB (a + b) = false) (hcase : (0 ≤ a ∧ 0 ≤ b ∧ c < 0) ∨ (a < 0 ∧ b < 0 ∧ 0 ≤ c)) (w : World) :
    Calls Try.prog 7 #[.int .i64 a, .int .i64 b] w fun e w' => e = .returned (.bool true) ∧ Below w.heap.size w w' := by
  have HA := Lib.hid (num_small a ha0 ha1)
  have HN := Lib.hid hn
  have HB0 := Lib.hid (Below.refl w.heap.size w)
  have HC := Lib.hid (And.intro hcA (And.intro hcB (And.intro hcC hc)))
  clear hn hcA hcB hcC hc
  rcases hcase with ⟨k1, k2, k3⟩ | ⟨k1, k2, k3⟩
  all_goals
    try have a0 : decide (a < 0) = false := decide_eq_false (by omega)
    try have a1 : decide (a < 0) = true := decide_eq_true (by omega)
    try have a2 : decide (0 ≤ a) = false := decide_eq_false (by omega)
    try have a3 : decide (0 ≤ a) = true := decide_eq_true (by omega)
    try have b0 : decide (b < 0) = false := decide_eq_false (by omega)
    try have b1 : decide (b < 0) = true := decide_eq_true (by omega)
    try have b2 : decide (0 ≤ b) = false := decide_eq_false (by omega)
    try have b3 : decide (0 ≤ b) = true := decide_eq_true (by omega)
    try have c0 : decide (c < 0) = false := decide_eq_false (by omega)
    try have c1 : decide (c < 0) = true := decide_eq_true (by omega)
    try have c2 : decide (0 ≤ c) = false := decide_eq_false (by omega)
    try have c3 : decide (0 ≤ c) = true := decide_eq_true (by omega)
    go_enter Try.func7, Try.ntmps7
    go_wp2_with fail
    refine (begun_any _).mono ?_
    rintro e w1 ⟨rfl, hb⟩
    have HB1 := Lib.hid (HB0.out.trans (hb.mono HB0.out.size))
    clear hb
    go_wp2_with fail
    refine (of_any a _ ha0 ha1).mono ?_
    rintro e w2 ⟨rfl, hb⟩
    have HB2 := Lib.hid (HB1.out.trans (hb.mono HB1.out.size))
    clear hb
    go_wp2_with fail
    refine (num_lit a a true HA.out.1 HA.out.2 _).mono ?_
    rintro e w3 ⟨rfl, hb⟩
    have HB3 := Lib.hid (HB2.out.trans (hb.mono HB2.out.size))
    clear hb
    go_wp2_with fail
    refine (of_any a _ ha0 ha1).mono ?_
    rintro e w4 ⟨rfl, hb⟩
    have HB4 := Lib.hid (HB3.out.trans (hb.mono HB3.out.size))
    clear hb
    go_wp2_with fail
    refine (of_any b _ hb0 hb1).mono ?_
    rintro e w5 ⟨rfl, hb⟩
    have HB5 := Lib.hid (HB4.out.trans (hb.mono HB4.out.size))
    clear hb
    go_wp2_with fail
    refine (add_any a b _).mono ?_
    rintro e w6 ⟨rfl, hb⟩
    have HB6 := Lib.hid (HB5.out.trans (hb.mono HB5.out.size))
    clear hb
    go_wp2_with fail
    refine (num_lit (a + b) 0 false HN.out.1 HN.out.2 _).mono ?_
    rintro e w7 ⟨rfl, hb⟩
    have HB7 := Lib.hid (HB6.out.trans (hb.mono HB6.out.size))
    clear hb
    go_upto_region 7 with fail
    first | rw [HC.out.1] | rw [HC.out.2.1] | rw [HC.out.2.2.1] | rw [HC.out.2.2.2]
    go_wp2
    go_ret
    exact ⟨rfl, HB7.out⟩

set_option maxRecDepth 10000 in
set_option maxHeartbeats 4000000 in
theorem wideNum_in (a b c : Int) (ha0 : -9223372036854775808 ≤ a) (ha1 : a ≤ 9223372036854775807) (hb0 : -9223372036854775808 ≤ b) (hb1 : b ≤ 9223372036854775807)
    (hcA : wrap64 (a + b) = c) (hcB : wrap64 (IntKind.u64.wrap (a + IntKind.u64.wrap b)) = c) (hcC : wrap64 (IntKind.u64.wrap (IntKind.u64.wrap a + b)) = c) (hc : wrap64 (IntKind.u64.wrap (IntKind.u64.wrap a + IntKind.u64.wrap b)) = c) (hn : numV (a + b) = c ∧ numB (a + b) = true) (hcase : (0 ≤ a ∧ 0 ≤ b ∧ 0 ≤ c) ∨ (a < 0 ∧ b < 0 ∧ c < 0) ∨ (0 ≤ a ∧ b < 0) ∨ (a < 0 ∧ 0 ≤ b)) (w : World) :
    Calls Try.prog 7 #[.int .i64 a, .int .i64 b] w fun e w' => e = .returned (.bool true) ∧ Below w.heap.size w w' := by
  have HA := Lib.hid (num_small a ha0 ha1)
  have HN := Lib.hid hn
  have HB0 := Lib.hid (Below.refl w.heap.size w)
  have HC := Lib.hid (And.intro hcA (And.intro hcB (And.intro hcC hc)))
  clear hn hcA hcB hcC hc
  rcases hcase with ⟨k1, k2, k3⟩ | ⟨k1, k2, k3⟩ | ⟨k1, k2⟩ | ⟨k1, k2⟩
  all_goals
    try have a0 : decide (a < 0) = false := decide_eq_false (by omega)
    try have a1 : decide (a < 0) = true := decide_eq_true (by omega)
    try have a2 : decide (0 ≤ a) = false := decide_eq_false (by omega)
    try have a3 : decide (0 ≤ a) = true := decide_eq_true (by omega)
    try have b0 : decide (b < 0) = false := decide_eq_false (by omega)
    try have b1 : decide (b < 0) = true := decide_eq_true (by omega)
    try have b2 : decide (0 ≤ b) = false := decide_eq_false (by omega)
    try have b3 : decide (0 ≤ b) = true := decide_eq_true (by omega)
    try have c0 : decide (c < 0) = false := decide_eq_false (by omega)
    try have c1 : decide (c < 0) = true := decide_eq_true (by omega)
    try have c2 : decide (0 ≤ c) = false := decide_eq_false (by omega)
    try have c3 : decide (0 ≤ c) = true := decide_eq_true (by omega)
    go_enter Try.func7, Try.ntmps7
    go_wp2_with fail
    refine (begun_any _).mono ?_
    rintro e w1 ⟨rfl, hb⟩
    have HB1 := Lib.hid (HB0.out.trans (hb.mono HB0.out.size))
    clear hb
    go_wp2_with fail
    refine (of_any a _ ha0 ha1).mono ?_
    rintro e w2 ⟨rfl, hb⟩
    have HB2 := Lib.hid (HB1.out.trans (hb.mono HB1.out.size))
    clear hb
    go_wp2_with fail
    refine (num_lit a a true HA.out.1 HA.out.2 _).mono ?_
    rintro e w3 ⟨rfl, hb⟩
    have HB3 := Lib.hid (HB2.out.trans (hb.mono HB2.out.size))
    clear hb
    go_wp2_with fail
    refine (of_any a _ ha0 ha1).mono ?_
    rintro e w4 ⟨rfl, hb⟩
    have HB4 := Lib.hid (HB3.out.trans (hb.mono HB3.out.size))
    clear hb
    go_wp2_with fail
    refine (of_any b _ hb0 hb1).mono ?_
    rintro e w5 ⟨rfl, hb⟩
    have HB5 := Lib.hid (HB4.out.trans (hb.mono HB4.out.size))
    clear hb
    go_wp2_with fail
    refine (add_any a b _).mono ?_
    rintro e w6 ⟨rfl, hb⟩
    have HB6 := Lib.hid (HB5.out.trans (hb.mono HB5.out.size))
    clear hb
    go_wp2_with fail
    refine (num_lit (a + b) c true HN.out.1 HN.out.2 _).mono ?_
    rintro e w7 ⟨rfl, hb⟩
    have HB7 := Lib.hid (HB6.out.trans (hb.mono HB6.out.size))
    clear hb
    go_upto_region 7 with fail
    first | rw [HC.out.1] | rw [HC.out.2.1] | rw [HC.out.2.2.1] | rw [HC.out.2.2.2]
    go_wp2
    go_ret
    exact ⟨rfl, HB7.out⟩


theorem wideNum_walk (a b : Int) (ha0 : -9223372036854775808 ≤ a) (ha1 : a ≤ 9223372036854775807) (hb0 : -9223372036854775808 ≤ b) (hb1 : b ≤ 9223372036854775807) (w : World) :
    Calls Try.prog 7 #[.int .i64 a, .int .i64 b] w fun e w' => e = .returned (.bool true) ∧ Below w.heap.size w w' := by
  rcases (by omega : (-9223372036854775808 ≤ a + b ∧ a + b ≤ 9223372036854775807) ∨ (a + b < -9223372036854775808 ∨ 9223372036854775807 < a + b)) with h | h
  · have e3 : wrap64 (a + b) = a + b := by unfold wrap64; omega
    exact wideNum_in a b _ ha0 ha1 hb0 hb1 rfl (sum_wrapB a b) (sum_wrapC a b) (sum_wrap a b) (by rw [e3]; exact num_small (a + b) h.1 h.2) (by rw [e3]; omega) w
  · exact wideNum_over a b _ ha0 ha1 hb0 hb1 rfl (sum_wrapB a b) (sum_wrapC a b) (sum_wrap a b) (num_out (a + b) h (by omega) (by omega)) (by unfold wrap64; omega) w
end Go.Proofs.Ytfcllangolinaaa
