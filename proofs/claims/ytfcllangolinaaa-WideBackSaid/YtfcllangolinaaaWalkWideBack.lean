/- The walk of WideBack. -/
import Derived.Test.YtfcllangolinaaaL
namespace Go.Proofs.Ytfcllangolinaaa
open Go Go.RowKit

theorem mul_bd (a n : Int) (ha0 : -9223372036854775808 ≤ a) (ha1 : a ≤ 9223372036854775807) (hn : 1 ≤ n) (hn1 : n ≤ 9223372036854775807) :
    -(9223372036854775808 * n) ≤ a * n ∧ a * n ≤ 9223372036854775807 * n := by
  have h1 := Int.mul_le_mul_of_nonneg_right ha0 (by omega : 0 ≤ n)
  have h2 := Int.mul_le_mul_of_nonneg_right ha1 (by omega : 0 ≤ n)
  rw [Int.neg_mul] at h1
  exact ⟨h1, h2⟩
/-- So many times, and what is left over towards 0, divided again. -/
theorem back_is (a n r s : Int) (ha0 : -9223372036854775808 ≤ a) (ha1 : a ≤ 9223372036854775807) (hn : 1 ≤ n) (hn1 : n ≤ 9223372036854775807)
    (hr0 : 0 ≤ r) (hr1 : r < n) (hs : 0 ≤ a → s = r) (hs2 : a < 0 → s = -r) : quoV (a * n + s) n = a ∧ quoB (a * n + s) n = true := by
  obtain ⟨b1, b2⟩ := mul_bd a n ha0 ha1 hn hn1
  have hsm : sm (a * n + s) = a * n + s := by
    refine sm_small ?_ ?_
    · rcases Int.lt_or_le a 0 with h | h
      · rw [hs2 h]; omega
      · rw [hs h]; have := Int.mul_nonneg h (by omega : 0 ≤ n); omega
    · rcases Int.lt_or_le a 0 with h | h
      · rw [hs2 h]; omega
      · rw [hs h]; omega
  have hz : quoZ (a * n + s) n = a := by
    unfold quoZ ab
    rw [hsm]
    rcases Int.lt_or_le a 0 with h | h
    · have h1 : a * n ≤ -n := by
        have := Int.mul_le_mul_of_nonneg_right (by omega : a ≤ -1) (by omega : 0 ≤ n)
        rw [Int.neg_mul, Int.one_mul] at this; exact this
      rw [hs2 h, if_pos (by omega), if_pos (by omega), show -(a * n + -r) = r + n * (-a) from by rw [Int.mul_neg, Int.mul_comm n a]; omega,
        Int.add_mul_ediv_left _ _ (by omega), Int.ediv_eq_zero_of_lt hr0 hr1]; omega
    · have h1 := Int.mul_nonneg h (by omega : 0 ≤ n)
      rw [hs h, if_neg (by omega), if_neg (by omega), show a * n + r = r + n * a from by rw [Int.mul_comm n a]; omega,
        Int.add_mul_ediv_left _ _ (by omega), Int.ediv_eq_zero_of_lt hr0 hr1]; omega
  have e : sm a = a := sm_small (by omega) (by omega)
  unfold quoV quoB
  rw [if_neg (by omega), if_neg (by omega), hz]
  unfold numV numB
  rw [e, if_pos ⟨ha0, ha1⟩]
  exact ⟨rfl, decide_eq_true ⟨ha0, ha1⟩⟩

set_option maxRecDepth 10000 in
set_option maxHeartbeats 4000000 in
theorem wideBack_pos (a n r : Int) (ha0 : -9223372036854775808 ≤ a) (ha1 : a ≤ 9223372036854775807) (hn : 1 ≤ n) (hn1 : n ≤ 9223372036854775807)
    (hr0 : 0 ≤ r) (hr1 : r < n) (hs : 0 ≤ a) (w : World) :
    Calls Try.prog 8 #[.int .i64 a, .int .i64 n, .int .i64 r] w fun e w' => e = .returned (.bool true) ∧ Below w.heap.size w w' := by
  have HB0 := Lib.hid (Below.refl w.heap.size w)
  have HQ := Lib.hid (back_is a n 0 0 ha0 ha1 hn hn1 (by omega) (by omega) (by omega) (by omega))
  rw [Int.add_zero] at HQ
  have HQ2 := Lib.hid (back_is a n r (r) ha0 ha1 hn hn1 hr0 hr1 (by omega) (by omega))
  have hn0 : -9223372036854775808 ≤ n := by omega
  have e1 : (a == a) = true := beq_self_eq_true _
  have e2 : (a != a) = false := by simp
  have d1 : decide (n < 1) = false := decide_eq_false (by omega)
  have d2 : decide (r < 0) = false := decide_eq_false (by omega)
  have d3 : decide (n ≤ r) = false := decide_eq_false (by omega)
  have d4 : decide (a < 0) = false := decide_eq_false (by omega)
  go_enter Try.func8, Try.ntmps8
  go_wp2_with fail
  refine (begun_any _).mono ?_
  rintro e w1 ⟨rfl, hb⟩
  have HB1 := Lib.hid (HB0.out.trans (hb.mono HB0.out.size))
  clear hb
  go_wp2_with fail
  refine (of_any a _ ha0 ha1).mono ?_
  rintro e w2 ⟨rfl, hb⟩
  have HB2 := Lib.hid (HB1.out.trans (hb.mono HB1.out.size))
  clear hb
  go_wp2_with fail
  refine (times_any a n _ hn0 hn1).mono ?_
  rintro e w3 ⟨rfl, hb⟩
  have HB3 := Lib.hid (HB2.out.trans (hb.mono HB2.out.size))
  clear hb
  go_wp2_with fail
  refine (quo_lit (a * n) n a true hn1 HQ.out.1 HQ.out.2 _).mono ?_
  rintro e w4 ⟨rfl, hb⟩
  have HB4 := Lib.hid (HB3.out.trans (hb.mono HB3.out.size))
  clear hb
  go_wp2_with fail
  refine (of_any a _ ha0 ha1).mono ?_
  rintro e w5 ⟨rfl, hb⟩
  have HB5 := Lib.hid (HB4.out.trans (hb.mono HB4.out.size))
  clear hb
  go_wp2_with fail
  refine (times_any a n _ hn0 hn1).mono ?_
  rintro e w6 ⟨rfl, hb⟩
  have HB6 := Lib.hid (HB5.out.trans (hb.mono HB5.out.size))
  clear hb
  go_wp2_with fail
  refine (of_any (r) _ (by omega) (by omega)).mono ?_
  rintro e w7 ⟨rfl, hb⟩
  have HB7 := Lib.hid (HB6.out.trans (hb.mono HB6.out.size))
  clear hb
  go_wp2_with fail
  refine (add_any (a * n) (r) _).mono ?_
  rintro e w8 ⟨rfl, hb⟩
  have HB8 := Lib.hid (HB7.out.trans (hb.mono HB7.out.size))
  clear hb
  go_wp2_with fail
  refine (quo_lit (a * n + r) n a true hn1 HQ2.out.1 HQ2.out.2 _).mono ?_
  rintro e w9 ⟨rfl, hb⟩
  have HB9 := Lib.hid (HB8.out.trans (hb.mono HB8.out.size))
  clear hb
  go_wp2
  go_ret
  exact ⟨rfl, HB9.out⟩

set_option maxRecDepth 10000 in
set_option maxHeartbeats 4000000 in
theorem wideBack_neg (a n r : Int) (ha0 : -9223372036854775808 ≤ a) (ha1 : a ≤ 9223372036854775807) (hn : 1 ≤ n) (hn1 : n ≤ 9223372036854775807)
    (hr0 : 0 ≤ r) (hr1 : r < n) (hs : a < 0) (w : World) :
    Calls Try.prog 8 #[.int .i64 a, .int .i64 n, .int .i64 r] w fun e w' => e = .returned (.bool true) ∧ Below w.heap.size w w' := by
  have HB0 := Lib.hid (Below.refl w.heap.size w)
  have HQ := Lib.hid (back_is a n 0 0 ha0 ha1 hn hn1 (by omega) (by omega) (by omega) (by omega))
  rw [Int.add_zero] at HQ
  have HQ2 := Lib.hid (back_is a n r (-r) ha0 ha1 hn hn1 hr0 hr1 (by omega) (by omega))
  have hn0 : -9223372036854775808 ≤ n := by omega
  have e1 : (a == a) = true := beq_self_eq_true _
  have e2 : (a != a) = false := by simp
  have d1 : decide (n < 1) = false := decide_eq_false (by omega)
  have d2 : decide (r < 0) = false := decide_eq_false (by omega)
  have d3 : decide (n ≤ r) = false := decide_eq_false (by omega)
  have d4 : decide (a < 0) = true := decide_eq_true hs
  go_enter Try.func8, Try.ntmps8
  go_wp2_with fail
  refine (begun_any _).mono ?_
  rintro e w1 ⟨rfl, hb⟩
  have HB1 := Lib.hid (HB0.out.trans (hb.mono HB0.out.size))
  clear hb
  go_wp2_with fail
  refine (of_any a _ ha0 ha1).mono ?_
  rintro e w2 ⟨rfl, hb⟩
  have HB2 := Lib.hid (HB1.out.trans (hb.mono HB1.out.size))
  clear hb
  go_wp2_with fail
  refine (times_any a n _ hn0 hn1).mono ?_
  rintro e w3 ⟨rfl, hb⟩
  have HB3 := Lib.hid (HB2.out.trans (hb.mono HB2.out.size))
  clear hb
  go_wp2_with fail
  refine (quo_lit (a * n) n a true hn1 HQ.out.1 HQ.out.2 _).mono ?_
  rintro e w4 ⟨rfl, hb⟩
  have HB4 := Lib.hid (HB3.out.trans (hb.mono HB3.out.size))
  clear hb
  go_wp2_with fail
  refine (of_any a _ ha0 ha1).mono ?_
  rintro e w5 ⟨rfl, hb⟩
  have HB5 := Lib.hid (HB4.out.trans (hb.mono HB4.out.size))
  clear hb
  go_wp2_with fail
  refine (times_any a n _ hn0 hn1).mono ?_
  rintro e w6 ⟨rfl, hb⟩
  have HB6 := Lib.hid (HB5.out.trans (hb.mono HB5.out.size))
  clear hb
  go_wp2_with fail
  refine (of_any (-r) _ (by omega) (by omega)).mono ?_
  rintro e w7 ⟨rfl, hb⟩
  have HB7 := Lib.hid (HB6.out.trans (hb.mono HB6.out.size))
  clear hb
  go_wp2_with fail
  refine (add_any (a * n) (-r) _).mono ?_
  rintro e w8 ⟨rfl, hb⟩
  have HB8 := Lib.hid (HB7.out.trans (hb.mono HB7.out.size))
  clear hb
  go_wp2_with fail
  refine (quo_lit (a * n + -r) n a true hn1 HQ2.out.1 HQ2.out.2 _).mono ?_
  rintro e w9 ⟨rfl, hb⟩
  have HB9 := Lib.hid (HB8.out.trans (hb.mono HB8.out.size))
  clear hb
  go_wp2
  go_ret
  exact ⟨rfl, HB9.out⟩

set_option maxHeartbeats 2000000 in
theorem wideBack_none (a n r : Int) (h : n < 1 ∨ (1 ≤ n ∧ r < 0) ∨ (1 ≤ n ∧ 0 ≤ r ∧ n ≤ r)) (w : World) :
    Calls Try.prog 8 #[.int .i64 a, .int .i64 n, .int .i64 r] w fun e w' => e = .returned (.bool true) ∧ Below w.heap.size w w' := by
  rcases h with h | ⟨h1, h2⟩ | ⟨h1, h2, h3⟩
  · have d1 : decide (n < 1) = true := decide_eq_true h
    go_enter Try.func8, Try.ntmps8
    go_wp2_with fail
    refine (begun_any _).mono ?_
    rintro e w1 ⟨rfl, hb⟩
    have HB := Lib.hid hb
    clear hb
    go_wp2
    go_ret
    exact ⟨rfl, HB.out⟩
  · have d1 : decide (n < 1) = false := decide_eq_false (by omega)
    have d2 : decide (r < 0) = true := decide_eq_true h2
    go_enter Try.func8, Try.ntmps8
    go_wp2_with fail
    refine (begun_any _).mono ?_
    rintro e w1 ⟨rfl, hb⟩
    have HB := Lib.hid hb
    clear hb
    go_wp2
    go_ret
    exact ⟨rfl, HB.out⟩
  · have d1 : decide (n < 1) = false := decide_eq_false (by omega)
    have d2 : decide (r < 0) = false := decide_eq_false (by omega)
    have d3 : decide (n ≤ r) = true := decide_eq_true h3
    go_enter Try.func8, Try.ntmps8
    go_wp2_with fail
    refine (begun_any _).mono ?_
    rintro e w1 ⟨rfl, hb⟩
    have HB := Lib.hid hb
    clear hb
    go_wp2
    go_ret
    exact ⟨rfl, HB.out⟩
theorem wideBack_walk (a n r : Int) (ha0 : -9223372036854775808 ≤ a) (ha1 : a ≤ 9223372036854775807) (_hn0 : -9223372036854775808 ≤ n) (hn1 : n ≤ 9223372036854775807)
    (_hr0 : -9223372036854775808 ≤ r) (_hr1 : r ≤ 9223372036854775807) (w : World) :
    Calls Try.prog 8 #[.int .i64 a, .int .i64 n, .int .i64 r] w fun e w' => e = .returned (.bool true) ∧ Below w.heap.size w w' := by
  by_cases h : 1 ≤ n ∧ 0 ≤ r ∧ r < n
  · rcases Int.lt_or_le a 0 with g | g
    · exact wideBack_neg a n r ha0 ha1 h.1 hn1 h.2.1 h.2.2 g w
    · exact wideBack_pos a n r ha0 ha1 h.1 hn1 h.2.1 h.2.2 g w
  · exact wideBack_none a n r (by omega) w
end Go.Proofs.Ytfcllangolinaaa
