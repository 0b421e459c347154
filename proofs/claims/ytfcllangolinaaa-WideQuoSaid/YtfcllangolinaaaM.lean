/- Plain mathematics: whole numbers modulo 2^128, by two halves and by eight parts of sixteen bits. -/
import Derived.RowKit
import Derived.Laws.Bits64
import Derived.Laws.BitsLemmas
import Derived.Lib.Small
namespace Go.Proofs.Ytfcllangolinaaa
open Go Go.RowKit

/-- The upper half, with its sign; the lower one. -/
def hiOf (z : Int) : Int := (z / 18446744073709551616 + 9223372036854775808) % 18446744073709551616 - 9223372036854775808
def loOf (z : Int) : Int := z % 18446744073709551616
/-- The part i of sixteen bits. -/
def dg (z : Int) (i : Nat) : Int := z / 65536 ^ i % 65536
/-- The number from -2^127 to 2^127 - 1 that it is. -/
def sm (z : Int) : Int := (z + 170141183460469231731687303715884105728) % 340282366920938463463374607431768211456 - 170141183460469231731687303715884105728
/-- How far it is from 0. -/
def ab (z : Int) : Int := if sm z < 0 then - sm z else sm z
def numB (z : Int) : Bool := decide (-9223372036854775808 ≤ sm z ∧ sm z ≤ 9223372036854775807)
def numV (z : Int) : Int := if -9223372036854775808 ≤ sm z ∧ sm z ≤ 9223372036854775807 then sm z else 0
/-- The quotient towards 0. -/
def quoZ (z n : Int) : Int := if sm z < 0 then - (ab z / n) else ab z / n
def quoB (z n : Int) : Bool := if n < 1 then false else numB (quoZ z n)
def quoV (z n : Int) : Int := if n < 1 then 0 else numV (quoZ z n)

theorem hi_bd (z : Int) : -9223372036854775808 ≤ hiOf z ∧ hiOf z ≤ 9223372036854775807 := by unfold hiOf; omega
theorem lo_bd (z : Int) : 0 ≤ loOf z ∧ loOf z ≤ 18446744073709551615 := by unfold loOf; omega
theorem lo_nn (z : Int) : 0 ≤ loOf z := (lo_bd z).1
theorem dg_bd (z : Int) (i : Nat) : 0 ≤ dg z i ∧ dg z i ≤ 65535 := by unfold dg; omega
theorem sm_bd (z : Int) : -170141183460469231731687303715884105728 ≤ sm z ∧ sm z ≤ 170141183460469231731687303715884105727 := by unfold sm; omega
theorem sm_hilo (z : Int) : sm z = hiOf z * 18446744073709551616 + loOf z := by unfold sm hiOf loOf; omega
theorem sm_neg_hi (z : Int) : sm z < 0 ↔ hiOf z < 0 := by have := lo_bd z; rw [sm_hilo]; omega
theorem ab_bd (z : Int) : 0 ≤ ab z ∧ ab z ≤ 170141183460469231731687303715884105728 := by have := sm_bd z; unfold ab; split <;> omega
theorem sm_congr {x y : Int} (h : x % 340282366920938463463374607431768211456 = y % 340282366920938463463374607431768211456) : sm x = sm y := by unfold sm; omega
theorem sm_small {z : Int} (h : -170141183460469231731687303715884105728 ≤ z) (h1 : z < 170141183460469231731687303715884105728) : sm z = z := by unfold sm; omega
theorem ext_hilo {x y : Int} (h : hiOf x = hiOf y) (h1 : loOf x = loOf y) : sm x = sm y := by rw [sm_hilo, sm_hilo, h, h1]
theorem hi_congr {x y : Int} (h : sm x = sm y) : hiOf x = hiOf y := by unfold sm at h; unfold hiOf; omega
theorem lo_congr {x y : Int} (h : sm x = sm y) : loOf x = loOf y := by unfold sm at h; unfold loOf; omega

/-! Of. -/
theorem hi_of (n : Int) (h0 : -9223372036854775808 ≤ n) (h1 : n ≤ 9223372036854775807) : hiOf n = n / 9223372036854775808 := by unfold hiOf; omega
theorem lo_of (n : Int) : loOf n = IntKind.u64.wrap n := by rw [IntKind.wrap_u64]; rfl

/-! Add. -/
theorem lo_add (x y : Int) : loOf (x + y) = (loOf x + loOf y) % 18446744073709551616 := by unfold loOf; omega
theorem hi_add (x y : Int) : hiOf (x + y) = wrap64 (hiOf x + hiOf y + (loOf x + loOf y) / 18446744073709551616) := by unfold hiOf loOf wrap64; omega
theorem wrap64_wrap (a b : Int) : wrap64 (wrap64 a + b) = wrap64 (a + b) := by unfold wrap64; omega
theorem wrap64_wrap2 (a b : Int) : wrap64 (a + wrap64 b) = wrap64 (a + b) := by unfold wrap64; omega
theorem wrap64_sub (a b : Int) : wrap64 (wrap64 a - b) = wrap64 (a - b) := by unfold wrap64; omega

/-! Neg. -/
theorem lo_neg (x : Int) : loOf (-x) = (18446744073709551616 - loOf x) % 18446744073709551616 := by unfold loOf; omega
theorem hi_neg0 (x : Int) (h : loOf x = 0) : hiOf (-x) = wrap64 (- hiOf x) := by unfold loOf at h; unfold hiOf wrap64; omega
theorem hi_neg1 (x : Int) (h : 0 < loOf x) : hiOf (-x) = wrap64 (- hiOf x - 1) := by unfold loOf at h; unfold hiOf wrap64; omega

/-! Times. -/
theorem wrap64_congr {a b : Int} (h : a % 18446744073709551616 = b % 18446744073709551616) : wrap64 a = wrap64 b := by unfold wrap64; omega
theorem hi_wrap (z : Int) : hiOf z = wrap64 (z / 18446744073709551616) := rfl
theorem times_split (x n u : Int) (hu : u = n ∨ u = n + 18446744073709551616) :
    x * n = (hiOf x * n) * 18446744073709551616 + loOf x * u - (if u = n then 0 else loOf x) * 18446744073709551616 + ((x / 18446744073709551616 - hiOf x) / 18446744073709551616 * n) * 340282366920938463463374607431768211456 := by
  have h1 : x = (x / 18446744073709551616) * 18446744073709551616 + loOf x := by unfold loOf; omega
  have h2 : x / 18446744073709551616 = hiOf x + (x / 18446744073709551616 - hiOf x) / 18446744073709551616 * 18446744073709551616 := by unfold hiOf; omega
  generalize hk : (x / 18446744073709551616 - hiOf x) / 18446744073709551616 = k at *
  generalize hiOf x = a at *
  generalize loOf x = l at *
  generalize x / 18446744073709551616 = q at *
  subst h2
  rw [h1]
  have e1 : ((a + k * 18446744073709551616) * 18446744073709551616 + l) * n = (a * n) * 18446744073709551616 + (k * n) * 340282366920938463463374607431768211456 + l * n := by
    rw [Int.add_mul, Int.add_mul, Int.add_mul, Int.mul_right_comm a, Int.mul_right_comm (k * 18446744073709551616), Int.mul_right_comm k]
    omega
  rw [e1]
  rcases hu with rfl | rfl
  · rw [if_pos rfl]; omega
  · rw [if_neg (by omega), Int.mul_add]; omega
theorem lo_times (x n u : Int) (hu : u = n ∨ u = n + 18446744073709551616) : loOf (x * n) = (loOf x * u) % 18446744073709551616 := by
  rw [times_split x n u hu]; unfold loOf
  generalize hiOf x * n = p
  generalize (x / 18446744073709551616 - hiOf x) / 18446744073709551616 * n = q
  generalize x % 18446744073709551616 * u = r
  split <;> omega
theorem hi_times (x n u : Int) (hu : u = n ∨ u = n + 18446744073709551616) :
    hiOf (x * n) = wrap64 (hiOf x * n + (loOf x * u) / 18446744073709551616 - (if u = n then 0 else loOf x)) := by
  rw [hi_wrap]; apply wrap64_congr
  rw [times_split x n u hu]
  generalize hiOf x * n = p
  generalize (x / 18446744073709551616 - hiOf x) / 18446744073709551616 * n = q
  generalize loOf x * u = r
  generalize loOf x = l
  split <;> omega

/-! Num. -/
theorem num_yes {z : Int} (h : numB z = true) : hiOf (wrap64 (loOf z)) = hiOf z ∧ loOf (wrap64 (loOf z)) = loOf z ∧ wrap64 (loOf z) = numV z := by
  have h0 : -9223372036854775808 ≤ sm z ∧ sm z ≤ 9223372036854775807 := by simpa [numB] using h
  have e : numV z = sm z := by unfold numV; rw [if_pos h0]
  rw [e]
  unfold sm at h0 ⊢; unfold hiOf loOf wrap64; omega
theorem num_no {z : Int} (h : numB z = false) : ¬ (hiOf (wrap64 (loOf z)) = hiOf z ∧ loOf (wrap64 (loOf z)) = loOf z) ∧ numV z = 0 := by
  have h0 : ¬ (-9223372036854775808 ≤ sm z ∧ sm z ≤ 9223372036854775807) := by simpa [numB] using h
  refine ⟨?_, by unfold numV; rw [if_neg h0]⟩
  unfold sm at h0; unfold hiOf loOf wrap64; omega
theorem num_hi_ne {z : Int} (h : numB z = false) : hiOf (wrap64 (loOf z)) ≠ hiOf z := by
  have h0 : ¬ (-9223372036854775808 ≤ sm z ∧ sm z ≤ 9223372036854775807) := by simpa [numB] using h
  unfold sm at h0; unfold hiOf loOf wrap64; omega
theorem num_cong {x y : Int} (h : sm x = sm y) : numB x = numB y ∧ numV x = numV y := by unfold numB numV; rw [h]; exact ⟨rfl, rfl⟩

/-! The order. -/
theorem cmp_hilo (x y : Int) : Lib.compareInt (sm x) (sm y) = if Lib.compareInt (hiOf x) (hiOf y) = 0 then Lib.compareInt (loOf x) (loOf y) else Lib.compareInt (hiOf x) (hiOf y) := by
  have hx := lo_bd x
  have hy := lo_bd y
  rw [sm_hilo, sm_hilo]
  unfold Lib.compareInt
  generalize hiOf x = a at *
  generalize hiOf y = b at *
  generalize loOf x = c at *
  generalize loOf y = d at *
  by_cases h1 : a < b
  · rw [if_pos (by omega), if_pos h1, if_neg (by omega)]
  · by_cases h2 : a > b
    · rw [if_neg (by omega), if_pos (by omega), if_neg h1, if_pos h2, if_neg (by omega)]
    · rw [if_neg h1, if_neg h2, if_pos rfl]
      obtain rfl : a = b := by omega
      by_cases h3 : c < d
      · rw [if_pos (by omega), if_pos h3]
      · by_cases h4 : c > d
        · rw [if_neg (by omega), if_pos (by omega), if_neg h3, if_pos h4]
        · rw [if_neg (by omega), if_neg (by omega), if_neg h3, if_neg h4]

/-! The eight parts. -/
theorem pw_pos (i : Nat) : (0 : Int) < 65536 ^ i := Int.pow_pos (by decide)
theorem pw_succ (i : Nat) (z : Int) : z / 65536 ^ (i + 1) = z / 65536 ^ i / 65536 := by
  rw [Int.pow_succ, Int.ediv_ediv_of_nonneg (Int.le_of_lt (pw_pos i))]
theorem dg_cong {x y : Int} (h : sm x = sm y) (i : Nat) (hi : i < 8) : dg x i = dg y i := by
  unfold sm at h; unfold dg
  rcases (by omega : i = 0 ∨ i = 1 ∨ i = 2 ∨ i = 3 ∨ i = 4 ∨ i = 5 ∨ i = 6 ∨ i = 7) with rfl | rfl | rfl | rfl | rfl | rfl | rfl | rfl <;> simp only [Int.reducePow] <;> omega
/-- The carry into the part i. -/
def car (x y : Int) (i : Nat) : Int := (x + y) / 65536 ^ i - x / 65536 ^ i - y / 65536 ^ i
theorem car0 (x y : Int) : car x y 0 = 0 := by unfold car; simp; omega
theorem car_succ (x y : Int) (i : Nat) : car x y (i + 1) = (dg x i + dg y i + car x y i) / 65536 := by
  unfold car dg; rw [pw_succ, pw_succ, pw_succ]
  generalize (x + y) / 65536 ^ i = a
  generalize x / 65536 ^ i = b
  generalize y / 65536 ^ i = c
  omega
theorem car_bd (x y : Int) : ∀ i, 0 ≤ car x y i ∧ car x y i ≤ 1
  | 0 => by rw [car0]; omega
  | i + 1 => by have := car_bd x y i; have := dg_bd x i; have := dg_bd y i; rw [car_succ]; omega
theorem dg_add (x y : Int) (i : Nat) : dg (x + y) i = (dg x i + dg y i + car x y i) % 65536 := by
  unfold car dg
  generalize (x + y) / 65536 ^ i = a
  generalize x / 65536 ^ i = b
  generalize y / 65536 ^ i = c
  omega
theorem div_not (z B : Int) (h : 0 < B) : (-1 - z) / B = -1 - z / B := by
  have h1 := Int.emod_nonneg z (by omega : B ≠ 0)
  have h2 := Int.emod_lt_of_pos z h
  have h3 := Int.mul_ediv_add_emod z B
  have : (-1 - z) = B * (-1 - z / B) + (B - 1 - z % B) := by rw [Int.mul_sub]; omega
  rw [this, Int.mul_comm, Int.add_comm, Int.add_mul_ediv_right _ _ (by omega), Int.ediv_eq_zero_of_lt (by omega) (by omega)]; omega
theorem dg_not (z : Int) (i : Nat) : dg (-1 - z) i = 65535 - dg z i := by
  unfold dg; rw [div_not _ _ (pw_pos i)]; omega
theorem dg_of_lo (n : Int) (i : Nat) (h : i < 4) : dg n i = IntKind.u64.wrap n / 65536 ^ i % 65536 := by
  rw [IntKind.wrap_u64]; unfold dg
  rcases (by omega : i = 0 ∨ i = 1 ∨ i = 2 ∨ i = 3) with rfl | rfl | rfl | rfl <;> simp only [Int.reducePow] <;> omega
theorem dg_of_hi (n : Int) (h0 : -9223372036854775808 ≤ n) (h1 : n ≤ 9223372036854775807) (i : Nat) (h : 4 ≤ i) (h8 : i < 8) : dg n i = if n < 0 then 65535 else 0 := by
  unfold dg
  rcases (by omega : i = 4 ∨ i = 5 ∨ i = 6 ∨ i = 7) with rfl | rfl | rfl | rfl <;> simp only [Int.reducePow] <;> split <;> omega
end Go.Proofs.Ytfcllangolinaaa
