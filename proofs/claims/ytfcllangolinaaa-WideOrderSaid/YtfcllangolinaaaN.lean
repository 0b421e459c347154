/- Plain mathematics of a long division of 128 bits by 64 bits, 32 bits a step. -/
import Derived.Test.YtfcllangolinaaaM
import Derived.Lib.BitFns
namespace Go.Proofs.Ytfcllangolinaaa
open Go Go.RowKit

theorem bitLenAux_bd : ∀ (f x : Nat), x ≠ 0 → x < 2 ^ f → ∃ k, Lib.bitLenAux f x = k + 1 ∧ 2 ^ k ≤ x ∧ x < 2 ^ (k + 1)
  | 0, x, h, hx => absurd (by simpa using hx) h
  | f + 1, x, h, hx => by
    unfold Lib.bitLenAux
    rw [if_neg h]
    by_cases h2 : x / 2 = 0
    · refine ⟨0, ?_, by omega, by omega⟩
      rw [h2]
      have : ∀ f, Lib.bitLenAux f 0 = 0 := fun f => by cases f <;> simp [Lib.bitLenAux]
      rw [this]
    · obtain ⟨k, e, h3, h4⟩ := bitLenAux_bd f (x / 2) h2 (by rw [Nat.pow_succ] at hx; omega)
      exact ⟨k + 1, by rw [e]; omega, by rw [Nat.pow_succ]; omega, by rw [Nat.pow_succ]; omega⟩

/-- How far a divisor is shifted. -/
theorem lead_is (y : Int) (h0 : 1 ≤ y) (h1 : y < 9223372036854775808) : ∃ s : Nat, 1 ≤ s ∧ s ≤ 63 ∧ (64 - (Lib.bitLen y.toNat : Int)) = (s : Int) ∧ 9223372036854775808 ≤ y * 2 ^ s ∧ y * 2 ^ s < 18446744073709551616 := by
  obtain ⟨n, rfl⟩ := Int.eq_ofNat_of_zero_le (by omega : 0 ≤ y)
  obtain ⟨k, e, h2, h3⟩ := bitLenAux_bd 64 n (by omega) (by simp only [Nat.reducePow]; omega)
  have hk : k < 63 := by
    rcases Nat.lt_or_ge k 63 with h | h
    · exact h
    · have : 2 ^ 63 ≤ 2 ^ k := Nat.pow_le_pow_right (by decide) h
      simp only [Nat.reducePow] at this; omega
  refine ⟨63 - k, by omega, by omega, ?_, ?_, ?_⟩
  · rw [Int.toNat_natCast]; unfold Lib.bitLen; rw [e]; omega
  · have h4 : 2 ^ k * 2 ^ (63 - k) = 9223372036854775808 := by rw [← Nat.pow_add, show k + (63 - k) = 63 from by omega]
    have h5 := Nat.mul_le_mul_right (2 ^ (63 - k)) h2
    rw [h4] at h5
    have : ((n * 2 ^ (63 - k) : Nat) : Int) = (n : Int) * 2 ^ (63 - k) := by simp
    omega
  · have h4 : 2 ^ (k + 1) * 2 ^ (63 - k) = 18446744073709551616 := by rw [← Nat.pow_add, show k + 1 + (63 - k) = 64 from by omega]
    have h5 := Nat.mul_lt_mul_of_pos_right h3 (Nat.pow_pos (n := 63 - k) (by decide : 0 < 2))
    rw [h4] at h5
    have : ((n * 2 ^ (63 - k) : Nat) : Int) = (n : Int) * 2 ^ (63 - k) := by simp
    omega

/-- What holds at the head of the loop that mends a guessed digit q: Y = d1 2^32 + d0 divides u 2^32 + e; r is what u has beyond q d1. -/
structure Guess (u e d1 d0 q r : Int) : Prop where
  hu0 : 0 ≤ u
  hu : u < d1 * 4294967296 + d0
  he0 : 0 ≤ e
  he : e < 4294967296
  hd1 : 2147483648 ≤ d1
  hd1' : d1 < 4294967296
  hd0 : 0 ≤ d0
  hd0' : d0 < 4294967296
  eq : q * d1 + r = u
  hr : 0 ≤ r
  hr' : r < 4294967296
  hq0 : 0 ≤ q
  hq : q ≤ 4294967297
  low : e + r * 4294967296 < d1 * 4294967296 + q * d0 + d0

theorem guess_first (u e d1 d0 : Int) (hu0 : 0 ≤ u) (hu : u < d1 * 4294967296 + d0) (he0 : 0 ≤ e) (he : e < 4294967296) (hd1 : 2147483648 ≤ d1) (hd1' : d1 < 4294967296) (hd0 : 0 ≤ d0) (hd0' : d0 < 4294967296) :
    Guess u e d1 d0 (u / d1) (u - u / d1 * d1) := by
  have h1 := Int.emod_nonneg u (by omega : d1 ≠ 0)
  have h2 := Int.emod_lt_of_pos u (by omega : 0 < d1)
  have h3 := Int.mul_ediv_add_emod u d1
  rw [Int.mul_comm] at h3
  have h4 : 0 ≤ u / d1 := Int.ediv_nonneg hu0 (by omega)
  have h5 : 0 ≤ u / d1 * d0 := Int.mul_nonneg h4 hd0
  refine ⟨hu0, hu, he0, he, hd1, hd1', hd0, hd0', by omega, by omega, by omega, h4, ?_, by omega⟩
  have : u / d1 < 4294967298 := Int.ediv_lt_of_lt_mul (by omega) (by omega)
  omega
/-- The digit is too great where the test says so. -/
theorem guess_high {u e d1 d0 q r : Int} (g : Guess u e d1 d0 q r) (h : 4294967296 ≤ q ∨ 4294967296 * r + e < q * d0) : 1 ≤ q ∧ e + r * 4294967296 < q * d0 := by
  obtain ⟨hu0, hu, he0, he, hd1, hd1', hd0, hd0', eq, hr, hr', hq0, hq, low⟩ := g
  have key : e + r * 4294967296 < q * d0 := by
    rcases h with h | h
    · have h1 : 4294967296 * d1 ≤ q * d1 := Int.mul_le_mul_of_nonneg_right h (by omega)
      have h2 : 4294967296 * d0 ≤ q * d0 := Int.mul_le_mul_of_nonneg_right h hd0
      omega
    · omega
  refine ⟨?_, key⟩
  rcases Int.lt_or_le 0 q with h | h
  · omega
  · have : q = 0 := by omega
    subst this
    rw [Int.zero_mul] at key; omega
theorem guess_next {u e d1 d0 q r : Int} (g : Guess u e d1 d0 q r) (h : 4294967296 ≤ q ∨ 4294967296 * r + e < q * d0) (hr' : r + d1 < 4294967296) : Guess u e d1 d0 (q - 1) (r + d1) := by
  obtain ⟨h1, h2⟩ := guess_high g h
  obtain ⟨hu0, hu, he0, he, hd1, hd1', hd0, hd0', eq, hr, _, hq0, hq, low⟩ := g
  have e1 : (q - 1) * d1 = q * d1 - d1 := by rw [Int.sub_mul, Int.one_mul]
  have e2 : (q - 1) * d0 = q * d0 - d0 := by rw [Int.sub_mul, Int.one_mul]
  exact ⟨hu0, hu, he0, he, hd1, hd1', hd0, hd0', by rw [e1]; omega, by omega, hr', by omega, by omega, by rw [e2]; omega⟩
/-- What the loop leaves: the digit. -/
def Digit (u e d1 d0 q : Int) : Prop := 0 ≤ q ∧ q < 4294967296 ∧ 0 ≤ u * 4294967296 + e - q * (d1 * 4294967296 + d0) ∧ u * 4294967296 + e - q * (d1 * 4294967296 + d0) < d1 * 4294967296 + d0
theorem digit_of {u e d1 d0 q r : Int} (hu : u < d1 * 4294967296 + d0) (he : e < 4294967296) (hd : 0 < d1 * 4294967296 + d0) (hq0 : 0 ≤ q) (eq : q * d1 + r = u) (low : e + r * 4294967296 < d1 * 4294967296 + q * d0 + d0) (h : q * d0 ≤ 4294967296 * r + e) : Digit u e d1 d0 q := by
  have e1 : q * (d1 * 4294967296 + d0) = q * d1 * 4294967296 + q * d0 := by rw [Int.mul_add, Int.mul_assoc]
  have h0 : 0 ≤ u * 4294967296 + e - q * (d1 * 4294967296 + d0) := by rw [e1]; omega
  refine ⟨hq0, ?_, h0, by rw [e1]; omega⟩
  rcases Int.lt_or_le q 4294967296 with h1 | h1
  · exact h1
  · have := Int.mul_le_mul_of_nonneg_right h1 (Int.le_of_lt hd)
    omega
theorem guess_done {u e d1 d0 q r : Int} (g : Guess u e d1 d0 q r) (h : q * d0 ≤ 4294967296 * r + e) : Digit u e d1 d0 q := by
  obtain ⟨hu0, hu, he0, he, hd1, hd1', hd0, hd0', eq, hr, hr', hq0, hq, low⟩ := g
  exact digit_of hu he (by omega) hq0 eq low h
theorem guess_break {u e d1 d0 q r : Int} (g : Guess u e d1 d0 q r) (h : 4294967296 ≤ q ∨ 4294967296 * r + e < q * d0) (hr' : 4294967296 ≤ r + d1) : Digit u e d1 d0 (q - 1) := by
  obtain ⟨h1, h2⟩ := guess_high g h
  obtain ⟨hu0, hu, he0, he, hd1, hd1', hd0, hd0', eq, hr, _, hq0, hq, low⟩ := g
  have e1 : (q - 1) * d1 = q * d1 - d1 := by rw [Int.sub_mul, Int.one_mul]
  have e2 : (q - 1) * d0 = q * d0 - d0 := by rw [Int.sub_mul, Int.one_mul]
  have h3 : (q - 1) * d0 ≤ 4294967296 * d0 := Int.mul_le_mul_of_nonneg_right (by omega) hd0
  exact digit_of (r := r + d1) hu he (by omega) (by omega) (by rw [e1]; omega) (by rw [e2]; omega) (by omega)

/-- Two digits are the quotient. -/
theorem two_digits {u e1 e0 Y q1 q0 t : Int} (hY : 0 < Y) (ht : u * 4294967296 + e1 - q1 * Y = t) (h0 : 0 ≤ t * 4294967296 + e0 - q0 * Y) (h1 : t * 4294967296 + e0 - q0 * Y < Y) :
    (u * 4294967296 * 4294967296 + e1 * 4294967296 + e0) / Y = q1 * 4294967296 + q0 := by
  have e : u * 4294967296 * 4294967296 + e1 * 4294967296 + e0 = (t * 4294967296 + e0 - q0 * Y) + Y * (q1 * 4294967296 + q0) := by
    rw [Int.mul_add, Int.mul_comm Y, Int.mul_comm Y q0, Int.mul_assoc q1 4294967296 Y, Int.mul_comm 4294967296 Y, ← Int.mul_assoc q1 Y]
    omega
  rw [e, Int.add_mul_ediv_left _ _ (by omega), Int.ediv_eq_zero_of_lt h0 h1]; omega
end Go.Proofs.Ytfcllangolinaaa
