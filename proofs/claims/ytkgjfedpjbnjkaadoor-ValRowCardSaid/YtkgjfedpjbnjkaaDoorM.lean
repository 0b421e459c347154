/- Plain facts on the order of numbers, texts, values. Nothing of the program. -/
import Derived.Lib.Small
import Derived.Lib.Bytealg
import GoSem.Op.String
namespace Go.Proofs.YtkgjfedpjbnjkaaDoor
open Go

/-- The first of three numbers that is not nought, or the third. -/
def or3 (a b c : Int) : Int := if a = 0 then (if b = 0 then c else b) else a
/-- The order of values: Kind, number, text. -/
def cmpV (k1 n1 : Int) (l1 : List UInt8) (k2 n2 : Int) (l2 : List UInt8) : Int :=
  or3 (Lib.compareInt k1 k2) (Lib.compareInt n1 n2) (Lib.compareBytes l1 l2)

theorem ci_cases (x y : Int) : (Lib.compareInt x y = -1 ∧ x < y) ∨ (Lib.compareInt x y = 0 ∧ x = y) ∨ (Lib.compareInt x y = 1 ∧ y < x) := by
  unfold Lib.compareInt
  rcases Int.lt_trichotomy x y with h | h | h
  · left; rw [if_pos h]; exact ⟨rfl, h⟩
  · right; left; rw [if_neg (by omega), if_neg (by omega)]; exact ⟨rfl, h⟩
  · right; right; rw [if_neg (by omega), if_pos (by omega)]; exact ⟨rfl, h⟩

theorem cb_cases : ∀ a b : List UInt8, (Lib.compareBytes a b = -1 ∧ Op.bytesLess a b = true ∧ a ≠ b) ∨ (Lib.compareBytes a b = 0 ∧ a = b ∧ Op.bytesLess a b = false) ∨ (Lib.compareBytes a b = 1 ∧ Op.bytesLess a b = false ∧ a ≠ b)
  | [], [] => by simp [Lib.compareBytes, Op.bytesLess]
  | [], _ :: _ => by simp [Lib.compareBytes, Op.bytesLess]
  | _ :: _, [] => by simp [Lib.compareBytes, Op.bytesLess]
  | x :: a, y :: b => by
    have ih := cb_cases a b
    unfold Lib.compareBytes Op.bytesLess
    by_cases h : x < y
    · have hne : x ≠ y := by intro e; subst e; simp [UInt8.lt_irrefl] at h
      left; simp [h, hne]
    · by_cases h2 : y < x
      · have hne : x ≠ y := by intro e; subst e; simp [UInt8.lt_irrefl] at h2
        right; right; simp [h, h2, hne]
      · have he : x = y := by
          apply UInt8.toNat_inj.1
          rw [UInt8.lt_iff_toNat_lt] at h h2
          omega
        subst he
        simp [UInt8.lt_irrefl]
        rcases ih with ⟨h1, h3, h4⟩ | ⟨h1, h3, h4⟩ | ⟨h1, h3, h4⟩
        · simp [h1, h3, h4]
        · subst h3; simp [h1, h4]
        · simp [h1, h3, h4]

theorem cb_swap : ∀ a b : List UInt8, Lib.compareBytes a b = - Lib.compareBytes b a
  | [], [] => by simp [Lib.compareBytes]
  | [], _ :: _ => by simp [Lib.compareBytes]
  | _ :: _, [] => by simp [Lib.compareBytes]
  | x :: a, y :: b => by
    have ih := cb_swap a b
    unfold Lib.compareBytes
    by_cases h : x < y
    · have h2 : ¬ y < x := by rw [UInt8.lt_iff_toNat_lt] at *; omega
      simp [h, h2]
    · by_cases h2 : y < x
      · simp [h, h2]
      · simp [h, h2, ih]

theorem cb_trans : ∀ a b c : List UInt8, Lib.compareBytes a b ≤ 0 → Lib.compareBytes b c ≤ 0 → Lib.compareBytes a c ≤ 0
  | [], [], [], _, _ => by simp [Lib.compareBytes]
  | [], _, _ :: _, _, _ => by simp [Lib.compareBytes]
  | [], _ :: _, [], _, h => by simp [Lib.compareBytes] at h
  | _ :: _, [], _, h, _ => by simp [Lib.compareBytes] at h
  | _ :: _, _ :: _, [], _, h => by simp [Lib.compareBytes] at h
  | x :: a, y :: b, z :: c, h1, h2 => by
    have ih := cb_trans a b c
    simp only [Lib.compareBytes, UInt8.lt_iff_toNat_lt] at h1 h2 ⊢
    split at h1
    · split at h2
      · rw [if_pos (by omega)]; omega
      · split at h2
        · omega
        · rw [if_pos (by omega)]; omega
    · split at h1
      · omega
      · split at h2
        · rw [if_pos (by omega)]; omega
        · split at h2
          · omega
          · rw [if_neg (by omega), if_neg (by omega)]; exact ih h1 h2

theorem ci_swap (x y : Int) : Lib.compareInt x y = - Lib.compareInt y x := by
  rcases ci_cases x y with ⟨h, h'⟩ | ⟨h, h'⟩ | ⟨h, h'⟩ <;> rcases ci_cases y x with ⟨g, g'⟩ | ⟨g, g'⟩ | ⟨g, g'⟩ <;> omega

theorem cmpV_swap (k1 n1 : Int) (l1 : List UInt8) (k2 n2 : Int) (l2 : List UInt8) : cmpV k1 n1 l1 k2 n2 l2 = - cmpV k2 n2 l2 k1 n1 l1 := by
  have a := ci_swap k1 k2
  have b := ci_swap n1 n2
  have c := cb_swap l1 l2
  unfold cmpV or3
  split <;> split <;> (try split) <;> (try split) <;> omega

theorem cmpV_range (k1 n1 : Int) (l1 : List UInt8) (k2 n2 : Int) (l2 : List UInt8) : cmpV k1 n1 l1 k2 n2 l2 = -1 ∨ cmpV k1 n1 l1 k2 n2 l2 = 0 ∨ cmpV k1 n1 l1 k2 n2 l2 = 1 := by
  rcases ci_cases k1 k2 with ⟨h, h'⟩ | ⟨h, h'⟩ | ⟨h, h'⟩ <;> rcases ci_cases n1 n2 with ⟨g, g'⟩ | ⟨g, g'⟩ | ⟨g, g'⟩ <;> rcases cb_cases l1 l2 with ⟨i, i'⟩ | ⟨i, i'⟩ | ⟨i, i'⟩ <;> simp [cmpV, or3, h, g, i]

theorem cmpV_zero (k1 n1 : Int) (l1 : List UInt8) (k2 n2 : Int) (l2 : List UInt8) : cmpV k1 n1 l1 k2 n2 l2 = 0 ↔ k1 = k2 ∧ n1 = n2 ∧ l1 = l2 := by
  rcases ci_cases k1 k2 with ⟨h, h'⟩ | ⟨h, h'⟩ | ⟨h, h'⟩ <;> rcases ci_cases n1 n2 with ⟨g, g'⟩ | ⟨g, g'⟩ | ⟨g, g'⟩ <;> rcases cb_cases l1 l2 with ⟨i, i', i''⟩ | ⟨i, i', i''⟩ | ⟨i, i', i''⟩ <;> simp [cmpV, or3, h, g, i] <;> (try simp [i', i'']) <;> omega

theorem cmpV_trans (k1 n1 : Int) (l1 : List UInt8) (k2 n2 : Int) (l2 : List UInt8) (k3 n3 : Int) (l3 : List UInt8) (ha : cmpV k1 n1 l1 k2 n2 l2 ≤ 0) (hb : cmpV k2 n2 l2 k3 n3 l3 ≤ 0) : cmpV k1 n1 l1 k3 n3 l3 ≤ 0 := by
  have t := cb_trans l1 l2 l3
  unfold cmpV or3 at *
  rcases ci_cases k1 k2 with ⟨h, h'⟩ | ⟨h, h'⟩ | ⟨h, h'⟩ <;> rcases ci_cases k2 k3 with ⟨g, g'⟩ | ⟨g, g'⟩ | ⟨g, g'⟩ <;> rcases ci_cases k1 k3 with ⟨i, i'⟩ | ⟨i, i'⟩ | ⟨i, i'⟩ <;>
    simp only [h, g, i] at ha hb ⊢ <;> simp at ha hb ⊢ <;> (try omega)
  all_goals
    rcases ci_cases n1 n2 with ⟨h2, h2'⟩ | ⟨h2, h2'⟩ | ⟨h2, h2'⟩ <;> rcases ci_cases n2 n3 with ⟨g2, g2'⟩ | ⟨g2, g2'⟩ | ⟨g2, g2'⟩ <;> rcases ci_cases n1 n3 with ⟨i2, i2'⟩ | ⟨i2, i2'⟩ | ⟨i2, i2'⟩ <;>
      simp only [h2, g2, i2] at ha hb ⊢ <;> simp at ha hb ⊢ <;> (try omega)
  all_goals exact t ha hb
end Go.Proofs.YtkgjfedpjbnjkaaDoor
