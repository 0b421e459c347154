/- The texts of two values that may be are the same just if the values are. -/
import Derived.Test.YtkgjfedpjbnjkaaDoorQ
namespace Go.Proofs.YtkgjfedpjbnjkaaDoor
open Go Go.RowKit

/-- The number that a row of digits is. -/
def numOf (l : List UInt8) : Nat := l.foldl (fun a c => a * 10 + (c.toNat - 48)) 0
theorem numOf_dec (u : Nat) : numOf (Lib.decDigits u) = u := by
  induction u using Nat.strongRecOn with
  | _ u ih =>
    by_cases h : u < 10
    · rw [Lib.decDigits, dif_pos h]
      have : 48 + u < 256 := by omega
      simp [numOf, UInt8.toNat_ofNat', Nat.mod_eq_of_lt this]
    · rw [dec_step u h]
      unfold numOf
      rw [List.foldl_append]
      have e := ih (u / 10) (by omega)
      unfold numOf at e
      rw [e]
      have : 48 + u % 10 < 256 := by omega
      simp [UInt8.toNat_ofNat', Nat.mod_eq_of_lt this]
      omega
theorem dec_inj {a b : Nat} (h : Lib.decDigits a = Lib.decDigits b) : a = b := by
  rw [← numOf_dec a, h, numOf_dec]
/-- The first byte of a numeral is a digit. -/
theorem dec_head (u : Nat) : ∃ c r, Lib.decDigits u = c :: r ∧ 48 ≤ c.toNat ∧ c.toNat ≤ 57 := by
  induction u using Nat.strongRecOn with
  | _ u ih =>
    by_cases h : u < 10
    · rw [Lib.decDigits, dif_pos h]
      have : 48 + u < 256 := by omega
      refine ⟨_, _, rfl, ?_, ?_⟩ <;> simp [UInt8.toNat_ofNat', Nat.mod_eq_of_lt this] <;> omega
    · rw [dec_step u h]
      obtain ⟨c, r, e, h1, h2⟩ := ih (u / 10) (by omega)
      rw [e]
      exact ⟨c, _, rfl, h1, h2⟩
theorem itoa_head (n : Int) : ∃ c r, Lib.itoa n = c :: r ∧ c.toNat ≠ 39 ∧ c.toNat ≠ 110 := by
  unfold Lib.itoa
  split
  · exact ⟨45, _, rfl, by decide, by decide⟩
  · obtain ⟨c, r, e, h1, h2⟩ := dec_head n.toNat
    exact ⟨c, r, e, by omega, by omega⟩
theorem itoa_inj {a b : Int} (h : Lib.itoa a = Lib.itoa b) : a = b := by
  unfold Lib.itoa at h
  split at h <;> split at h
  · have := dec_inj (List.cons.inj h).2
    omega
  · obtain ⟨c, r, e, h1, h2⟩ := dec_head b.toNat
    rw [e] at h
    have := (List.cons.inj h).1
    rw [← this] at h1
    exact absurd h1 (by decide)
  · obtain ⟨c, r, e, h1, h2⟩ := dec_head a.toNat
    rw [e] at h
    have := (List.cons.inj h).1
    rw [this] at h1
    exact absurd h1 (by decide)
  · have := dec_inj h
    omega

/-- Three kinds of values that may be. -/
theorem may_kinds {k n : Int} {s : ByteArray} (h : mayV k n s.data.toList = true) : (k = 0 ∧ n = 0 ∧ s.data.toList = []) ∨ (k = 1 ∧ s.data.toList = []) ∨ (k = 2 ∧ n = 0) := by
  unfold mayV at h
  split at h
  · left; simp at h; simp; exact ⟨by assumption, h⟩
  · split at h
    · right; left; simp at h; simp; exact ⟨by assumption, h⟩
    · split at h
      · right; right; simp at h; exact ⟨by assumption, h.1⟩
      · cases h
theorem text_list (k n : Int) (s : ByteArray) : (textV k n s).toList = if k = 1 then Lib.itoa n else if k = 2 then 39 :: (s.data.toList ++ [39]) else [110, 117, 108, 108] := by
  rw [ByteArray.toList_eq]
  unfold textV
  split
  · rfl
  · split
    · simp
    · rfl

theorem text_same (k1 n1 : Int) (s1 : ByteArray) (k2 n2 : Int) (s2 : ByteArray) (h1 : mayV k1 n1 s1.data.toList = true) (h2 : mayV k2 n2 s2.data.toList = true) :
    ((textV k1 n1 s1).toList == (textV k2 n2 s2).toList) = (cmpV k1 n1 s1.data.toList k2 n2 s2.data.toList == 0) := by
  rw [Bool.eq_iff_iff, beq_iff_eq, beq_iff_eq, cmpV_zero, text_list, text_list]
  obtain ⟨c1, r1, e1, i1, j1⟩ := itoa_head n1
  obtain ⟨c2, r2, e2, i2, j2⟩ := itoa_head n2
  rcases may_kinds h1 with ⟨rfl, rfl, a⟩ | ⟨rfl, a⟩ | ⟨rfl, rfl⟩ <;> rcases may_kinds h2 with ⟨rfl, rfl, b⟩ | ⟨rfl, b⟩ | ⟨rfl, rfl⟩
  · simp [a, b]
  · simp only [if_pos, e2]
    simp
    intro h
    rw [← h] at j2
    exact absurd j2 (by decide)
  · simp
  · simp only [if_pos, e1]
    simp
    intro h
    rw [h] at j1
    exact absurd j1 (by decide)
  · simp only [if_pos, a, b, and_true, true_and]
    exact ⟨itoa_inj, fun h => by rw [h]⟩
  · simp only [if_pos, e1]
    simp
    intro h
    rw [h] at i1
    exact absurd i1 (by decide)
  · simp
  · simp only [if_pos, e2]
    simp
    intro h
    rw [← h] at i2
    exact absurd i2 (by decide)
  · simp
end Go.Proofs.YtkgjfedpjbnjkaaDoor
