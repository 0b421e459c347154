/- Plain facts on names and key words. Nothing of the program. -/
import GoSem.Op.String
namespace Go.Proofs.YtkgjfedpjbnjkaaDoor
open Go

/-- The key words. -/
def kws : List (List UInt8) := [
  [116, 97, 98, 108, 101],
  [107, 101, 121],
  [102, 100],
  [105, 110, 116],
  [116, 101, 120, 116],
  [109, 117, 115, 116],
  [116, 111],
  [108, 111, 97, 100],
  [105, 110, 115, 101, 114, 116],
  [100, 101, 108, 101, 116, 101],
  [117, 112, 100, 97, 116, 101],
  [115, 117, 109, 109, 97, 114, 121],
  [111, 110],
  [98, 121],
  [107, 101, 101, 112],
  [100, 114, 111, 112],
  [102, 114, 111, 109],
  [119, 104, 101, 114, 101],
  [97, 110, 100],
  [105, 115],
  [110, 111, 116],
  [110, 117, 108, 108],
  [114, 111, 108, 108, 117, 112],
  [99, 117, 98, 101],
  [115, 104, 111, 119],
  [104, 97, 118, 105, 110, 103],
  [111, 114, 100, 101, 114],
  [100, 101, 115, 99],
  [108, 105, 109, 105, 116],
  [117, 115, 105, 110, 103],
  [98, 97, 115, 101],
  [99, 111, 117, 110, 116],
  [115, 117, 109],
  [109, 105, 110],
  [109, 97, 120],
  [97, 118, 103],
  [100, 105, 115, 116, 105, 110, 99, 116],
  [114, 111, 119, 115]]
def kwB (l : List UInt8) : Bool := kws.any (fun x => l == x)
def ltr (c : UInt8) : Bool := c.toNat == 95 || (decide (97 ≤ c.toNat) && decide (c.toNat ≤ 122))
def dgt (c : UInt8) : Bool := decide (48 ≤ c.toNat) && decide (c.toNat ≤ 57)
/-- A letter, then letters and digits. -/
def speltB : List UInt8 → Bool
  | [] => false
  | c :: r => ltr c && r.all fun c => ltr c || dgt c
/-- Which words are names. -/
def nameB (l : List UInt8) : Bool := decide (l.length ≤ 12) && speltB l && !kwB l

theorem not_both (c : UInt8) (h : dgt c = true) : ltr c = false := by
  unfold dgt at h; unfold ltr
  simp at h
  simp
  omega

theorem speltB_snoc (l : List UInt8) (c : UInt8) (h : speltB l = true) : speltB (l ++ [c]) = (ltr c || dgt c) := by
  cases l with
  | nil => simp [speltB] at h
  | cons x r =>
    simp only [speltB, Bool.and_eq_true] at h
    simp [speltB, h.1, List.all_append, h.2]

theorem speltB_append_false (l m : List UInt8) (hl : l ≠ []) (h : speltB l = false) : speltB (l ++ m) = false := by
  cases l with
  | nil => exact absurd rfl hl
  | cons x r =>
    simp only [speltB, Bool.and_eq_false_iff, List.cons_append, List.all_append] at h ⊢
    rcases h with h | h
    · exact .inl h
    · exact .inr (.inl h)

/-- At each place a letter, or a digit that is not the first: as far as it goes. -/
theorem speltB_false (l : List UInt8) (k : Nat) (c : UInt8) (hc : l[k]? = some c) (hb : ltr c = false) (hd : dgt c = false ∨ k = 0) : speltB l = false := by
  cases l with
  | nil => simp at hc
  | cons x r =>
    simp only [speltB, Bool.and_eq_false_iff]
    cases k with
    | zero =>
      simp at hc
      subst hc
      exact .inl hb
    | succ k =>
      right
      rw [List.all_eq_false]
      rcases hd with hd | hd
      · have : r[k]? = some c := by simpa using hc
        exact ⟨c, List.mem_of_getElem? this, by simp [hb, hd]⟩
      · omega

/-- What the reference asks, in its order. -/
theorem nameB_ref (l : List UInt8) (h1 : ¬ l.length < 1) (h2 : ¬ 12 < l.length) (c : UInt8) (hc : l[0]? = some c) (h3 : dgt c = false) (h4 : kwB l = false) (h5 : l.all (fun c => ltr c || dgt c) = true) : nameB l = true := by
  cases l with
  | nil => simp at h1
  | cons x r =>
    simp at hc
    subst hc
    simp only [List.all_cons, Bool.and_eq_true, Bool.or_eq_true, h3, Bool.false_eq_true, or_false] at h5
    simp only [nameB, speltB, h4, h5.1, h5.2]
    simp at h2 ⊢
    omega
theorem nameB_no (l : List UInt8) (h : l.length < 1 ∨ 12 < l.length ∨ kwB l = true) : nameB l = false := by
  unfold nameB
  rcases h with h | h | h
  · have : l = [] := List.eq_nil_of_length_eq_zero (by omega)
    subst this; simp [speltB]
  · have : ¬ l.length ≤ 12 := by omega
    simp [this]
  · simp [h]
theorem nameB_digit (l : List UInt8) (c : UInt8) (hc : l[0]? = some c) (h : dgt c = true) : nameB l = false := by
  unfold nameB
  rw [speltB_false l 0 c hc (not_both c h) (.inr rfl)]; simp
theorem nameB_bad (l : List UInt8) (k : Nat) (c : UInt8) (hc : l[k]? = some c) (h1 : ltr c = false) (h2 : dgt c = false) : nameB l = false := by
  unfold nameB
  rw [speltB_false l k c hc h1 (.inl h2)]; simp
end Go.Proofs.YtkgjfedpjbnjkaaDoor
