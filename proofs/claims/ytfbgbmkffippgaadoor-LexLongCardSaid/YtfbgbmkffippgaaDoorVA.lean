/- Contracts of package val's functions (walks). -/
import Derived.Test.YtfbgbmkffippgaaDoorShelf
import Derived.WalkKit
import Derived.WalkLawsBesides
import Derived.WalkSpells
import Derived.Outline
import Derived.Lib.Hide
import Derived.Below
namespace Go.Proofs.YtfbgbmkffippgaaDoor
open Go Go.RowKit

def okB (c : UInt8) : Bool := 32 ≤ c.toNat && c.toNat ≤ 126 && c.toNat != 39
def mayT (l : List UInt8) : Bool := decide (l.length ≤ 12) && l.all okB

theorem take_snoc (s : ByteArray) (k : Nat) (h : k < s.size) : s.data.toList.take (k + 1) = s.data.toList.take k ++ [s[k]] := by
  rw [List.take_succ_eq_append_getElem (by simpa using h)]; rfl

theorem okB_false {c : UInt8} (h : c.toNat < 32 ∨ 126 < c.toNat ∨ c.toNat = 39) : okB c = false := by
  unfold okB; rcases h with h | h | h <;> simp <;> omega
theorem okB_true {c : UInt8} (h1 : ¬ c.toNat < 32) (h2 : ¬ 126 < c.toNat) (h3 : ¬ c.toNat = 39) : okB c = true := by
  unfold okB; simp; omega
theorem all_false (s : ByteArray) (k : Nat) (h : k < s.size) (hb : okB s[k] = false) : s.data.toList.all okB = false := by
  rw [List.all_eq_false]
  exact ⟨s[k], by show s.data[k] ∈ s.data.toList; simp, by simp [hb]⟩
theorem mayT_false (s : ByteArray) (k : Nat) (h : k < s.size) (hb : okB s[k] = false) : mayT s.data.toList = false := by
  unfold mayT; rw [all_false s k h hb]; simp
theorem ret_bool {a b : Bool} (h : a = b) : Ending.returned (.bool a) = .returned (.bool b) := by rw [h]
theorem all_snoc (s : ByteArray) (k : Nat) (h : k < s.size) (hb : okB s[k] = true) (ha : (s.data.toList.take k).all okB = true) : (s.data.toList.take (k + 1)).all okB = true := by
  rw [take_snoc s k h, List.all_append, ha]; simp [hb]

set_option maxHeartbeats 400000 in
theorem mayText_any (s : ByteArray) (w : World) (hs : s.size ≤ maxLen) :
    Calls Tryd.prog 20 #[.string s] w fun e w' => e = .returned (.bool (mayT s.data.toList)) ∧ w = w' := by
  unfold maxLen at hs
  go_enter Tryd.func20, Tryd.ntmps20
  by_cases h12 : 12 < s.size
  · go_wp2
    go_ret
    exact ⟨ret_bool (by unfold mayT; simp; intro h; omega), rfl⟩
  · go_wp2
    go_loop [3] (fun i => ∃ k : Nat, k ≤ s.size ∧ i = .int .i64 k ∧ (s.data.toList.take k).all okB = true) (fun i => s.size - (intOf i).toNat)
    case atStart => exact ⟨0, Nat.zero_le _, rfl, by simp⟩
    case round =>
      obtain ⟨k, hk, rfl, hall⟩ := hrel
      have H := Lib.hid hall
      clear hall
      by_cases hlt : k < s.size
      · by_cases h1 : s[k].toNat < 32
        · go_wp2
          go_ret
          exact ⟨ret_bool (mayT_false s k hlt (okB_false (.inl h1))).symm, rfl⟩
        by_cases h2 : 126 < s[k].toNat
        · go_wp2
          go_ret
          exact ⟨ret_bool (mayT_false s k hlt (okB_false (.inr (.inl h2)))).symm, rfl⟩
        by_cases h3 : s[k].toNat = 39
        · go_wp2
          go_ret
          exact ⟨ret_bool (mayT_false s k hlt (okB_false (.inr (.inr h3)))).symm, rfl⟩
        · have h3b : ((s[k].toNat : Int) == 39) = false := beq_eq_false_iff_ne.2 (by omega)
          go_wp2
          exact ⟨⟨k + 1, by omega, by go_num, all_snoc s k hlt (okB_true h1 h2 h3) H.out⟩, by simp [intOf]; omega⟩
      · obtain rfl : k = s.size := by omega
        go_wp2
        go_ret
        exact ⟨ret_bool (by have := H.out; rw [List.take_of_length_le (by simp)] at this; unfold mayT; rw [this]; simp; omega), rfl⟩

/-- Which values may be. -/
def mayV (k n : Int) (l : List UInt8) : Bool := if k = 0 then n == 0 && l.isEmpty else if k = 1 then l.isEmpty else if k = 2 then n == 0 && mayT l else false

theorem mayV2_false (n : Int) (s : ByteArray) (k : Nat) (h : k < s.size) (hb : okB s[k] = false) : mayV 2 n s.data.toList = false := by
  simp [mayV, mayT_false s k h hb]
theorem mayV20_no (s : ByteArray) (h : ¬ s.size ≤ 12) : decide ((s.size : Int) ≤ 12) = mayV 2 0 s.data.toList := by
  have h' : ¬ (s.size : Int) ≤ 12 := by omega
  rw [decide_eq_false h']
  simp [mayV, mayT, h]
theorem mayV20_yes (s : ByteArray) (h : s.size ≤ 12) (ha : (s.data.toList.take s.size).all okB = true) : decide ((s.size : Int) ≤ 12) = mayV 2 0 s.data.toList := by
  have h' : (s.size : Int) ≤ 12 := by omega
  rw [List.take_of_length_le (by simp)] at ha
  unfold mayV mayT
  rw [ha, decide_eq_true h']
  simp [h]
theorem below_alloc1 (w : World) (o : Obj) : Below w.heap.size w (w.alloc o) := (Below.refl _ _).alloc (Nat.le_refl _) o

set_option maxHeartbeats 400000 in
theorem may_any (k n : Int) (s : ByteArray) (w : World) (hs : s.size ≤ maxLen) :
    Calls Tryd.prog 16 #[.agg #[.int .i64 k, .int .i64 n, .string s]] w fun e w' => e = .returned (.bool (mayV k n s.data.toList)) ∧ Below w.heap.size w w' := by
  by_cases k0 : k = 0
  · subst k0
    by_cases n0 : n = 0
    · subst n0
      go_enter Tryd.func16, Tryd.ntmps16
      go_wp2
      go_ret
      refine ⟨ret_bool ?_, below_alloc1 _ _⟩
      simp [mayV, ByteArray.toList_eq]
    · have nb : ((n : Int) == 0) = false := beq_eq_false_iff_ne.2 n0
      go_enter Tryd.func16, Tryd.ntmps16
      go_wp2
      go_ret
      refine ⟨ret_bool ?_, below_alloc1 _ _⟩
      simp [mayV, nb]
  · by_cases k1 : k = 1
    · subst k1
      go_enter Tryd.func16, Tryd.ntmps16
      go_wp2
      go_ret
      refine ⟨ret_bool ?_, below_alloc1 _ _⟩
      simp [mayV, ByteArray.toList_eq]
    · by_cases k2 : k = 2
      · subst k2
        by_cases n0 : n = 0
        · subst n0
          go_enter Tryd.func16, Tryd.ntmps16
          go_wp2_with (go_at_call 20; refine (mayText_any _ _ hs).mono ?_; rintro e w' ⟨rfl, rfl⟩)
          go_ret
          exact ⟨rfl, below_alloc1 _ _⟩
        · have nb : ((n : Int) == 0) = false := beq_eq_false_iff_ne.2 n0
          go_enter Tryd.func16, Tryd.ntmps16
          go_wp2
          go_ret
          refine ⟨ret_bool ?_, below_alloc1 _ _⟩
          simp [mayV, nb]
      · go_enter Tryd.func16, Tryd.ntmps16
        go_wp2
        go_ret
        refine ⟨ret_bool ?_, below_alloc1 _ _⟩
        simp [mayV, k0, k1, k2]

end Go.Proofs.YtfbgbmkffippgaaDoor
