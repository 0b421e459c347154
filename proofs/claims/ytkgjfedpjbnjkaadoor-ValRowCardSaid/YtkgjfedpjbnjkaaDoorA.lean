/- Contracts of package val's functions (walks). -/
import Derived.Test.YtkgjfedpjbnjkaaDoorProg
import Derived.WalkKit
import Derived.WalkLawsBesides
import Derived.WalkSpells
import Derived.Outline
import Derived.Lib.Hide
namespace Go.Proofs.YtkgjfedpjbnjkaaDoor
open Go Go.RowKit

def okB (c : UInt8) : Bool := 32 ≤ c.toNat && c.toNat ≤ 126 && c.toNat != 39
def mayT (l : List UInt8) : Bool := decide (l.length ≤ 12) && l.all okB

theorem take_snoc (s : ByteArray) (k : Nat) (h : k < s.size) : s.data.toList.take (k + 1) = s.data.toList.take k ++ [s[k]] := by
  rw [List.take_succ_eq_append_getElem (by simpa using h)]; rfl

theorem okB_false {c : UInt8} (h : c.toNat < 32 ∨ 126 < c.toNat ∨ c.toNat = 39) : okB c = false := by
  unfold okB; rcases h with h | h | h <;> simp <;> omega
theorem okB_true {c : UInt8} (h1 : ¬ c.toNat < 32) (h2 : ¬ 126 < c.toNat) (h3 : ¬ c.toNat = 39) : okB c = true := by
  unfold okB; simp; omega
theorem all_false (s : ByteArray) (k : Nat) (h : k < s.size) (hb : okB s[k] = false) : s.data.toList.all okB = false := by
  rw [List.all_eq_false]
  exact ⟨s[k], by show s.data[k] ∈ s.data.toList; simp, by simp [hb]⟩
theorem mayT_false (s : ByteArray) (k : Nat) (h : k < s.size) (hb : okB s[k] = false) : mayT s.data.toList = false := by
  unfold mayT; rw [all_false s k h hb]; simp
theorem ret_bool {a b : Bool} (h : a = b) : Ending.returned (.bool a) = .returned (.bool b) := by rw [h]
theorem all_snoc (s : ByteArray) (k : Nat) (h : k < s.size) (hb : okB s[k] = true) (ha : (s.data.toList.take k).all okB = true) : (s.data.toList.take (k + 1)).all okB = true := by
  rw [take_snoc s k h, List.all_append, ha]; simp [hb]

set_option maxHeartbeats 400000 in
theorem mayText_any (s : ByteArray) (w : World) (hs : s.size ≤ maxLen) :
    Calls Tryd.prog 31 #[.string s] w fun e w' => e = .returned (.bool (mayT s.data.toList)) ∧ w = w' := by
  unfold maxLen at hs
  go_enter Tryd.func31, Tryd.ntmps31
  by_cases h12 : 12 < s.size
  · go_wp2
    go_ret
    exact ⟨ret_bool (by unfold mayT; simp; intro h; omega), rfl⟩
  · go_wp2
    go_loop [3] (fun i => ∃ k : Nat, k ≤ s.size ∧ i = .int .i64 k ∧ (s.data.toList.take k).all okB = true) (fun i => s.size - (intOf i).toNat)
    case atStart => exact ⟨0, Nat.zero_le _, rfl, by simp⟩
    case round =>
      obtain ⟨k, hk, rfl, hall⟩ := hrel
      have H := Lib.hid hall
      clear hall
      by_cases hlt : k < s.size
      · by_cases h1 : s[k].toNat < 32
        · go_wp2
          go_ret
          exact ⟨ret_bool (mayT_false s k hlt (okB_false (.inl h1))).symm, rfl⟩
        by_cases h2 : 126 < s[k].toNat
        · go_wp2
          go_ret
          exact ⟨ret_bool (mayT_false s k hlt (okB_false (.inr (.inl h2)))).symm, rfl⟩
        by_cases h3 : s[k].toNat = 39
        · go_wp2
          go_ret
          exact ⟨ret_bool (mayT_false s k hlt (okB_false (.inr (.inr h3)))).symm, rfl⟩
        · have h3b : ((s[k].toNat : Int) == 39) = false := beq_eq_false_iff_ne.2 (by omega)
          go_wp2
          exact ⟨⟨k + 1, by omega, by go_num, all_snoc s k hlt (okB_true h1 h2 h3) H.out⟩, by simp [intOf]; omega⟩
      · obtain rfl : k = s.size := by omega
        go_wp2
        go_ret
        exact ⟨ret_bool (by have := H.out; rw [List.take_of_length_le (by simp)] at this; unfold mayT; rw [this]; simp; omega), rfl⟩
end Go.Proofs.YtkgjfedpjbnjkaaDoor
