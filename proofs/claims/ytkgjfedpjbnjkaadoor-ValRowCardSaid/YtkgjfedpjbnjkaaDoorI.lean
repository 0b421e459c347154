/- Contracts: the reference's Name. -/
import Derived.Test.YtkgjfedpjbnjkaaDoorH
namespace Go.Proofs.YtkgjfedpjbnjkaaDoor
open Go Go.RowKit

def ltrOrDgt (c : UInt8) : Bool := ltr c || dgt c
theorem all_more (s : ByteArray) (k : Nat) (h : k < s.size) (hb : ltrOrDgt s[k] = true) (ha : (s.data.toList.take k).all ltrOrDgt = true) : (s.data.toList.take (k + 1)).all ltrOrDgt = true := by
  rw [take_snoc s k h, List.all_append, ha]; simp [hb]

set_option maxHeartbeats 1000000 in
theorem refName_any (s : ByteArray) (w : World) (hs : s.size ≤ maxLen) :
    Calls Tryd.prog 28 #[.string s] w fun e w' => e = .returned (.bool (nameB s.data.toList)) ∧ Below w.heap.size w w' := by
  unfold maxLen at hs
  have hl : s.data.toList.length = s.size := by simp
  have HL := Lib.hid hl
  clear hl
  by_cases h1 : s.size < 1
  · go_enter Tryd.func28, Tryd.ntmps28
    go_wp2
    go_ret
    exact ⟨ret_bool (nameB_no _ (.inl (by rw [HL.out]; exact h1))).symm, Below.refl _ _⟩
  by_cases h2 : 12 < s.size
  · go_enter Tryd.func28, Tryd.ntmps28
    go_wp2
    go_ret
    exact ⟨ret_bool (nameB_no _ (.inr (.inl (by rw [HL.out]; exact h2)))).symm, Below.refl _ _⟩
  have h0 : 0 < s.size := by omega
  have e0 := at_k s 0 h0
  have E0 := Lib.hid e0
  clear e0
  cases hd : dgt s[0]
  · have HD := Lib.hid hd
    cases hk : kwB s.data.toList
    · have HK := Lib.hid hk
      go_enter Tryd.func28, Tryd.ntmps28
      go_wp2_with (first
        | (go_at_call 42; refine (digit_any _ _).mono ?_; rintro e w' ⟨rfl, rfl⟩)
        | (go_at_call 43; refine (word_any _ _).mono ?_; rintro e w' ⟨rfl, hb⟩))
      rename_i W
      clear hd hk
      go_loop [3] (fun i => ∃ k : Nat, k ≤ s.size ∧ i = .int .i64 k ∧ (s.data.toList.take k).all ltrOrDgt = true) (fun i => s.size - (intOf i).toNat)
      case atStart => exact ⟨0, Nat.zero_le _, rfl, by simp⟩
      case round =>
        obtain ⟨k, hk, rfl, hall⟩ := hrel
        have H := Lib.hid hall
        clear hall
        by_cases hlt : k < s.size
        · cases c1 : ltr s[k]
          · have C1 := Lib.hid c1
            cases c2 : dgt s[k]
            · have C2 := Lib.hid c2
              go_wp2_with (first
                | (go_at_call 44; refine (letter_any _ _).mono ?_; rintro e w' ⟨rfl, rfl⟩)
                | (go_at_call 42; refine (digit_any _ _).mono ?_; rintro e w' ⟨rfl, rfl⟩))
              go_ret
              exact ⟨ret_bool (nameB_bad _ k _ (at_k s k hlt) C1.out C2.out).symm, hb⟩
            · have C2 := Lib.hid c2
              go_wp2_with (first
                | (go_at_call 44; refine (letter_any _ _).mono ?_; rintro e w' ⟨rfl, rfl⟩)
                | (go_at_call 42; refine (digit_any _ _).mono ?_; rintro e w' ⟨rfl, rfl⟩))
              exact ⟨⟨k + 1, by omega, by go_num, all_more s k hlt (by unfold ltrOrDgt; rw [C2.out]; simp) H.out⟩, by simp [intOf]; omega⟩
          · have C1 := Lib.hid c1
            go_wp2_with (first
              | (go_at_call 44; refine (letter_any _ _).mono ?_; rintro e w' ⟨rfl, rfl⟩)
              | (go_at_call 42; refine (digit_any _ _).mono ?_; rintro e w' ⟨rfl, rfl⟩))
            exact ⟨⟨k + 1, by omega, by go_num, all_more s k hlt (by unfold ltrOrDgt; rw [C1.out]; simp) H.out⟩, by simp [intOf]; omega⟩
        · obtain rfl : k = s.size := by omega
          go_wp2
          go_ret
          exact ⟨ret_bool (by
            have ha := H.out
            rw [List.take_of_length_le (by simp)] at ha
            exact (nameB_ref _ (by rw [HL.out]; exact h1) (by rw [HL.out]; exact h2) _ E0.out HD.out HK.out ha).symm), hb⟩
    · have HK := Lib.hid hk
      go_enter Tryd.func28, Tryd.ntmps28
      go_wp2_with (first
        | (go_at_call 42; refine (digit_any _ _).mono ?_; rintro e w' ⟨rfl, rfl⟩)
        | (go_at_call 43; refine (word_any _ _).mono ?_; rintro e w' ⟨rfl, hb⟩))
      go_ret
      exact ⟨ret_bool (nameB_no _ (.inr (.inr HK.out))).symm, hb⟩
  · have HD := Lib.hid hd
    go_enter Tryd.func28, Tryd.ntmps28
    go_wp2_with (first
      | (go_at_call 42; refine (digit_any _ _).mono ?_; rintro e w' ⟨rfl, rfl⟩)
      | (go_at_call 43; refine (word_any _ _).mono ?_; rintro e w' ⟨rfl, hb⟩))
    go_ret
    exact ⟨ret_bool (nameB_digit _ _ E0.out HD.out).symm, Below.refl _ _⟩
end Go.Proofs.YtkgjfedpjbnjkaaDoor
