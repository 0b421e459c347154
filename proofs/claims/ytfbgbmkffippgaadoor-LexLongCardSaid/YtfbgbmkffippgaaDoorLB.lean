/- lex: letters, digits, what is between; names; signs. -/
import Derived.Test.YtfbgbmkffippgaaDoorLA
import Derived.Test.YtfbgbmkffippgaaDoorVK
namespace Go.Proofs.YtfbgbmkffippgaaDoor
open Go Go.RowKit
theorem isLet_eq (c : UInt8) : isLet c = decide ((97 ≤ c.toNat ∧ c.toNat ≤ 122) ∨ c.toNat = 95) := by
  unfold isLet
  rw [Bool.decide_or, Bool.decide_and]
theorem isDig_eq (c : UInt8) : isDig c = decide (48 ≤ c.toNat ∧ c.toNat ≤ 57) := by
  unfold isDig
  rw [Bool.decide_and]
theorem isBet_eq (c : UInt8) : isBet c = decide ((c.toNat = 32 ∨ c.toNat = 9) ∨ c.toNat = 10) := by
  unfold isBet
  rw [Bool.decide_or, Bool.decide_or]
set_option maxHeartbeats 400000 in
theorem letter_any (c : UInt8) (w : World) : Calls Tryd.prog 8 #[.int .u8 (c.toNat : Int)] w fun e w' => e = .returned (.bool (isLet c)) ∧ w' = w := by
  by_cases h1 : 97 ≤ c.toNat
  · by_cases h2 : c.toNat ≤ 122
    · go_enter Tryd.func8, Tryd.ntmps8
      go_wp2
      go_ret
      exact ⟨ret_bool (by rw [isLet_eq]; first | exact (decide_eq_true (by omega)).symm | exact (decide_eq_false (by omega)).symm | exact decide_eq_decide.2 (by omega)), rfl⟩
    · by_cases h3 : c.toNat = 95
      · omega
      · have h3b : ((c.toNat : Int) == 95) = false := beq_eq_false_iff_ne.2 (by omega)
        go_enter Tryd.func8, Tryd.ntmps8
        go_wp2
        go_ret
        exact ⟨ret_bool (by rw [isLet_eq]; first | exact (decide_eq_true (by omega)).symm | exact (decide_eq_false (by omega)).symm | exact decide_eq_decide.2 (by omega)), rfl⟩
  · by_cases h3 : c.toNat = 95
    · go_enter Tryd.func8, Tryd.ntmps8
      go_wp2
      go_ret
      exact ⟨ret_bool (by rw [isLet_eq]; first | exact (decide_eq_true (by omega)).symm | exact (decide_eq_false (by omega)).symm | exact decide_eq_decide.2 (by omega)), rfl⟩
    · have h3b : ((c.toNat : Int) == 95) = false := beq_eq_false_iff_ne.2 (by omega)
      go_enter Tryd.func8, Tryd.ntmps8
      go_wp2
      go_ret
      exact ⟨ret_bool (by rw [isLet_eq]; first | exact (decide_eq_true (by omega)).symm | exact (decide_eq_false (by omega)).symm | exact decide_eq_decide.2 (by omega)), rfl⟩
set_option maxHeartbeats 400000 in
theorem digit_any (c : UInt8) (w : World) : Calls Tryd.prog 10 #[.int .u8 (c.toNat : Int)] w fun e w' => e = .returned (.bool (isDig c)) ∧ w' = w := by
  by_cases h1 : 48 ≤ c.toNat
  · by_cases h2 : c.toNat ≤ 57
    · go_enter Tryd.func10, Tryd.ntmps10
      go_wp2
      go_ret
      exact ⟨ret_bool (by rw [isDig_eq]; first | exact (decide_eq_true (by omega)).symm | exact (decide_eq_false (by omega)).symm | exact decide_eq_decide.2 (by omega)), rfl⟩
    · go_enter Tryd.func10, Tryd.ntmps10
      go_wp2
      go_ret
      exact ⟨ret_bool (by rw [isDig_eq]; first | exact (decide_eq_true (by omega)).symm | exact (decide_eq_false (by omega)).symm | exact decide_eq_decide.2 (by omega)), rfl⟩
  · go_enter Tryd.func10, Tryd.ntmps10
    go_wp2
    go_ret
    exact ⟨ret_bool (by rw [isDig_eq]; first | exact (decide_eq_true (by omega)).symm | exact (decide_eq_false (by omega)).symm | exact decide_eq_decide.2 (by omega)), rfl⟩
set_option maxHeartbeats 400000 in
theorem between_any (c : UInt8) (w : World) : Calls Tryd.prog 6 #[.int .u8 (c.toNat : Int)] w fun e w' => e = .returned (.bool (isBet c)) ∧ w' = w := by
  by_cases h1 : c.toNat = 32
  · go_enter Tryd.func6, Tryd.ntmps6
    go_wp2
    go_ret
    exact ⟨ret_bool (by rw [isBet_eq]; first | exact (decide_eq_true (by omega)).symm | exact (decide_eq_false (by omega)).symm | exact decide_eq_decide.2 (by omega)), rfl⟩
  have h1b : ((c.toNat : Int) == 32) = false := beq_eq_false_iff_ne.2 (by omega)
  by_cases h2 : c.toNat = 9
  · go_enter Tryd.func6, Tryd.ntmps6
    go_wp2
    go_ret
    exact ⟨ret_bool (by rw [isBet_eq]; first | exact (decide_eq_true (by omega)).symm | exact (decide_eq_false (by omega)).symm | exact decide_eq_decide.2 (by omega)), rfl⟩
  have h2b : ((c.toNat : Int) == 9) = false := beq_eq_false_iff_ne.2 (by omega)
  by_cases h3 : c.toNat = 10
  · go_enter Tryd.func6, Tryd.ntmps6
    go_wp2
    go_ret
    exact ⟨ret_bool (by rw [isBet_eq]; first | exact (decide_eq_true (by omega)).symm | exact (decide_eq_false (by omega)).symm | exact decide_eq_decide.2 (by omega)), rfl⟩
  have h3b : ((c.toNat : Int) == 10) = false := beq_eq_false_iff_ne.2 (by omega)
  go_enter Tryd.func6, Tryd.ntmps6
  go_wp2
  go_ret
  exact ⟨ret_bool (by rw [isBet_eq]; first | exact (decide_eq_true (by omega)).symm | exact (decide_eq_false (by omega)).symm | exact decide_eq_decide.2 (by omega)), rfl⟩
theorem len_data (s : ByteArray) : s.data.toList.length = s.size := Array.length_toList
theorem ret_i64 {a b : Int} (h : a = b) : Ending.returned (.int .i64 a) = .returned (.int .i64 b) := by rw [h]
set_option maxHeartbeats 1000000 in
theorem name_any (s : ByteArray) (w : World) (h1 : 1 ≤ s.size) (hs : s.size ≤ 1000000) : Calls Tryd.prog 9 #[.string s] w fun e w' => e = .returned (.int .i64 (nameN s.data.toList : Int)) ∧ w' = w := by
  go_enter Tryd.func9, Tryd.ntmps9
  go_wp2
  go_loop [3] (fun i => ∃ k : Nat, 1 ≤ k ∧ k ≤ s.size ∧ i = .int .i64 k ∧ runF isNam s.data.toList 1 = runF isNam s.data.toList k) (fun i => s.size - (intOf i).toNat)
  case atStart => exact ⟨1, Nat.le_refl _, h1, rfl, rfl⟩
  case round =>
    obtain ⟨k, hk1, hk, rfl, hall⟩ := hrel
    have H := Lib.hid hall
    clear hall
    by_cases hlt : k < s.size
    · have hl : k < s.data.toList.length := by rw [len_data]; exact hlt
      by_cases hL : isLet s[k] = true
      · go_wp2_with (go_at_call 8; (with_reducible refine (letter_any s[k] w).mono ?_); rintro e w' ⟨rfl, hw⟩; subst w')
        exact ⟨⟨k + 1, by omega, by omega, by go_num, H.out.trans (runF_yes hl (show isNam s[k] = true by unfold isNam; rw [hL]; rfl)).symm⟩, by simp [intOf]; omega⟩
      · have hL : isLet s[k] = false := by simpa using hL
        by_cases hD : isDig s[k] = true
        · go_wp2_with (first | (go_at_call 8; (with_reducible refine (letter_any s[k] w).mono ?_); rintro e w' ⟨rfl, hw⟩; subst w') | (go_at_call 10; (with_reducible refine (digit_any s[k] w).mono ?_); rintro e w' ⟨rfl, hw⟩; subst w'))
          exact ⟨⟨k + 1, by omega, by omega, by go_num, H.out.trans (runF_yes hl (show isNam s[k] = true by unfold isNam; rw [hL, hD]; rfl)).symm⟩, by simp [intOf]; omega⟩
        · have hD : isDig s[k] = false := by simpa using hD
          have hn : runF isNam s.data.toList 1 = k := H.out.trans (runF_no hl (show isNam s[k] = false by unfold isNam; rw [hL, hD]; rfl))
          have HN := Lib.hid hn
          clear hn
          by_cases h12 : 12 < k
          · go_wp2_with (first | (go_at_call 8; (with_reducible refine (letter_any s[k] w).mono ?_); rintro e w' ⟨rfl, hw⟩; subst w') | (go_at_call 10; (with_reducible refine (digit_any s[k] w).mono ?_); rintro e w' ⟨rfl, hw⟩; subst w'))
            go_ret
            exact ⟨ret_i64 (by unfold nameN; rw [HN.out, if_pos h12]; rfl), rfl⟩
          · go_wp2_with (first | (go_at_call 8; (with_reducible refine (letter_any s[k] w).mono ?_); rintro e w' ⟨rfl, hw⟩; subst w') | (go_at_call 10; (with_reducible refine (digit_any s[k] w).mono ?_); rintro e w' ⟨rfl, hw⟩; subst w'))
            go_ret
            exact ⟨ret_i64 (by unfold nameN; rw [HN.out, if_neg h12]), rfl⟩
    · obtain rfl : k = s.size := by omega
      have HN := Lib.hid (H.out.trans (runF_end (p := isNam) (l := s.data.toList) (k := s.size) (by rw [len_data]; exact Nat.le_refl _)))
      by_cases h12 : 12 < s.size
      · go_wp2
        go_ret
        exact ⟨ret_i64 (by unfold nameN; rw [HN.out, if_pos h12]; rfl), rfl⟩
      · go_wp2
        go_ret
        exact ⟨ret_i64 (by unfold nameN; rw [HN.out, if_neg h12]), rfl⟩
end Go.Proofs.YtfbgbmkffippgaaDoor
