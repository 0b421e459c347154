/- lex: signs. -/
import Derived.Test.YtfbgbmkffippgaaDoorHR
import Derived.Lib.IndexBytes
namespace Go.Proofs.YtfbgbmkffippgaaDoor
open Go Go.RowKit
theorem head_data (s : ByteArray) (h : 0 < s.size) : ∃ r, s.data.toList = s[0] :: r := by
  have hl : 0 < s.data.toList.length := by rw [len_data]; exact h
  refine ⟨s.data.toList.drop 1, ?_⟩
  have := List.drop_eq_getElem_cons hl
  rw [List.drop_zero] at this
  exact this
theorem signN_2 (s : ByteArray) (h : 1 < s.size) (h2 : sign2 (s.extract 0 2).toList = true) : signN s.data.toList = 2 := by
  unfold signN
  rw [Lib.toList_data, Lib.extract_data, List.drop_zero] at h2
  rw [show s.data.toList.take 2 = s.data.toList.take (2 - 0) from rfl, h2, len_data, decide_eq_true h]
  rfl
theorem signN_n (s : ByteArray) (h0 : 0 < s.size) (h2 : 1 < s.size → sign2 (s.extract 0 2).toList = false) : signN s.data.toList = if sign1 s[0] then 1 else 0 := by
  unfold signN
  have e : (decide (1 < s.data.toList.length) && sign2 (s.data.toList.take 2)) = false := by
    by_cases h : 1 < s.size
    · have h3 := h2 h
      rw [Lib.toList_data, Lib.extract_data, List.drop_zero] at h3
      rw [show s.data.toList.take 2 = s.data.toList.take (2 - 0) from rfl, h3, Bool.and_false]
    · rw [len_data, decide_eq_false h]
      rfl
  rw [e]
  obtain ⟨r, hr⟩ := head_data s h0
  rw [hr]
  rfl

set_option maxHeartbeats 4000000 in
theorem sign_any (s : ByteArray) (w : World) (h0 : 0 < s.size) (hs : s.size ≤ 1000000) : Calls Tryd.prog 13 #[.string s] w fun e w' => e = .returned (.int .i64 (signN s.data.toList : Int)) ∧ w' = w := by
  by_cases h1 : 1 < s.size
  · rcases (by cases ((s.extract 0 2).toList == [33, 61]) <;> simp : ((s.extract 0 2).toList == [33, 61]) = true ∨ ((s.extract 0 2).toList == [33, 61]) = false) with c0 | c0
    · have HN := Lib.hid (signN_2 s h1 (by unfold sign2; rw [c0]; rfl))
      go_enter Tryd.func13, Tryd.ntmps13
      go_wp2_with fail
      go_ret
      exact ⟨ret_i64 (by rw [HN.out]; rfl), rfl⟩
    rcases (by cases ((s.extract 0 2).toList == [60, 61]) <;> simp : ((s.extract 0 2).toList == [60, 61]) = true ∨ ((s.extract 0 2).toList == [60, 61]) = false) with c1 | c1
    · have HN := Lib.hid (signN_2 s h1 (by unfold sign2; rw [c0, c1]; rfl))
      go_enter Tryd.func13, Tryd.ntmps13
      go_wp2_with fail
      go_ret
      exact ⟨ret_i64 (by rw [HN.out]; rfl), rfl⟩
    rcases (by cases ((s.extract 0 2).toList == [62, 61]) <;> simp : ((s.extract 0 2).toList == [62, 61]) = true ∨ ((s.extract 0 2).toList == [62, 61]) = false) with c2 | c2
    · have HN := Lib.hid (signN_2 s h1 (by unfold sign2; rw [c0, c1, c2]; rfl))
      go_enter Tryd.func13, Tryd.ntmps13
      go_wp2_with fail
      go_ret
      exact ⟨ret_i64 (by rw [HN.out]; rfl), rfl⟩
    rcases (by cases ((s.extract 0 2).toList == [45, 62]) <;> simp : ((s.extract 0 2).toList == [45, 62]) = true ∨ ((s.extract 0 2).toList == [45, 62]) = false) with c3 | c3
    · have HN := Lib.hid (signN_2 s h1 (by unfold sign2; rw [c0, c1, c2, c3]; rfl))
      go_enter Tryd.func13, Tryd.ntmps13
      go_wp2_with fail
      go_ret
      exact ⟨ret_i64 (by rw [HN.out]; rfl), rfl⟩
    have h2 : sign2 (s.extract 0 2).toList = false := by unfold sign2; rw [c0, c1, c2, c3]; rfl
    have hn := signN_n s h0 (fun _ => h2)
    have b0 : ((s[0].toNat : Int) == 40) = true ∨ ((s[0].toNat : Int) == 40) = false := by cases ((s[0].toNat : Int) == 40) <;> simp
    have b1 : ((s[0].toNat : Int) == 41) = true ∨ ((s[0].toNat : Int) == 41) = false := by cases ((s[0].toNat : Int) == 41) <;> simp
    have b2 : ((s[0].toNat : Int) == 44) = true ∨ ((s[0].toNat : Int) == 44) = false := by cases ((s[0].toNat : Int) == 44) <;> simp
    have b3 : ((s[0].toNat : Int) == 46) = true ∨ ((s[0].toNat : Int) == 46) = false := by cases ((s[0].toNat : Int) == 46) <;> simp
    have b4 : ((s[0].toNat : Int) == 61) = true ∨ ((s[0].toNat : Int) == 61) = false := by cases ((s[0].toNat : Int) == 61) <;> simp
    have b5 : ((s[0].toNat : Int) == 60) = true ∨ ((s[0].toNat : Int) == 60) = false := by cases ((s[0].toNat : Int) == 60) <;> simp
    have b6 : ((s[0].toNat : Int) == 62) = true ∨ ((s[0].toNat : Int) == 62) = false := by cases ((s[0].toNat : Int) == 62) <;> simp
    have b7 : ((s[0].toNat : Int) == 35) = true ∨ ((s[0].toNat : Int) == 35) = false := by cases ((s[0].toNat : Int) == 35) <;> simp
    have b8 : ((s[0].toNat : Int) == 36) = true ∨ ((s[0].toNat : Int) == 36) = false := by cases ((s[0].toNat : Int) == 36) <;> simp
    rcases b0 with b0 | b0
    · have HN := Lib.hid (hn.trans (show (if sign1 s[0] then 1 else 0) = 1 by unfold sign1; rw [b0]; rfl))
      clear hn b1 b2 b3 b4 b5 b6 b7 b8
      go_enter Tryd.func13, Tryd.ntmps13
      go_wp2_with fail
      go_ret
      exact ⟨ret_i64 (by rw [HN.out]; rfl), rfl⟩
    rcases b1 with b1 | b1
    · have HN := Lib.hid (hn.trans (show (if sign1 s[0] then 1 else 0) = 1 by unfold sign1; rw [b0, b1]; rfl))
      clear hn b2 b3 b4 b5 b6 b7 b8
      go_enter Tryd.func13, Tryd.ntmps13
      go_wp2_with fail
      go_ret
      exact ⟨ret_i64 (by rw [HN.out]; rfl), rfl⟩
    rcases b2 with b2 | b2
    · have HN := Lib.hid (hn.trans (show (if sign1 s[0] then 1 else 0) = 1 by unfold sign1; rw [b0, b1, b2]; rfl))
      clear hn b3 b4 b5 b6 b7 b8
      go_enter Tryd.func13, Tryd.ntmps13
      go_wp2_with fail
      go_ret
      exact ⟨ret_i64 (by rw [HN.out]; rfl), rfl⟩
    rcases b3 with b3 | b3
    · have HN := Lib.hid (hn.trans (show (if sign1 s[0] then 1 else 0) = 1 by unfold sign1; rw [b0, b1, b2, b3]; rfl))
      clear hn b4 b5 b6 b7 b8
      go_enter Tryd.func13, Tryd.ntmps13
      go_wp2_with fail
      go_ret
      exact ⟨ret_i64 (by rw [HN.out]; rfl), rfl⟩
    rcases b4 with b4 | b4
    · have HN := Lib.hid (hn.trans (show (if sign1 s[0] then 1 else 0) = 1 by unfold sign1; rw [b0, b1, b2, b3, b4]; rfl))
      clear hn b5 b6 b7 b8
      go_enter Tryd.func13, Tryd.ntmps13
      go_wp2_with fail
      go_ret
      exact ⟨ret_i64 (by rw [HN.out]; rfl), rfl⟩
    rcases b5 with b5 | b5
    · have HN := Lib.hid (hn.trans (show (if sign1 s[0] then 1 else 0) = 1 by unfold sign1; rw [b0, b1, b2, b3, b4, b5]; rfl))
      clear hn b6 b7 b8
      go_enter Tryd.func13, Tryd.ntmps13
      go_wp2_with fail
      go_ret
      exact ⟨ret_i64 (by rw [HN.out]; rfl), rfl⟩
    rcases b6 with b6 | b6
    · have HN := Lib.hid (hn.trans (show (if sign1 s[0] then 1 else 0) = 1 by unfold sign1; rw [b0, b1, b2, b3, b4, b5, b6]; rfl))
      clear hn b7 b8
      go_enter Tryd.func13, Tryd.ntmps13
      go_wp2_with fail
      go_ret
      exact ⟨ret_i64 (by rw [HN.out]; rfl), rfl⟩
    rcases b7 with b7 | b7
    · have HN := Lib.hid (hn.trans (show (if sign1 s[0] then 1 else 0) = 1 by unfold sign1; rw [b0, b1, b2, b3, b4, b5, b6, b7]; rfl))
      clear hn b8
      go_enter Tryd.func13, Tryd.ntmps13
      go_wp2_with fail
      go_ret
      exact ⟨ret_i64 (by rw [HN.out]; rfl), rfl⟩
    rcases b8 with b8 | b8
    · have HN := Lib.hid (hn.trans (show (if sign1 s[0] then 1 else 0) = 1 by unfold sign1; rw [b0, b1, b2, b3, b4, b5, b6, b7, b8]; rfl))
      clear hn 
      go_enter Tryd.func13, Tryd.ntmps13
      go_wp2_with fail
      go_ret
      exact ⟨ret_i64 (by rw [HN.out]; rfl), rfl⟩
    have HN := Lib.hid (hn.trans (show (if sign1 s[0] then 1 else 0) = 0 by unfold sign1; rw [b0, b1, b2, b3, b4, b5, b6, b7, b8]; rfl))
    clear hn
    go_enter Tryd.func13, Tryd.ntmps13
    go_wp2_with fail
    go_ret
    exact ⟨ret_i64 (by rw [HN.out]; rfl), rfl⟩
  · have h1b : ¬ (1 : Int) < (s.size : Int) := by omega
    have hn := signN_n s h0 (fun h => absurd h h1)
    have b0 : ((s[0].toNat : Int) == 40) = true ∨ ((s[0].toNat : Int) == 40) = false := by cases ((s[0].toNat : Int) == 40) <;> simp
    have b1 : ((s[0].toNat : Int) == 41) = true ∨ ((s[0].toNat : Int) == 41) = false := by cases ((s[0].toNat : Int) == 41) <;> simp
    have b2 : ((s[0].toNat : Int) == 44) = true ∨ ((s[0].toNat : Int) == 44) = false := by cases ((s[0].toNat : Int) == 44) <;> simp
    have b3 : ((s[0].toNat : Int) == 46) = true ∨ ((s[0].toNat : Int) == 46) = false := by cases ((s[0].toNat : Int) == 46) <;> simp
    have b4 : ((s[0].toNat : Int) == 61) = true ∨ ((s[0].toNat : Int) == 61) = false := by cases ((s[0].toNat : Int) == 61) <;> simp
    have b5 : ((s[0].toNat : Int) == 60) = true ∨ ((s[0].toNat : Int) == 60) = false := by cases ((s[0].toNat : Int) == 60) <;> simp
    have b6 : ((s[0].toNat : Int) == 62) = true ∨ ((s[0].toNat : Int) == 62) = false := by cases ((s[0].toNat : Int) == 62) <;> simp
    have b7 : ((s[0].toNat : Int) == 35) = true ∨ ((s[0].toNat : Int) == 35) = false := by cases ((s[0].toNat : Int) == 35) <;> simp
    have b8 : ((s[0].toNat : Int) == 36) = true ∨ ((s[0].toNat : Int) == 36) = false := by cases ((s[0].toNat : Int) == 36) <;> simp
    rcases b0 with b0 | b0
    · have HN := Lib.hid (hn.trans (show (if sign1 s[0] then 1 else 0) = 1 by unfold sign1; rw [b0]; rfl))
      clear hn b1 b2 b3 b4 b5 b6 b7 b8
      go_enter Tryd.func13, Tryd.ntmps13
      go_wp2_with fail
      go_ret
      exact ⟨ret_i64 (by rw [HN.out]; rfl), rfl⟩
    rcases b1 with b1 | b1
    · have HN := Lib.hid (hn.trans (show (if sign1 s[0] then 1 else 0) = 1 by unfold sign1; rw [b0, b1]; rfl))
      clear hn b2 b3 b4 b5 b6 b7 b8
      go_enter Tryd.func13, Tryd.ntmps13
      go_wp2_with fail
      go_ret
      exact ⟨ret_i64 (by rw [HN.out]; rfl), rfl⟩
    rcases b2 with b2 | b2
    · have HN := Lib.hid (hn.trans (show (if sign1 s[0] then 1 else 0) = 1 by unfold sign1; rw [b0, b1, b2]; rfl))
      clear hn b3 b4 b5 b6 b7 b8
      go_enter Tryd.func13, Tryd.ntmps13
      go_wp2_with fail
      go_ret
      exact ⟨ret_i64 (by rw [HN.out]; rfl), rfl⟩
    rcases b3 with b3 | b3
    · have HN := Lib.hid (hn.trans (show (if sign1 s[0] then 1 else 0) = 1 by unfold sign1; rw [b0, b1, b2, b3]; rfl))
      clear hn b4 b5 b6 b7 b8
      go_enter Tryd.func13, Tryd.ntmps13
      go_wp2_with fail
      go_ret
      exact ⟨ret_i64 (by rw [HN.out]; rfl), rfl⟩
    rcases b4 with b4 | b4
    · have HN := Lib.hid (hn.trans (show (if sign1 s[0] then 1 else 0) = 1 by unfold sign1; rw [b0, b1, b2, b3, b4]; rfl))
      clear hn b5 b6 b7 b8
      go_enter Tryd.func13, Tryd.ntmps13
      go_wp2_with fail
      go_ret
      exact ⟨ret_i64 (by rw [HN.out]; rfl), rfl⟩
    rcases b5 with b5 | b5
    · have HN := Lib.hid (hn.trans (show (if sign1 s[0] then 1 else 0) = 1 by unfold sign1; rw [b0, b1, b2, b3, b4, b5]; rfl))
      clear hn b6 b7 b8
      go_enter Tryd.func13, Tryd.ntmps13
      go_wp2_with fail
      go_ret
      exact ⟨ret_i64 (by rw [HN.out]; rfl), rfl⟩
    rcases b6 with b6 | b6
    · have HN := Lib.hid (hn.trans (show (if sign1 s[0] then 1 else 0) = 1 by unfold sign1; rw [b0, b1, b2, b3, b4, b5, b6]; rfl))
      clear hn b7 b8
      go_enter Tryd.func13, Tryd.ntmps13
      go_wp2_with fail
      go_ret
      exact ⟨ret_i64 (by rw [HN.out]; rfl), rfl⟩
    rcases b7 with b7 | b7
    · have HN := Lib.hid (hn.trans (show (if sign1 s[0] then 1 else 0) = 1 by unfold sign1; rw [b0, b1, b2, b3, b4, b5, b6, b7]; rfl))
      clear hn b8
      go_enter Tryd.func13, Tryd.ntmps13
      go_wp2_with fail
      go_ret
      exact ⟨ret_i64 (by rw [HN.out]; rfl), rfl⟩
    rcases b8 with b8 | b8
    · have HN := Lib.hid (hn.trans (show (if sign1 s[0] then 1 else 0) = 1 by unfold sign1; rw [b0, b1, b2, b3, b4, b5, b6, b7, b8]; rfl))
      clear hn 
      go_enter Tryd.func13, Tryd.ntmps13
      go_wp2_with fail
      go_ret
      exact ⟨ret_i64 (by rw [HN.out]; rfl), rfl⟩
    have HN := Lib.hid (hn.trans (show (if sign1 s[0] then 1 else 0) = 0 by unfold sign1; rw [b0, b1, b2, b3, b4, b5, b6, b7, b8]; rfl))
    clear hn
    go_enter Tryd.func13, Tryd.ntmps13
    go_wp2_with fail
    go_ret
    exact ⟨ret_i64 (by rw [HN.out]; rfl), rfl⟩
end Go.Proofs.YtfbgbmkffippgaaDoor
