/- Contracts: names. -/
import Derived.Test.YtkgjfedpjbnjkaaDoorC
import Derived.Test.YtkgjfedpjbnjkaaDoorN
namespace Go.Proofs.YtkgjfedpjbnjkaaDoor
open Go Go.RowKit

theorem kw_yes {l x : List UInt8} (h : (l == x) = true) (hx : x ∈ kws) : true = kwB l := by
  unfold kwB
  rw [eq_comm, List.any_eq_true]
  exact ⟨x, hx, h⟩

set_option maxRecDepth 100000 in
set_option maxHeartbeats 2000000 in
theorem keyWord_any (s : ByteArray) (w : World) :
    Calls Tryd.prog 41 #[.string s] w fun e w' => e = .returned (.bool (kwB s.data.toList)) ∧ w = w' := by
  rw [← ByteArray.toList_eq]
  go_enter Tryd.func41, Tryd.ntmps41
  go_wp2
  all_goals go_ret
  all_goals refine ⟨ret_bool ?_, rfl⟩
  all_goals first
    | exact kw_yes (by assumption) (by decide)
    | (exact absurd (Eq.trans (Eq.symm (by assumption : (_ == _) = true)) (by assumption)) (by decide))
    | (rw [eq_comm]; unfold kwB kws; simp only [List.any_cons, List.any_nil, Bool.or_false, Bool.or_eq_false_iff]; (repeat' apply And.intro) <;> assumption)

theorem ltr_yes {c : UInt8} (h : c.toNat = 95 ∨ (97 ≤ c.toNat ∧ c.toNat ≤ 122)) : ltr c = true := by
  unfold ltr; rcases h with h | h <;> simp <;> omega
theorem ltr_no {c : UInt8} (h : c.toNat ≠ 95) (h2 : c.toNat < 97 ∨ 122 < c.toNat) : ltr c = false := by
  unfold ltr; simp; omega
theorem dgt_yes {c : UInt8} (h : 48 ≤ c.toNat) (h2 : c.toNat ≤ 57) : dgt c = true := by
  unfold dgt; simp; omega
theorem dgt_no {c : UInt8} (h : c.toNat < 48 ∨ 57 < c.toNat) : dgt c = false := by
  unfold dgt; simp; omega
theorem dgt_dec {c : UInt8} (h : ¬ c.toNat < 48) : decide ((c.toNat : Int) ≤ 57) = dgt c := by
  unfold dgt; rw [Bool.eq_iff_iff]; simp; omega
theorem at_k (s : ByteArray) (k : Nat) (h : k < s.size) : s.data.toList[k]? = some s[k] := by
  have h' : k < s.data.size := h
  rw [Array.getElem?_toList, Array.getElem?_eq_getElem h']; rfl
theorem spelt_more (s : ByteArray) (k : Nat) (h : k < s.size) (hr : k = 0 ∨ speltB (s.data.toList.take k) = true) (hc : ltr s[k] = true ∨ (dgt s[k] = true ∧ k ≠ 0)) : k + 1 = 0 ∨ speltB (s.data.toList.take (k + 1)) = true := by
  right
  rw [take_snoc s k h]
  rcases hr with hr | hr
  · subst hr
    rcases hc with hc | hc
    · simp [speltB, hc]
    · exact absurd rfl hc.2
  · rw [speltB_snoc _ _ hr]
    rcases hc with hc | hc
    · simp [hc]
    · simp [hc.1]
theorem spelt_end (s : ByteArray) (hr : s.size = 0 ∨ speltB (s.data.toList.take s.size) = true) : (!s.toList.isEmpty) = speltB s.data.toList := by
  rw [ByteArray.toList_eq]
  rw [List.take_of_length_le (by simp)] at hr
  rcases hr with hr | hr
  · have : s.data.toList = [] := List.eq_nil_of_length_eq_zero (by simpa using hr)
    rw [this]; rfl
  · cases h : s.data.toList with
    | nil => rw [h] at hr; simp [speltB] at hr
    | cons a b => rw [h] at hr; rw [hr]; rfl

set_option maxHeartbeats 1000000 in
theorem spelled_any (s : ByteArray) (w : World) (hs : s.size ≤ maxLen) :
    Calls Tryd.prog 40 #[.string s] w fun e w' => e = .returned (.bool (speltB s.data.toList)) ∧ w = w' := by
  unfold maxLen at hs
  go_enter Tryd.func40, Tryd.ntmps40
  go_wp2
  go_loop [3] (fun i => ∃ k : Nat, k ≤ s.size ∧ i = .int .i64 k ∧ (k = 0 ∨ speltB (s.data.toList.take k) = true)) (fun i => s.size - (intOf i).toNat)
  case atStart => exact ⟨0, Nat.zero_le _, rfl, .inl rfl⟩
  case round =>
    obtain ⟨k, hk, rfl, hall⟩ := hrel
    have H := Lib.hid hall
    clear hall
    by_cases hlt : k < s.size
    · have bad : ltr s[k] = false → (dgt s[k] = false ∨ k = 0) → false = speltB s.data.toList := fun h1 h2 => (speltB_false _ k _ (at_k s k hlt) h1 h2).symm
      have BAD := Lib.hid bad
      clear bad
      by_cases c1 : s[k].toNat < 48
      · have e1 : ((s[k].toNat : Int) == 95) = false := beq_eq_false_iff_ne.2 (by omega)
        go_wp2
        go_ret
        exact ⟨ret_bool (BAD.out (ltr_no (by omega) (by omega)) (.inl (dgt_no (by omega)))), rfl⟩
      by_cases c2 : s[k].toNat ≤ 57
      · have e1 : ((s[k].toNat : Int) == 95) = false := beq_eq_false_iff_ne.2 (by omega)
        by_cases k0 : k = 0
        · subst k0
          go_wp2
          go_ret
          exact ⟨ret_bool (BAD.out (ltr_no (by omega) (by omega)) (.inr (by trivial))), rfl⟩
        · have e2 : ((k : Int) == 0) = false := beq_eq_false_iff_ne.2 (by omega)
          go_wp2
          exact ⟨⟨k + 1, by omega, by go_num, spelt_more s k hlt H.out (.inr ⟨dgt_yes (by omega) (by omega), k0⟩)⟩, by simp [intOf]; omega⟩
      by_cases c3 : s[k].toNat < 95
      · have e1 : ((s[k].toNat : Int) == 95) = false := beq_eq_false_iff_ne.2 (by omega)
        go_wp2
        go_ret
        exact ⟨ret_bool (BAD.out (ltr_no (by omega) (by omega)) (.inl (dgt_no (by omega)))), rfl⟩
      by_cases c4 : s[k].toNat = 95
      · have e1 : ((s[k].toNat : Int) == 95) = true := beq_iff_eq.2 (by omega)
        have C4 := Lib.hid c4
        have c5 : s[k].toNat < 97 := by omega
        clear c4
        go_wp2
        exact ⟨⟨k + 1, by omega, by go_num, spelt_more s k hlt H.out (.inl (ltr_yes (.inl C4.out)))⟩, by simp [intOf]; omega⟩
      have e1 : ((s[k].toNat : Int) == 95) = false := beq_eq_false_iff_ne.2 (by omega)
      by_cases c5 : s[k].toNat < 97
      · go_wp2
        go_ret
        exact ⟨ret_bool (BAD.out (ltr_no (by omega) (by omega)) (.inl (dgt_no (by omega)))), rfl⟩
      by_cases c6 : s[k].toNat ≤ 122
      · go_wp2
        exact ⟨⟨k + 1, by omega, by go_num, spelt_more s k hlt H.out (.inl (ltr_yes (.inr ⟨by omega, by omega⟩)))⟩, by simp [intOf]; omega⟩
      · have d6 : decide ((s[k].toNat : Int) ≤ 122) = false := decide_eq_false (by omega)
        go_wp2
        go_ret
        exact ⟨ret_bool (BAD.out (ltr_no (by omega) (by omega)) (.inl (dgt_no (by omega)))), rfl⟩
    · obtain rfl : k = s.size := by omega
      go_wp2
      go_ret
      exact ⟨ret_bool (spelt_end s H.out), rfl⟩

theorem name_any (s : ByteArray) (w : World) (hs : s.size ≤ maxLen) :
    Calls Tryd.prog 27 #[.string s] w fun e w' => e = .returned (.bool (nameB s.data.toList)) ∧ w = w' := by
  have hl : s.data.toList.length = s.size := by simp
  have HL := Lib.hid hl
  clear hl
  by_cases h12 : s.size ≤ 12
  · by_cases hsp : speltB s.data.toList = true
    · go_enter Tryd.func27, Tryd.ntmps27
      go_wp2_with (first
        | (go_at_call 40; refine (spelled_any _ _ hs).mono ?_; rintro e w' ⟨rfl, rfl⟩)
        | (go_at_call 41; refine (keyWord_any _ _).mono ?_; rintro e w' ⟨rfl, rfl⟩))
      go_ret
      exact ⟨ret_bool (by unfold nameB; rw [hsp, HL.out]; simp [h12]), rfl⟩
    · have hsp' : speltB s.data.toList = false := by simpa using hsp
      go_enter Tryd.func27, Tryd.ntmps27
      go_wp2_with (first
        | (go_at_call 40; refine (spelled_any _ _ hs).mono ?_; rintro e w' ⟨rfl, rfl⟩)
        | (go_at_call 41; refine (keyWord_any _ _).mono ?_; rintro e w' ⟨rfl, rfl⟩))
      go_ret
      exact ⟨ret_bool (by unfold nameB; rw [hsp']; simp), rfl⟩
  · go_enter Tryd.func27, Tryd.ntmps27
    go_wp2
    go_ret
    exact ⟨ret_bool (by unfold nameB; rw [HL.out]; simp [h12]), rfl⟩

theorem letter_any (c : UInt8) (w : World) :
    Calls Tryd.prog 44 #[.int .u8 (c.toNat : Int)] w fun e w' => e = .returned (.bool (ltr c)) ∧ w = w' := by
  by_cases h1 : c.toNat = 95
  · have e1 : ((c.toNat : Int) == 95) = true := beq_iff_eq.2 (by omega)
    have H := Lib.hid h1
    clear h1
    go_enter Tryd.func44, Tryd.ntmps44
    go_wp2
    go_ret
    exact ⟨ret_bool (ltr_yes (.inl H.out)).symm, rfl⟩
  have e1 : ((c.toNat : Int) == 95) = false := beq_eq_false_iff_ne.2 (by omega)
  by_cases h2 : c.toNat < 97
  · go_enter Tryd.func44, Tryd.ntmps44
    go_wp2
    go_ret
    exact ⟨ret_bool (ltr_no h1 (.inl h2)).symm, rfl⟩
  by_cases h3 : c.toNat ≤ 122
  · go_enter Tryd.func44, Tryd.ntmps44
    go_wp2
    go_ret
    exact ⟨ret_bool (by rw [ltr_yes (.inr ⟨by omega, h3⟩)]; simp; omega), rfl⟩
  · go_enter Tryd.func44, Tryd.ntmps44
    go_wp2
    go_ret
    exact ⟨ret_bool (by rw [ltr_no h1 (.inr (by omega))]; simp; omega), rfl⟩

theorem digit_any (c : UInt8) (w : World) :
    Calls Tryd.prog 42 #[.int .u8 (c.toNat : Int)] w fun e w' => e = .returned (.bool (dgt c)) ∧ w = w' := by
  by_cases h2 : c.toNat < 48
  · go_enter Tryd.func42, Tryd.ntmps42
    go_wp2
    go_ret
    exact ⟨ret_bool (dgt_no (.inl h2)).symm, rfl⟩
  · go_enter Tryd.func42, Tryd.ntmps42
    go_wp2
    go_ret
    exact ⟨ret_bool (dgt_dec h2), rfl⟩
end Go.Proofs.YtkgjfedpjbnjkaaDoor
