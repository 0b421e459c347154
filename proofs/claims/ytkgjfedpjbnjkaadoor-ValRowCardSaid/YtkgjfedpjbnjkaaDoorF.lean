/- Contracts: the reference's Compare, Eq, Test. -/
import Derived.Test.YtkgjfedpjbnjkaaDoorE
namespace Go.Proofs.YtkgjfedpjbnjkaaDoor
open Go Go.RowKit

theorem cmpV_k {k1 k2 : Int} (n1 : Int) (l1 : List UInt8) (n2 : Int) (l2 : List UInt8) {c : Int} (h : Lib.compareInt k1 k2 = c) (hc : c ≠ 0) : c = cmpV k1 n1 l1 k2 n2 l2 := by
  simp [cmpV, or3, h, hc]
theorem cmpV_n (k : Int) {n1 n2 : Int} (l1 l2 : List UInt8) {c : Int} (h : Lib.compareInt n1 n2 = c) (hc : c ≠ 0) : c = cmpV k n1 l1 k n2 l2 := by
  have hk : Lib.compareInt k k = 0 := by simp [Lib.compareInt]
  simp [cmpV, or3, h, hc, hk]
theorem cmpV_l (k n : Int) {l1 l2 : List UInt8} {c : Int} (h : Lib.compareBytes l1 l2 = c) : c = cmpV k n l1 k n l2 := by
  have hk : ∀ x, Lib.compareInt x x = 0 := fun x => by simp [Lib.compareInt]
  simp [cmpV, or3, h, hk]

set_option maxHeartbeats 800000 in
theorem refCompare_any (k1 n1 : Int) (s1 : ByteArray) (k2 n2 : Int) (s2 : ByteArray) (w : World) :
    Calls Tryd.prog 16 #[.agg #[.int .i64 k1, .int .i64 n1, .string s1], .agg #[.int .i64 k2, .int .i64 n2, .string s2]] w fun e w' => e = .returned (.int .i64 (cmpV k1 n1 s1.data.toList k2 n2 s2.data.toList)) ∧ Below w.heap.size w w' := by
  rcases ci_cases k1 k2 with ⟨hc, hk⟩ | ⟨hc, hk⟩ | ⟨hc, hk⟩
  · have H := Lib.hid hc
    clear hc
    go_enter Tryd.func16, Tryd.ntmps16
    go_wp2
    go_ret
    exact ⟨ret_int (cmpV_k _ _ _ _ H.out (by decide)), (below_alloc1 _ _).alloc (by simp) _⟩
  · clear hc
    subst hk
    rcases ci_cases n1 n2 with ⟨hc, hn⟩ | ⟨hc, hn⟩ | ⟨hc, hn⟩
    · have H := Lib.hid hc
      clear hc
      go_enter Tryd.func16, Tryd.ntmps16
      go_wp2
      go_ret
      exact ⟨ret_int (cmpV_n _ _ _ H.out (by decide)), (below_alloc1 _ _).alloc (by simp) _⟩
    · clear hc
      subst hn
      rcases cb_cases s1.data.toList s2.data.toList with ⟨hc, hb, hne⟩ | ⟨hc, hne, hb⟩ | ⟨hc, hb, hne⟩
      · have H := Lib.hid hc
        have hl : Op.bytesLess s1.toList s2.toList = true := by rw [ByteArray.toList_eq, ByteArray.toList_eq]; exact hb
        clear hc hb hne
        go_enter Tryd.func16, Tryd.ntmps16
        go_wp2
        go_ret
        exact ⟨ret_int (cmpV_l _ _ H.out), (below_alloc1 _ _).alloc (by simp) _⟩
      · have H := Lib.hid hc
        have hl : Op.bytesLess s1.toList s2.toList = false := by rw [ByteArray.toList_eq, ByteArray.toList_eq]; exact hb
        have he : (s1.toList == s2.toList) = true := by rw [ByteArray.toList_eq, ByteArray.toList_eq]; simpa using hne
        clear hc hb hne
        go_enter Tryd.func16, Tryd.ntmps16
        go_wp2
        go_ret
        exact ⟨ret_int (cmpV_l _ _ H.out), (below_alloc1 _ _).alloc (by simp) _⟩
      · have H := Lib.hid hc
        have hl : Op.bytesLess s1.toList s2.toList = false := by rw [ByteArray.toList_eq, ByteArray.toList_eq]; exact hb
        have he : (s1.toList == s2.toList) = false := by rw [ByteArray.toList_eq, ByteArray.toList_eq]; simpa using hne
        clear hc hb hne
        go_enter Tryd.func16, Tryd.ntmps16
        go_wp2
        go_ret
        exact ⟨ret_int (cmpV_l _ _ H.out), (below_alloc1 _ _).alloc (by simp) _⟩
    · have H := Lib.hid hc
      have hnb : (n1 == n2) = false := beq_eq_false_iff_ne.2 (by omega)
      clear hc
      go_enter Tryd.func16, Tryd.ntmps16
      go_wp2
      go_ret
      exact ⟨ret_int (cmpV_n _ _ _ H.out (by decide)), (below_alloc1 _ _).alloc (by simp) _⟩
  · have H := Lib.hid hc
    have hkb : (k1 == k2) = false := beq_eq_false_iff_ne.2 (by omega)
    clear hc
    go_enter Tryd.func16, Tryd.ntmps16
    go_wp2
    go_ret
    exact ⟨ret_int (cmpV_k _ _ _ _ H.out (by decide)), (below_alloc1 _ _).alloc (by simp) _⟩

set_option maxHeartbeats 400000 in
theorem refEq_any (k1 n1 : Int) (s1 : ByteArray) (k2 n2 : Int) (s2 : ByteArray) (w : World) :
    Calls Tryd.prog 18 #[.agg #[.int .i64 k1, .int .i64 n1, .string s1], .agg #[.int .i64 k2, .int .i64 n2, .string s2]] w fun e w' => e = .returned (.bool (cmpV k1 n1 s1.data.toList k2 n2 s2.data.toList == 0)) ∧ Below w.heap.size w w' := by
  by_cases hk : k1 = k2
  · subst hk
    by_cases hn : n1 = n2
    · subst hn
      go_enter Tryd.func18, Tryd.ntmps18
      go_wp2
      go_ret
      refine ⟨ret_bool ?_, (below_alloc1 _ _).alloc (by simp) _⟩
      rw [Bool.eq_iff_iff, beq_iff_eq, beq_iff_eq, cmpV_zero, ByteArray.toList_eq, ByteArray.toList_eq]
      simp
    · have hnb : (n1 == n2) = false := beq_eq_false_iff_ne.2 hn
      go_enter Tryd.func18, Tryd.ntmps18
      go_wp2
      go_ret
      refine ⟨ret_bool ?_, (below_alloc1 _ _).alloc (by simp) _⟩
      rw [eq_comm, beq_eq_false_iff_ne]
      intro h
      exact hn ((cmpV_zero _ _ _ _ _ _).1 h).2.1
  · have hkb : (k1 == k2) = false := beq_eq_false_iff_ne.2 hk
    go_enter Tryd.func18, Tryd.ntmps18
    go_wp2
    go_ret
    refine ⟨ret_bool ?_, (below_alloc1 _ _).alloc (by simp) _⟩
    rw [eq_comm, beq_eq_false_iff_ne]
    intro h
    exact hk ((cmpV_zero _ _ _ _ _ _).1 h).1

set_option maxHeartbeats 400000 in
theorem refTest_any (op k1 n1 : Int) (s1 : ByteArray) (k2 n2 : Int) (s2 : ByteArray) (w : World) :
    Calls Tryd.prog 20 #[.int .i64 op, .agg #[.int .i64 k1, .int .i64 n1, .string s1], .agg #[.int .i64 k2, .int .i64 n2, .string s2]] w fun e w' => e = .returned (.bool (testV op k1 n1 s1.data.toList k2 n2 s2.data.toList)) ∧ Below w.heap.size w w' := by
  by_cases h7 : op = 7
  · subst h7
    go_enter Tryd.func20, Tryd.ntmps20
    go_wp2
    go_ret
    exact ⟨ret_bool (by simp [testV]), (below_alloc1 _ _).alloc (by simp) _⟩
  have h7b : (op == 7) = false := beq_eq_false_iff_ne.2 h7
  by_cases h8 : op = 8
  · subst h8
    go_enter Tryd.func20, Tryd.ntmps20
    go_wp2
    go_ret
    exact ⟨ret_bool (by cases h : k1 == 0 <;> simp [testV, bne, h]), (below_alloc1 _ _).alloc (by simp) _⟩
  have h8b : (op == 8) = false := beq_eq_false_iff_ne.2 h8
  by_cases k0 : k1 = 0
  · subst k0
    go_enter Tryd.func20, Tryd.ntmps20
    go_wp2
    go_ret
    exact ⟨ret_bool (by simp [testV, h7, h8]), (below_alloc1 _ _).alloc (by simp) _⟩
  have kb : (k1 == 0) = false := beq_eq_false_iff_ne.2 k0
  by_cases ke : k1 = k2
  · subst ke
    by_cases h1 : op = 1
    · subst h1
      go_enter Tryd.func20, Tryd.ntmps20
      go_wp2_with (go_at_call 16; refine (refCompare_any _ _ _ _ _ _ _).mono ?_; rintro e w' ⟨rfl, hb⟩)
      go_ret
      exact ⟨ret_bool (by simp [testV, holdsV, k0]), ((below_alloc1 _ _).alloc (by simp) _).trans (hb.mono (by simp; omega))⟩
    by_cases h2 : op = 2
    · subst h2
      go_enter Tryd.func20, Tryd.ntmps20
      go_wp2_with (go_at_call 16; refine (refCompare_any _ _ _ _ _ _ _).mono ?_; rintro e w' ⟨rfl, hb⟩)
      go_ret
      exact ⟨ret_bool (by simp [testV, holdsV, k0]), ((below_alloc1 _ _).alloc (by simp) _).trans (hb.mono (by simp; omega))⟩
    by_cases h3 : op = 3
    · subst h3
      go_enter Tryd.func20, Tryd.ntmps20
      go_wp2_with (go_at_call 16; refine (refCompare_any _ _ _ _ _ _ _).mono ?_; rintro e w' ⟨rfl, hb⟩)
      go_ret
      exact ⟨ret_bool (by simp [testV, holdsV, k0]), ((below_alloc1 _ _).alloc (by simp) _).trans (hb.mono (by simp; omega))⟩
    by_cases h4 : op = 4
    · subst h4
      go_enter Tryd.func20, Tryd.ntmps20
      go_wp2_with (go_at_call 16; refine (refCompare_any _ _ _ _ _ _ _).mono ?_; rintro e w' ⟨rfl, hb⟩)
      go_ret
      exact ⟨ret_bool (by simp [testV, holdsV, k0]), ((below_alloc1 _ _).alloc (by simp) _).trans (hb.mono (by simp; omega))⟩
    by_cases h5 : op = 5
    · subst h5
      go_enter Tryd.func20, Tryd.ntmps20
      go_wp2_with (go_at_call 16; refine (refCompare_any _ _ _ _ _ _ _).mono ?_; rintro e w' ⟨rfl, hb⟩)
      go_ret
      exact ⟨ret_bool (by simp [testV, holdsV, k0]), ((below_alloc1 _ _).alloc (by simp) _).trans (hb.mono (by simp; omega))⟩
    by_cases h6 : op = 6
    · subst h6
      go_enter Tryd.func20, Tryd.ntmps20
      go_wp2_with (go_at_call 16; refine (refCompare_any _ _ _ _ _ _ _).mono ?_; rintro e w' ⟨rfl, hb⟩)
      go_ret
      exact ⟨ret_bool (by simp [testV, holdsV, k0]), ((below_alloc1 _ _).alloc (by simp) _).trans (hb.mono (by simp; omega))⟩
    · go_enter Tryd.func20, Tryd.ntmps20
      go_wp2_with (go_at_call 16; refine (refCompare_any _ _ _ _ _ _ _).mono ?_; rintro e w' ⟨rfl, hb⟩)
      go_ret
      exact ⟨ret_bool (by simp [testV, holdsV, h1, h2, h3, h4, h5, h6, h7, h8]), ((below_alloc1 _ _).alloc (by simp) _).trans (hb.mono (by simp; omega))⟩
  · have kc : (k1 == k2) = false := beq_eq_false_iff_ne.2 ke
    go_enter Tryd.func20, Tryd.ntmps20
    go_wp2
    go_ret
    exact ⟨ret_bool (by simp [testV, h7, h8, ke]), (below_alloc1 _ _).alloc (by simp) _⟩
end Go.Proofs.YtkgjfedpjbnjkaaDoor
