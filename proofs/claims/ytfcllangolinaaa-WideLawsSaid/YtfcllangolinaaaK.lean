/- Contracts: wide's Quo, the reference's Quo, same. -/
import Derived.Test.YtfcllangolinaaaD
import Derived.Test.YtfcllangolinaaaJ
namespace Go.Proofs.Ytfcllangolinaaa
open Go Go.RowKit

theorem div64_any (hi lo y q : Int) (w : World) (h0 : 0 ≤ hi) (h1 : hi < y) (h2 : y < 9223372036854775808) (h3 : 0 ≤ lo) (h4 : lo ≤ 18446744073709551615) (hq : (hi * 18446744073709551616 + lo) / y = q) :
    Calls Try.prog 32 #[.int .u64 hi, .int .u64 lo, .int .u64 y] w (QuoIs q w) := by
  subst hq
  by_cases h : hi = 0
  · subst h
    rw [Int.zero_mul, Int.zero_add]
    exact div64_low lo y w (by omega) h2 h3 h4
  · exact div64_high hi lo y w (by omega) h1 h2 h3 h4
theorem div64_below (hi lo y q : Int) (w : World) (h0 : 0 ≤ hi) (h1 : hi < y) (h2 : y < 9223372036854775808) (h3 : 0 ≤ lo) (h4 : lo ≤ 18446744073709551615) (hq : (hi * 18446744073709551616 + lo) / y = q) :
    Calls Try.prog 32 #[.int .u64 hi, .int .u64 lo, .int .u64 y] w fun e w' => (∃ r, e = .returned (.tuple #[.int .u64 q, .int .u64 r])) ∧ Below w.heap.size w w' :=
  (div64_any hi lo y q w h0 h1 h2 h3 h4 hq).mono fun _ _ ⟨r, k, he, hw⟩ => ⟨⟨r, he⟩, by rw [hw]; exact below_drewN (Below.refl _ _) k⟩
theorem wbox_on {w w' : World} {g : Nat} {u v : Value} (h0 : w.cell? ⟨g, 0, none⟩ = some u) (h1 : w.cell? ⟨g, 1, none⟩ = some v) (hb : Below w.heap.size w w') : w'.cell? ⟨g, 0, none⟩ = some u ∧ w'.cell? ⟨g, 1, none⟩ = some v := by
  have hlt := World.block_lt_of_cell? _ _ h0
  obtain ⟨hc, _⟩ := bcell hb
  exact ⟨(hc _ _ hlt).trans h0, (hc _ _ hlt).trans h1⟩
theorem size_is (z H L : Int) (hH : ab z / 18446744073709551616 = H) (hL : ab z % 18446744073709551616 = L) (w : World) :
    Calls Try.prog 31 #[.agg #[.int .i64 (hiOf z), .int .u64 (loOf z)]] w fun e w' => e = .returned (.tuple #[.int .u64 H, .int .u64 L]) ∧ Below w.heap.size w w' := by subst hH hL; exact size_any z w
theorem neg_is (x h l : Int) (hh : hiOf x = h) (hl : loOf x = l) (w : World) :
    Calls Try.prog 15 #[.agg #[.int .i64 h, .int .u64 l]] w fun e w' => e = .returned (.agg #[.int .i64 (hiOf (-x)), .int .u64 (loOf (-x))]) ∧ Below w.heap.size w w' := by subst hh hl; exact neg_any x w
theorem num_is (z h l : Int) (hh : hiOf z = h) (hl : loOf z = l) (w : World) :
    Calls Try.prog 24 #[.agg #[.int .i64 h, .int .u64 l]] w fun e w' => e = .returned (.tuple #[.int .i64 (numV z), .bool (numB z)]) ∧ Below w.heap.size w w' := by subst hh hl; exact num_any z w
theorem small_hi (q : Int) (h0 : 0 ≤ q) (h1 : q < 18446744073709551616) : hiOf q = 0 ∧ loOf q = q := by unfold hiOf loOf; omega
/-- The quotient is too great. -/
theorem quo_great (z n : Int) (h0 : 1 ≤ n) (h : n ≤ ab z / 18446744073709551616) : quoV z n = 0 ∧ quoB z n = false := by
  have hb := ab_bd z
  have h1 : 18446744073709551616 ≤ ab z / n := by
    refine Int.le_ediv_of_mul_le (by omega) ?_
    rw [Int.mul_comm]
    omega
  have h2 : ab z / n ≤ ab z := Int.ediv_le_self _ hb.1
  have hn : ¬ n < 1 := by omega
  unfold quoV quoB quoZ numV numB
  rw [if_neg hn, if_neg hn]
  generalize ab z / n = q at *
  split
  · have : ¬ (-9223372036854775808 ≤ sm (-q) ∧ sm (-q) ≤ 9223372036854775807) := by unfold sm; omega
    exact ⟨if_neg this, by simpa using this⟩
  · have : ¬ (-9223372036854775808 ≤ sm q ∧ sm q ≤ 9223372036854775807) := by unfold sm; omega
    exact ⟨if_neg this, by simpa using this⟩
theorem quo_low (z n : Int) (_h0 : 1 ≤ n) (h : ab z / 18446744073709551616 < n) : ab z / n < 18446744073709551616 := by
  refine Int.ediv_lt_of_lt_mul (by omega) ?_
  rw [Int.mul_comm]
  omega
theorem halves (a : Int) : a / 18446744073709551616 * 18446744073709551616 + a % 18446744073709551616 = a := by omega

theorem wbox_new' (w : World) (h l : Int) {w' : World} (hb : Below (w.alloc (.cells #[.int .i64 h, .int .u64 l] 27)).heap.size (w.alloc (.cells #[.int .i64 h, .int .u64 l] 27)) w') :
    w'.cell? ⟨w.heap.size, 0, none⟩ = some (.int .i64 h) ∧ w'.cell? ⟨w.heap.size, 1, none⟩ = some (.int .u64 l) := by
  obtain ⟨hc, _⟩ := bcell hb
  rw [hc _ _ (by simp), hc _ _ (by simp), World.cell?_alloc_mark, World.cell?_alloc_mark]
  exact ⟨rfl, rfl⟩
theorem wbox_free (w : World) (h l : Int) {w' : World} (hb : Below (w.alloc (.cells #[.int .i64 h, .int .u64 l] 27)).heap.size (w.alloc (.cells #[.int .i64 h, .int .u64 l] 27)) w') :
    w'.frozen? ⟨w.heap.size, 0, none⟩ = false ∧ w'.frozen? ⟨w.heap.size, 1, none⟩ = false := by
  obtain ⟨_, hf⟩ := bcell hb
  rw [hf _ _ (by simp), hf _ _ (by simp)]
  unfold World.frozen?
  rw [heap_alloc_new]
  exact ⟨rfl, rfl⟩
theorem wbox_new (w : World) (z : Int) {w' : World} (hb : Below (w.alloc (.cells #[.int .i64 (hiOf z), .int .u64 (loOf z)] 27)).heap.size (w.alloc (.cells #[.int .i64 (hiOf z), .int .u64 (loOf z)] 27)) w') :
    w'.cell? ⟨w.heap.size, 0, none⟩ = some (.int .i64 (hiOf z)) ∧ w'.cell? ⟨w.heap.size, 1, none⟩ = some (.int .u64 (loOf z)) := wbox_new' w _ _ hb

set_option maxHeartbeats 1000000 in
theorem quo_none (z n : Int) (w : World) (hn : n < 1) :
    Calls Try.prog 20 #[.agg #[.int .i64 (hiOf z), .int .u64 (loOf z)], .int .i64 n] w fun e w' => e = .returned (.tuple #[.int .i64 (quoV z n), .bool (quoB z n)]) ∧ Below w.heap.size w w' := by
  have e1 : quoV z n = 0 := by unfold quoV; rw [if_pos hn]
  have e2 : quoB z n = false := by unfold quoB; rw [if_pos hn]
  rw [e1, e2]
  clear e1 e2
  go_enter Try.func20, Try.ntmps20
  go_wp2
  go_ret2
  exact ⟨rfl, below_alloc1 _ _⟩

set_option maxHeartbeats 1000000 in
theorem quo_some (z n : Int) (w : World) (hn : 1 ≤ n) (h1 : n ≤ 9223372036854775807) :
    Calls Try.prog 20 #[.agg #[.int .i64 (hiOf z), .int .u64 (loOf z)], .int .i64 n] w fun e w' => e = .returned (.tuple #[.int .i64 (quoV z n), .bool (quoB z n)]) ∧ Below w.heap.size w w' := by
  have HB0 := Lib.hid (below_alloc1 w (.cells #[.int .i64 (hiOf z), .int .u64 (loOf z)] 27))
  have hb := ab_bd z
  obtain ⟨H, hH⟩ : ∃ H, ab z / 18446744073709551616 = H := ⟨_, rfl⟩
  obtain ⟨L, hL⟩ : ∃ L, ab z % 18446744073709551616 = L := ⟨_, rfl⟩
  have H0 : 0 ≤ H := by omega
  have H1 : H ≤ 9223372036854775808 := by omega
  have L0 : 0 ≤ L := by omega
  have L1 : L ≤ 18446744073709551615 := by omega
  have HH := Lib.hid hH
  have HL := Lib.hid hL
  clear hb
  by_cases hg : n ≤ H
  · obtain ⟨e1, e2⟩ := quo_great z n hn (by rw [hH]; exact hg)
    have E1 := Lib.hid e1
    have E2 := Lib.hid e2
    clear hH hL e1 e2
    go_enter Try.func20, Try.ntmps20
    go_wp2_with fail
    refine (size_is z H L HH.out HL.out _).mono ?_
    rintro e w1 ⟨rfl, hb1⟩
    have HB1 := Lib.hid (HB0.out.trans (hb1.mono HB0.out.size))
    clear hb1
    go_wp2
    go_ret2
    exact ⟨ret_numb E1.out.symm E2.out.symm, HB1.out⟩
  · have hg' : H < n := by omega
    have hql := quo_low z n hn (by rw [hH]; exact hg')
    have hq0 : 0 ≤ ab z / n := Int.ediv_nonneg (ab_bd z).1 (by omega)
    obtain ⟨s1, s2⟩ := small_hi _ hq0 hql
    have hdq : (H * 18446744073709551616 + L) / n = ab z / n := by rw [← hH, ← hL, halves]
    have S1 := Lib.hid s1
    have S2 := Lib.hid s2
    have DQ := Lib.hid hdq
    clear hH hL s1 s2 hdq
    cases hm : decide (sm z < 0)
    · have E := Lib.hid (quo_posV z n hn hm)
      have hm' : 0 ≤ hiOf z := by
        have := sm_neg_hi z
        have h2 : ¬ sm z < 0 := by simpa using hm
        omega
      clear hm
      generalize ab z / n = q at *
      go_enter Try.func20, Try.ntmps20
      go_wp2_with fail
      refine (size_is z H L HH.out HL.out _).mono ?_
      rintro e w1 ⟨rfl, hb1⟩
      obtain ⟨c0, c1⟩ := wbox_new w z hb1
      have HB1 := Lib.hid (HB0.out.trans (hb1.mono HB0.out.size))
      clear hb1
      go_wp2_with fail
      refine (div64_below H L n q _ H0 hg' (by omega) L0 L1 DQ.out).mono ?_
      rintro e w2 ⟨⟨r, rfl⟩, hb2⟩
      have HC := Lib.hid (wbox_on c0 c1 hb2)
      clear c0 c1
      obtain ⟨c0, c1⟩ := HC.out
      have hz2 : w.heap.size < w2.heap.size := World.block_lt_of_cell? _ _ c0
      have HB2' := Lib.hid (HB1.out.trans (hb2.mono HB1.out.size))
      clear hb2
      go_wp2_with fail
      refine (num_is q 0 q S1.out S2.out _).mono ?_
      rintro e w3 ⟨rfl, hb3⟩
      have HB2 := Lib.hid (HB2'.out.alloc HB2'.out.size (.cells #[.int .i64 0, .int .u64 q] 27))
      have HB3 := Lib.hid (HB2.out.trans (hb3.mono HB2.out.size))
      clear hb3
      go_wp2
      go_ret2
      exact ⟨ret_numb E.out.1 E.out.2, HB3.out⟩
    · have E := Lib.hid (quo_negV z n hn hm)
      have hm' : hiOf z < 0 := by
        have := sm_neg_hi z
        have h2 : sm z < 0 := by simpa using hm
        omega
      clear hm
      generalize ab z / n = q at *
      go_enter Try.func20, Try.ntmps20
      go_wp2_with fail
      refine (size_is z H L HH.out HL.out _).mono ?_
      rintro e w1 ⟨rfl, hb1⟩
      obtain ⟨c0, c1⟩ := wbox_new w z hb1
      have HB1 := Lib.hid (HB0.out.trans (hb1.mono HB0.out.size))
      clear hb1
      go_wp2_with fail
      refine (div64_below H L n q _ H0 hg' (by omega) L0 L1 DQ.out).mono ?_
      rintro e w2 ⟨⟨r, rfl⟩, hb2⟩
      have HC := Lib.hid (wbox_on c0 c1 hb2)
      clear c0 c1
      obtain ⟨c0, c1⟩ := HC.out
      have hz2 : w.heap.size < w2.heap.size := World.block_lt_of_cell? _ _ c0
      have HB2' := Lib.hid (HB1.out.trans (hb2.mono HB1.out.size))
      clear hb2
      go_wp2_with fail
      refine (neg_is q 0 q S1.out S2.out _).mono ?_
      rintro e w3 ⟨rfl, hb3⟩
      have HB2 := Lib.hid (HB2'.out.alloc HB2'.out.size (.cells #[.int .i64 0, .int .u64 q] 27))
      have HB3 := Lib.hid (HB2.out.trans (hb3.mono HB2.out.size))
      obtain ⟨d0, d1⟩ := wbox_new' w2 0 q hb3
      obtain ⟨f0, f1⟩ := wbox_free w2 0 q hb3
      clear hb3
      go_wp2_with fail
      refine (num_any (-q) _).mono ?_
      rintro e w4 ⟨rfl, hb4⟩
      have HB4 := Lib.hid ((((HB3.out.setCell (p := ⟨w2.heap.size, 0, none⟩) HB2'.out.size (.int .i64 (hiOf (-q)))).setCell (p := ⟨w2.heap.size, 1, none⟩) HB2'.out.size (.int .u64 (loOf (-q))))).trans (hb4.mono (by simp; exact HB3.out.size)))
      clear hb4
      go_wp2
      go_ret2
      exact ⟨ret_numb E.out.1 E.out.2, HB4.out⟩

theorem quo_any (z n : Int) (w : World) (h1 : n ≤ 9223372036854775807) :
    Calls Try.prog 20 #[.agg #[.int .i64 (hiOf z), .int .u64 (loOf z)], .int .i64 n] w fun e w' => e = .returned (.tuple #[.int .i64 (quoV z n), .bool (quoB z n)]) ∧ Below w.heap.size w w' := by
  rcases Int.lt_or_le n 1 with h | h
  · exact quo_none z n w h
  · exact quo_some z n w h h1

set_option maxHeartbeats 1000000 in
theorem refQuo_none (z n : Int) (w : World) (hn : n < 1) :
    Calls Try.prog 21 #[.agg (bigC z), .int .i64 n] w fun e w' => e = .returned (.tuple #[.int .i64 (quoV z n), .bool (quoB z n)]) ∧ Below w.heap.size w w' := by
  have e1 : quoV z n = 0 := by unfold quoV; rw [if_pos hn]
  have e2 : quoB z n = false := by unfold quoB; rw [if_pos hn]
  rw [e1, e2]
  clear e1 e2
  go_enter Try.func21, Try.ntmps21
  go_wp2
  go_ret2
  exact ⟨rfl, below_alloc1 _ _⟩
theorem refQuo_any (z n : Int) (w : World) (h1 : n ≤ 9223372036854775807) :
    Calls Try.prog 21 #[.agg (bigC z), .int .i64 n] w fun e w' => e = .returned (.tuple #[.int .i64 (quoV z n), .bool (quoB z n)]) ∧ Below w.heap.size w w' := by
  rcases Int.lt_or_le n 1 with h | h
  · exact refQuo_none z n w h
  · cases hm : decide (sm z < 0)
    · exact refQuo_pos z n w h h1 hm
    · exact refQuo_neg z n w h h1 hm

theorem refParts_ex (z : Int) (w : World) :
    Calls Try.prog 29 #[.agg #[.int .u32 (dg (z) 0), .int .u32 (dg (z) 1), .int .u32 (dg (z) 2), .int .u32 (dg (z) 3), .int .u32 (dg (z) 4), .int .u32 (dg (z) 5), .int .u32 (dg (z) 6), .int .u32 (dg (z) 7)]] w fun e w' => e = .returned (.tuple #[.int .i64 (hiOf z), .int .u64 (loOf z)]) ∧ Below w.heap.size w w' := refParts_any z w

set_option maxHeartbeats 2000000 in
theorem same_any (z : Int) (w : World) :
    Calls Try.prog 19 #[.agg #[.int .i64 (hiOf z), .int .u64 (loOf z)], .agg (bigC z)] w fun e w' => e = .returned (.bool true) ∧ Below w.heap.size w w' := by
  have b0 := bbox_new (w.alloc (.cells #[.int .i64 (hiOf z), .int .u64 (loOf z)] 27)) z
  simp only [World.size_alloc] at b0
  have B0 := Lib.hid b0
  have HB0 := Lib.hid (below_alloc2 w (.cells #[.int .i64 (hiOf z), .int .u64 (loOf z)] 27) (.cells (bigC z) 30))
  clear b0
  go_enter Try.func19, Try.ntmps19
  go_wp2_with fail
  refine (parts_any z _).mono ?_
  rintro e w1 ⟨rfl, hb1⟩
  have B1 := Lib.hid (bbox_on B0.out hb1)
  have C1 := Lib.hid (wbox_on (w := (w.alloc (.cells #[.int .i64 (hiOf z), .int .u64 (loOf z)] 27)).alloc (.cells (bigC z) 30)) (g := w.heap.size) (u := .int .i64 (hiOf z)) (v := .int .u64 (loOf z)) (by go_simp) (by go_simp) hb1)
  have HB1 := Lib.hid (HB0.out.trans (hb1.mono HB0.out.size))
  clear hb1 B0 HB0
  obtain ⟨o0, o1, o2, o3, o4, o5, o6, o7⟩ := bbox_cells B1.out
  go_wp2_with fail
  refine (refParts_ex z _).mono ?_
  rintro e w2 ⟨rfl, hb2⟩
  have B2 := Lib.hid (bbox_on B1.out hb2)
  have C2 := Lib.hid (wbox_on C1.out.1 C1.out.2 hb2)
  have HB2 := Lib.hid (HB1.out.trans (hb2.mono HB1.out.size))
  clear hb2 B1 C1 HB1 o0 o1 o2 o3 o4 o5 o6 o7
  obtain ⟨c0, c1⟩ := C2.out
  go_wp2_with fail
  refine (num_any z _).mono ?_
  rintro e w3 ⟨rfl, hb3⟩
  have B3 := Lib.hid (bbox_on B2.out hb3)
  have HB3 := Lib.hid (HB2.out.trans (hb3.mono HB2.out.size))
  clear hb3 B2 C2 HB2 c0 c1
  obtain ⟨o0, o1, o2, o3, o4, o5, o6, o7⟩ := bbox_cells B3.out
  go_wp2_with fail
  refine (refNum_ex z _).mono ?_
  rintro e w4 ⟨rfl, hb4⟩
  have HB4 := Lib.hid (HB3.out.trans (hb4.mono HB3.out.size))
  clear hb4 B3 HB3 o0 o1 o2 o3 o4 o5 o6 o7
  have e1 : (hiOf z == hiOf z) = true := beq_self_eq_true _
  have e2 : (loOf z == loOf z) = true := beq_self_eq_true _
  have e3 : (numV z == numV z) = true := beq_self_eq_true _
  have e4 : (numB z == numB z) = true := beq_self_eq_true _
  go_wp2
  go_ret
  exact ⟨rfl, HB4.out⟩
end Go.Proofs.Ytfcllangolinaaa
