/- Contracts of the reference's Big: Of, Neg, Minus. -/
import Derived.Test.YtfcllangolinaaaE
namespace Go.Proofs.Ytfcllangolinaaa
open Go Go.RowKit

theorem and16_u64 (a : Int) (h0 : 0 ≤ a) (h1 : a < 18446744073709551616) : bits .and .u64 a 65535 = a % 65536 := by
  rw [u64_and a 65535 h0 h1 (by decide) (by decide)]
  rw [show (65535 : Int).toNat = 2 ^ 16 - 1 from rfl, Nat.and_two_pow_sub_one_eq_mod]
  omega
theorem pow16 (k : Nat) : (2 : Int) ^ (16 * k) = 65536 ^ k := by rw [Int.pow_mul]; rfl
theorem div_pow_bd (a : Int) (k : Nat) (h0 : 0 ≤ a) : 0 ≤ a / 65536 ^ k ∧ a / 65536 ^ k ≤ a :=
  ⟨Int.ediv_nonneg h0 (Int.le_of_lt (pw_pos k)), Int.ediv_le_self _ h0⟩
theorem of_part (n : Int) (k : Nat) (h : k < 4) : bits .and .u64 (IntKind.u64.wrap n / 2 ^ (16 * k)) 65535 % 4294967296 = dg n k := by
  have h0 : 0 ≤ IntKind.u64.wrap n ∧ IntKind.u64.wrap n < 18446744073709551616 := by rw [IntKind.wrap_u64]; omega
  rw [pow16]
  have hd := div_pow_bd (IntKind.u64.wrap n) k h0.1
  rw [and16_u64 _ hd.1 (by omega), dg_of_lo n k h]; omega
theorem refAdd_ex (x y : Int) (w : World) :
    Calls Try.prog 13 #[.agg #[.int .u32 (dg (x) 0), .int .u32 (dg (x) 1), .int .u32 (dg (x) 2), .int .u32 (dg (x) 3), .int .u32 (dg (x) 4), .int .u32 (dg (x) 5), .int .u32 (dg (x) 6), .int .u32 (dg (x) 7)], .agg #[.int .u32 (dg (y) 0), .int .u32 (dg (y) 1), .int .u32 (dg (y) 2), .int .u32 (dg (y) 3), .int .u32 (dg (y) 4), .int .u32 (dg (y) 5), .int .u32 (dg (y) 6), .int .u32 (dg (y) 7)]] w fun e w' => e = .returned (.agg #[.int .u32 (dg (x + y) 0), .int .u32 (dg (x + y) 1), .int .u32 (dg (x + y) 2), .int .u32 (dg (x + y) 3), .int .u32 (dg (x + y) 4), .int .u32 (dg (x + y) 5), .int .u32 (dg (x + y) 6), .int .u32 (dg (x + y) 7)]) ∧ Below w.heap.size w w' := refAdd_any x y w
theorem refAdd_to (x y z : Int) (h : x + y = z) (w : World) :
    Calls Try.prog 13 #[.agg #[.int .u32 (dg (x) 0), .int .u32 (dg (x) 1), .int .u32 (dg (x) 2), .int .u32 (dg (x) 3), .int .u32 (dg (x) 4), .int .u32 (dg (x) 5), .int .u32 (dg (x) 6), .int .u32 (dg (x) 7)], .agg #[.int .u32 (dg (y) 0), .int .u32 (dg (y) 1), .int .u32 (dg (y) 2), .int .u32 (dg (y) 3), .int .u32 (dg (y) 4), .int .u32 (dg (y) 5), .int .u32 (dg (y) 6), .int .u32 (dg (y) 7)]] w fun e w' => e = .returned (.agg #[.int .u32 (dg (z) 0), .int .u32 (dg (z) 1), .int .u32 (dg (z) 2), .int .u32 (dg (z) 3), .int .u32 (dg (z) 4), .int .u32 (dg (z) 5), .int .u32 (dg (z) 6), .int .u32 (dg (z) 7)]) ∧ Below w.heap.size w w' := by subst h; exact refAdd_any x y w
theorem row8_skip {w : World} {g k : Nat} {z : Int} (h : Row8 w g z k) (hv : dg z k = 0) : Row8 w g z (k + 1) := by
  refine World.rowIs.congr h ?_
  intro i hi
  by_cases e : i = k
  · subst e; simp [hv]
  · have e1 : (i < k + 1) = (i < k) := by apply propext; omega
    simp only [e1]
set_option maxHeartbeats 400000 in
theorem refOf_any (n : Int) (w : World) (h0 : -9223372036854775808 ≤ n) (h1 : n ≤ 9223372036854775807) :
    Calls Try.prog 14 #[.int .i64 n] w fun e w' => e = .returned (.agg (bigC n)) ∧ Below w.heap.size w w' := by
  have b0 := row8_new w 0
  have b1 := row8_new (w.alloc (.cells #[.int .u32 0, .int .u32 0, .int .u32 0, .int .u32 0, .int .u32 0, .int .u32 0, .int .u32 0, .int .u32 0] 30)) n
  simp only [World.size_alloc] at b1
  have B0 := Lib.hid (b0.alloc (.cells #[.int .u32 0, .int .u32 0, .int .u32 0, .int .u32 0, .int .u32 0, .int .u32 0, .int .u32 0, .int .u32 0] 30))
  have B1 := Lib.hid b1
  have HB := Lib.hid (below_alloc2 w (.cells #[.int .u32 0, .int .u32 0, .int .u32 0, .int .u32 0, .int .u32 0, .int .u32 0, .int .u32 0, .int .u32 0] 30) (.cells #[.int .u32 0, .int .u32 0, .int .u32 0, .int .u32 0, .int .u32 0, .int .u32 0, .int .u32 0, .int .u32 0] 30))
  clear b0 b1
  go_enter Try.func14, Try.ntmps14
  go_wp2
  go_loopw [5] (fun i wr => ∃ k : Nat, k ≤ 8 ∧ i = .int .i64 k ∧ Hid (Row8 wr w.heap.size 0 0) ∧ Hid (Row8 wr (w.heap.size + 1) n k) ∧ Hid (Below w.heap.size w wr)) (fun i _ => 8 - (intOf i).toNat)
  case atStart => exact ⟨0, by omega, rfl, B0, B1, HB⟩
  case round =>
    obtain ⟨k, hk, rfl, R, O, HW⟩ := hrel
    clear B0 B1 HB
    by_cases hlt : k < 8
    · have c2 := O.out.cell hlt
      rw [if_neg (by omega)] at c2
      have f2 := O.out.frozen k
      have hk0 : (0 : Int) ≤ (k : Int) := by omega
      have hk1 : (k : Int) < 8 := by omega
      by_cases h4 : k < 4
      · go_wp2
        refine ⟨⟨k + 1, by omega, by go_num, Lib.hid (row8_far (n := 0) R.out (by simp) ), Lib.hid (row8_step (n := 0) O.out ?_), Lib.hid (HW.out.setCell (by simp) _)⟩, by simp [intOf]; omega⟩
        exact of_part n k h4
      · by_cases hn : n < 0
        · go_wp2
          refine ⟨⟨k + 1, by omega, by go_num, Lib.hid (row8_far (n := 0) R.out (by simp)), Lib.hid (row8_step (n := 0) O.out ?_), Lib.hid (HW.out.setCell (by simp) _)⟩, by simp [intOf]; omega⟩
          rw [dg_of_hi n h0 h1 k (by omega) hlt, if_pos hn]
        · go_wp2
          refine ⟨⟨k + 1, by omega, by go_num, R, Lib.hid (row8_skip O.out ?_), HW⟩, by simp [intOf]; omega⟩
          rw [dg_of_hi n h0 h1 k (by omega) hlt, if_neg hn]
    · obtain rfl : k = 8 := by omega
      obtain ⟨o0, o1, o2, o3, o4, o5, o6, o7⟩ := bbox_cells (row8_done O.out)
      obtain ⟨r0, r1, r2, r3, r4, r5, r6, r7⟩ := row8_cells R.out
      obtain ⟨f0, f1, f2, f3, f4, f5, f6, f7⟩ := row8_free R.out
      go_wp2
      refine bodyPost_ret (v := .agg (bigC n)) (by simp [results, Try.results14, go_sem, r0, r1, r2, r3, r4, r5, r6, r7]) rfl ⟨rfl, ?_⟩
      exact below_set8 HW.out (by omega) _ _ _ _ _ _ _ _

theorem xor_ones (a : Nat) (h : a < 4294967296) : 4294967295 ^^^ a = 4294967295 - a := by
  have h1 := BitVec.toNat_not (x := BitVec.ofNat 32 a)
  rw [BitVec.not_def, BitVec.toNat_xor, BitVec.toNat_allOnes, BitVec.toNat_ofNat, Nat.mod_eq_of_lt h] at h1
  exact h1
theorem not_u32 (a : Int) (h0 : 0 ≤ a) (h1 : a < 4294967296) : bits .xor .u32 4294967295 a = 4294967295 - a := by
  rw [u32_xor _ _ (by decide) (by decide) h0 h1, show (4294967295 : Int).toNat = 4294967295 from rfl, xor_ones _ (by omega)]
  omega
theorem minus_is (z : Int) : (dg z 7 / 32768 == 1) = decide (sm z < 0) := by
  rw [Bool.eq_iff_iff]; simp only [beq_iff_eq, decide_eq_true_eq]; unfold dg sm; simp only [Int.reducePow]; omega
theorem ret_bool {a b : Bool} (h : a = b) : Ending.returned (.bool a) = .returned (.bool b) := by rw [h]
set_option maxHeartbeats 400000 in
theorem refMinus_any (z : Int) (w : World) :
    Calls Try.prog 33 #[.agg (bigC z)] w fun e w' => e = .returned (.bool (decide (sm z < 0))) ∧ Below w.heap.size w w' := by
  have hd := dg_bd z 7
  obtain ⟨h0, h1⟩ := hd
  go_enter Try.func33, Try.ntmps33
  go_wp2
  go_ret
  exact ⟨ret_bool (minus_is z), below_alloc1 _ _⟩

theorem bbox_on {w w' : World} {g : Nat} {z : Int} (h : BBox w g z) (hb : Below w.heap.size w w') : BBox w' g z := World.rowIs.of_block h (hb.block g (World.rowIs.lt h))
theorem row8_on {w w' : World} {g k : Nat} {z : Int} (h : Row8 w g z k) (hb : Below w.heap.size w w') : Row8 w' g z k := World.rowIs.of_block h (hb.block g (World.rowIs.lt h))
theorem below_undrew {w w' : World} (hb : Below w.drew.heap.size w.drew w') : Below w.heap.size w w' := (Below.refl _ w).drew.trans hb

theorem refOf_ex (n : Int) (w : World) (h0 : -9223372036854775808 ≤ n) (h1 : n ≤ 9223372036854775807) :
    Calls Try.prog 14 #[.int .i64 n] w fun e w' => e = .returned (.agg #[.int .u32 (dg (n) 0), .int .u32 (dg (n) 1), .int .u32 (dg (n) 2), .int .u32 (dg (n) 3), .int .u32 (dg (n) 4), .int .u32 (dg (n) 5), .int .u32 (dg (n) 6), .int .u32 (dg (n) 7)]) ∧ Below w.heap.size w w' := refOf_any n w h0 h1

/-- Block g is a number's eight cells, to the place k turned. -/
def RowN (w : World) (g : Nat) (z : Int) (k : Nat) : Prop := w.rowIs g 30 8 (fun j => if j < k then .int .u32 (dg (-1 - z) j) else .int .u32 (dg z j))
theorem rown_new {w : World} {g : Nat} {z : Int} (h : BBox w g z) : RowN w g z 0 := World.rowIs.congr h (fun i hi => by simp)
theorem rown_done {w : World} {g : Nat} {z : Int} (h : RowN w g z 8) : BBox w g (-1 - z) := World.rowIs.congr h (fun i hi => by rw [if_pos hi])
theorem rown_step {w : World} {g k : Nat} {z v : Int} (h : RowN w g z k) (hv : v = dg (-1 - z) k) : RowN (w.setCell ⟨g, k, none⟩ (.int .u32 v)) g z (k + 1) := by
  subst hv
  refine (World.rowIs.set h k (.int .u32 (dg (-1 - z) k))).congr ?_
  intro i hi
  by_cases e : i = k
  · subst e; simp
  · have e1 : (i < k + 1) = (i < k) := by apply propext; omega
    simp only [e, if_false, e1]
theorem not_part (x : Int) (k : Nat) : bits .and .u32 (bits .xor .u32 4294967295 (dg x k)) 65535 = dg (-1 - x) k := by
  have hd := dg_bd x k
  rw [not_u32 _ hd.1 (by omega), and16_u32 _ (by omega) (by omega), dg_not]; omega
set_option maxHeartbeats 400000 in
theorem refNeg_any (x : Int) (w : World) :
    Calls Try.prog 16 #[.agg (bigC x)] w fun e w' => e = .returned (.agg (bigC (-x))) ∧ Below w.heap.size w w' := by
  have b0 := bbox_new w x
  have b1 := row8_new (w.alloc (.cells (bigC x) 30)) 0
  simp only [World.size_alloc] at b1
  have B0 := Lib.hid (rown_new (World.rowIs.alloc b0 (.cells #[.int .u32 0, .int .u32 0, .int .u32 0, .int .u32 0, .int .u32 0, .int .u32 0, .int .u32 0, .int .u32 0] 30)))
  have B1 := Lib.hid b1
  have HB := Lib.hid (below_alloc2 w (.cells (bigC x) 30) (.cells #[.int .u32 0, .int .u32 0, .int .u32 0, .int .u32 0, .int .u32 0, .int .u32 0, .int .u32 0, .int .u32 0] 30))
  clear b0 b1
  go_enter Try.func16, Try.ntmps16
  go_wp2
  go_loopw [3] (fun i wr => ∃ k : Nat, k ≤ 8 ∧ i = .int .i64 k ∧ Hid (RowN wr w.heap.size x k) ∧ Hid (Row8 wr (w.heap.size + 1) 0 0) ∧ Hid (Below w.heap.size w wr)) (fun i _ => 8 - (intOf i).toNat)
  case atStart => exact ⟨0, by omega, rfl, B0, B1, HB⟩
  case round =>
    obtain ⟨k, hk, rfl, X, R, HW⟩ := hrel
    clear B0 B1 HB
    by_cases hlt : k < 8
    · have c2 := X.out.cell hlt
      rw [if_neg (by omega)] at c2
      have f2 := X.out.frozen k
      have hk0 : (0 : Int) ≤ (k : Int) := by omega
      have hk1 : (k : Int) < 8 := by omega
      go_wp2
      refine ⟨⟨k + 1, by omega, by go_num, Lib.hid (rown_step X.out (not_part x k)), Lib.hid (row8_far (n := 0) R.out (by simp)), Lib.hid (HW.out.setCell (by simp) _)⟩, by simp [intOf]; omega⟩
    · obtain rfl : k = 8 := by omega
      have o := bbox_cells (rown_done X.out)
      obtain ⟨o0, o1, o2, o3, o4, o5, o6, o7⟩ := o
      obtain ⟨r0, r1, r2, r3, r4, r5, r6, r7⟩ := row8_cells R.out
      obtain ⟨f0, f1, f2, f3, f4, f5, f6, f7⟩ := row8_free R.out
      have hz : w.heap.size + 1 < wr.heap.size := World.rowIs.lt R.out
      go_wp2_with fail
      have XX := Lib.hid (rown_done X.out)
      clear r0 r1 r2 r3 r4 r5 r6 r7 f0 f1 f2 f3 f4 f5 f6 f7
      go_region_with (first
          | (go_at_call 14; refine (refOf_ex _ _ (by decide) (by decide)).mono ?_; rintro e w' ⟨rfl, hb⟩; have HB := Lib.hid (below_undrew hb); clear hb; obtain ⟨p0, p1, p2, p3, p4, p5, p6, p7⟩ := bbox_cells (bbox_on XX.out HB.out))
          | (go_at_call 13; refine (refAdd_to (-1 - x) 1 (-x) (by omega) _).mono ?_; rintro e w'' ⟨rfl, hb'⟩; have HB' := Lib.hid hb'; clear hb'; obtain ⟨q0, q1, q2, q3, q4, q5, q6, q7⟩ := row8_cells (row8_on (row8_on R.out HB.out) HB'.out); obtain ⟨f0, f1, f2, f3, f4, f5, f6, f7⟩ := row8_free (row8_on (row8_on R.out HB.out) HB'.out)))
      all_goals
        go_wp2
        refine bodyPost_ret (v := .agg (bigC (-x))) (by simp [results, Try.results16, go_sem, q0, q1, q2, q3, q4, q5, q6, q7]) rfl ⟨rfl, ?_⟩
        have H1 := HW.out.trans (HB.out.mono HW.out.size)
        exact below_set8 (H1.trans (HB'.out.mono H1.size)) (by omega) _ _ _ _ _ _ _ _
end Go.Proofs.Ytfcllangolinaaa
