/- Contracts of the reference's Big: Parts, Num, Less. -/
import Derived.Test.YtfcllangolinaaaF
namespace Go.Proofs.Ytfcllangolinaaa
open Go Go.RowKit

def upOf (z : Int) : Int := z / 18446744073709551616 % 18446744073709551616
theorem up_wrap (z : Int) : wrap64 (upOf z) = hiOf z := by unfold upOf wrap64 hiOf; omega
theorem up_bd (z : Int) : 0 ≤ upOf z ∧ upOf z ≤ 18446744073709551615 := by unfold upOf; omega

theorem or16 (A d : Int) (hA : 0 ≤ A) (hA1 : A < 281474976710656) (hd : 0 ≤ d) (hd1 : d ≤ 65535) : bits .or .u64 (IntKind.u64.wrap (A * 65536)) d = A * 65536 + d := by
  rw [IntKind.wrap_u64, Int.emod_eq_of_lt (by omega) (by omega), u64_or _ _ (by omega) (by omega) hd (by omega)]
  obtain ⟨a, rfl⟩ := Int.eq_ofNat_of_zero_le hA
  obtain ⟨b, rfl⟩ := Int.eq_ofNat_of_zero_le hd
  rw [show ((a : Int) * 65536).toNat = 2 ^ 16 * a from by omega, show ((b : Int)).toNat = b from rfl, ← Nat.two_pow_add_eq_or_of_lt (by omega)]
  omega
theorem up_step (z : Int) (m : Nat) (h : m < 4) : bits .or .u64 (IntKind.u64.wrap (upOf z / 65536 ^ (m + 1) * 65536)) (dg z (m + 4)) = upOf z / 65536 ^ m := by
  have hd := dg_bd z (m + 4)
  have hu := up_bd z
  have h1 : 0 ≤ upOf z / 65536 ^ (m + 1) ∧ upOf z / 65536 ^ (m + 1) < 281474976710656 := by
    rcases (by omega : m = 0 ∨ m = 1 ∨ m = 2 ∨ m = 3) with rfl | rfl | rfl | rfl <;> simp only [Nat.reduceAdd, Int.reducePow] <;> omega
  rw [or16 _ _ h1.1 h1.2 hd.1 hd.2]
  unfold upOf dg
  rcases (by omega : m = 0 ∨ m = 1 ∨ m = 2 ∨ m = 3) with rfl | rfl | rfl | rfl <;> simp only [Nat.reduceAdd, Int.reducePow] <;> omega
theorem low_step (z : Int) (m : Nat) (h : m < 4) : bits .or .u64 (IntKind.u64.wrap (loOf z / 65536 ^ (m + 1) * 65536)) (dg z m) = loOf z / 65536 ^ m := by
  have hd := dg_bd z m
  have hu := lo_bd z
  have h1 : 0 ≤ loOf z / 65536 ^ (m + 1) ∧ loOf z / 65536 ^ (m + 1) < 281474976710656 := by
    rcases (by omega : m = 0 ∨ m = 1 ∨ m = 2 ∨ m = 3) with rfl | rfl | rfl | rfl <;> simp only [Nat.reduceAdd, Int.reducePow] <;> omega
  rw [or16 _ _ h1.1 h1.2 hd.1 hd.2]
  unfold loOf dg
  rcases (by omega : m = 0 ∨ m = 1 ∨ m = 2 ∨ m = 3) with rfl | rfl | rfl | rfl <;> simp only [Nat.reduceAdd, Int.reducePow] <;> omega
theorem up_top (z : Int) : (0 : Int) = upOf z / 65536 ^ ((3 : Int) + 1).toNat := by
  have hu := up_bd z
  rw [show ((3 : Int) + 1).toNat = 4 from rfl]; simp only [Int.reducePow]; omega
theorem low_top (z : Int) : (0 : Int) = loOf z / 65536 ^ ((3 : Int) + 1).toNat := by
  have hu := lo_bd z
  rw [show ((3 : Int) + 1).toNat = 4 from rfl]; simp only [Int.reducePow]; omega
theorem int_eq {k : IntKind} {a b : Int} (h : a = b) : Value.int k a = Value.int k b := by rw [h]

set_option maxHeartbeats 1000000 in
theorem refParts_any (z : Int) (w : World) :
    Calls Try.prog 29 #[.agg (bigC z)] w fun e w' => e = .returned (.tuple #[.int .i64 (hiOf z), .int .u64 (loOf z)]) ∧ Below w.heap.size w w' := by
  have b0 := bbox_new w z
  have B0 := Lib.hid b0
  have HB := Lib.hid (below_alloc1 w (.cells (bigC z) 30))
  clear b0
  go_enter Try.func29, Try.ntmps29
  go_wp2
  go_loopw [4, 5, 6] (fun h l i wr => ∃ k : Int, -1 ≤ k ∧ k ≤ 3 ∧ i = .int .i64 k ∧ h = .int .u64 (upOf z / 65536 ^ (k + 1).toNat) ∧ l = .int .u64 (loOf z / 65536 ^ (k + 1).toNat) ∧ Hid (BBox wr w.heap.size z) ∧ Hid (Below w.heap.size w wr)) (fun _ _ i _ => (intOf i + 1).toNat)
  case atStart => exact ⟨3, by omega, by omega, rfl, int_eq (up_top z), int_eq (low_top z), B0, HB⟩
  case round =>
    obtain ⟨k, hk0, hk1, rfl, rfl, rfl, X, HW⟩ := hrel
    clear B0 HB
    by_cases h0 : 0 ≤ k
    · obtain ⟨m, rfl⟩ := Int.eq_ofNat_of_zero_le h0
      rw [show ((m : Int) + 1).toNat = m + 1 from by omega]
      have hm : m < 4 := by omega
      have c0 := X.out.cell (i := m) (by omega)
      have c1 := X.out.cell (i := m + 4) (by omega)
      have d0 := (dg_bd z m).1
      have d1 := (dg_bd z m).2
      have e0 := (dg_bd z (m + 4)).1
      have e1 := (dg_bd z (m + 4)).2
      have u0 := div_pow_bd (upOf z) (m + 1) (up_bd z).1
      have l0 := div_pow_bd (loOf z) (m + 1) (lo_bd z).1
      have hu := up_step z m hm
      have hl := low_step z m hm
      generalize upOf z / 65536 ^ (m + 1) = A at *
      generalize loOf z / 65536 ^ (m + 1) = B at *
      have HU := Lib.hid hu
      have HL := Lib.hid hl
      clear hu hl
      go_wp2
      go_quiet (fail)
      go_wp2
      refine ⟨⟨(m : Int) - 1, by omega, by omega, rfl, ?_, ?_, Lib.hid (show BBox (wr.drewN _) _ _ from X.out), Lib.hid (below_drewN HW.out _)⟩, by simp [intOf]⟩
      · rw [HU.out, show ((m : Int) - 1 + 1).toNat = m from by omega]
      · rw [HL.out, show ((m : Int) - 1 + 1).toNat = m from by omega]
    · have : k = -1 := by omega
      subst this
      go_wp2
      go_ret2
      exact ⟨ret_two (up_wrap z) rfl, HW.out⟩

theorem dig_eq (x y : Int) : (dg x 0 == dg y 0 && (dg x 1 == dg y 1 && (dg x 2 == dg y 2 && (dg x 3 == dg y 3 && (dg x 4 == dg y 4 && (dg x 5 == dg y 5 && (dg x 6 == dg y 6 && dg x 7 == dg y 7))))))) = decide (sm x = sm y) := by
  rw [Bool.eq_iff_iff]
  simp only [Bool.and_eq_true, beq_iff_eq, decide_eq_true_eq]
  constructor
  · unfold dg sm; simp only [Int.reducePow]; omega
  · intro h
    exact ⟨dg_cong h 0 (by omega), dg_cong h 1 (by omega), dg_cong h 2 (by omega), dg_cong h 3 (by omega), dg_cong h 4 (by omega), dg_cong h 5 (by omega), dg_cong h 6 (by omega), dg_cong h 7 (by omega)⟩
theorem ret_numb {a b : Int} {c d : Bool} (h : a = b) (h1 : c = d) : Ending.returned (.tuple #[.int .i64 a, .bool c]) = .returned (.tuple #[.int .i64 b, .bool d]) := by rw [h, h1]
theorem neq30 (x y : Int) (w : World) : (binOp .neq 30 (.agg #[.int .u32 (dg (x) 0), .int .u32 (dg (x) 1), .int .u32 (dg (x) 2), .int .u32 (dg (x) 3), .int .u32 (dg (x) 4), .int .u32 (dg (x) 5), .int .u32 (dg (x) 6), .int .u32 (dg (x) 7)]) (.agg #[.int .u32 (dg (y) 0), .int .u32 (dg (y) 1), .int .u32 (dg (y) 2), .int .u32 (dg (y) 3), .int .u32 (dg (y) 4), .int .u32 (dg (y) 5), .int .u32 (dg (y) 6), .int .u32 (dg (y) 7)])).run Try.prog w = .ok (.bool (!decide (sm x = sm y))) w := by
  rw [run_neq_struct, eq30 9998, dig_eq]; rfl

set_option maxHeartbeats 1000000 in
theorem refNum_any (z : Int) (w : World) :
    Calls Try.prog 30 #[.agg (bigC z)] w fun e w' => e = .returned (.tuple #[.int .i64 (numV z), .bool (numB z)]) ∧ Below w.heap.size w w' := by
  have b0 := bbox_new w z
  have B0 := Lib.hid b0
  have HB := Lib.hid (below_alloc1 w (.cells (bigC z) 30))
  have hw0 : -9223372036854775808 ≤ wrap64 (loOf z) := by unfold wrap64; omega
  have hw1 : wrap64 (loOf z) ≤ 9223372036854775807 := by unfold wrap64; omega
  clear b0
  go_enter Try.func30, Try.ntmps30
  go_wp2
  go_loopw [4, 5] (fun l i wr => ∃ k : Int, -1 ≤ k ∧ k ≤ 3 ∧ i = .int .i64 k ∧ l = .int .u64 (loOf z / 65536 ^ (k + 1).toNat) ∧ Hid (BBox wr w.heap.size z) ∧ Hid (Below w.heap.size w wr)) (fun _ i _ => (intOf i + 1).toNat)
  case atStart => exact ⟨3, by omega, by omega, rfl, int_eq (low_top z), B0, HB⟩
  case round =>
    obtain ⟨k, hk0, hk1, rfl, rfl, X, HW⟩ := hrel
    clear B0 HB
    by_cases h0 : 0 ≤ k
    · obtain ⟨m, rfl⟩ := Int.eq_ofNat_of_zero_le h0
      rw [show ((m : Int) + 1).toNat = m + 1 from by omega]
      have hm : m < 4 := by omega
      have c0 := X.out.cell (i := m) (by omega)
      have d0 := (dg_bd z m).1
      have d1 := (dg_bd z m).2
      have hl := low_step z m hm
      generalize loOf z / 65536 ^ (m + 1) = B at *
      have HL := Lib.hid hl
      clear hl
      go_wp2
      refine ⟨⟨(m : Int) - 1, by omega, by omega, rfl, ?_, X, HW⟩, by simp [intOf]⟩
      rw [HL.out, show ((m : Int) - 1 + 1).toNat = m from by omega]
    · have : k = -1 := by omega
      subst this
      clear hk0 hk1 h0
      rw [show loOf z / 65536 ^ ((-1 : Int) + 1).toNat = loOf z from by simp]
      obtain ⟨o0, o1, o2, o3, o4, o5, o6, o7⟩ := bbox_cells X.out
      have hq0 := neq30 (wrap64 (loOf z)) z
      cases hn : numB z
      · obtain ⟨_, h2⟩ := num_no hn
        have h3 := num_hi_ne hn
        have h4 : ¬ sm (wrap64 (loOf z)) = sm z := fun h => h3 (hi_congr h)
        have H2 := Lib.hid h2
        have HN := Lib.hid hn
        have hq := hq0
        rw [show decide (sm (wrap64 (loOf z)) = sm z) = false from decide_eq_false h4, show (!false) = true from rfl] at hq
        clear hq0 h2 h3 h4 hn
        go_wp2_with fail
        go_region_with (first
            | (go_at_call 14; refine (refOf_ex _ _ hw0 hw1).mono ?_; rintro e w' ⟨rfl, hb⟩; have HB := Lib.hid (below_undrew hb); clear hb; obtain ⟨p0, p1, p2, p3, p4, p5, p6, p7⟩ := bbox_cells (bbox_on X.out HB.out)))
        all_goals
          go_wp2
          go_ret2
          exact ⟨ret_numb H2.out.symm HN.out.symm, HW.out.trans (HB.out.mono HW.out.size)⟩
      · obtain ⟨h1, h2, h3⟩ := num_yes hn
        have h4 : sm (wrap64 (loOf z)) = sm z := ext_hilo h1 h2
        have H2 := Lib.hid h3
        have HN := Lib.hid hn
        have hq := hq0
        rw [show decide (sm (wrap64 (loOf z)) = sm z) = true from decide_eq_true h4, show (!true) = false from rfl] at hq
        clear hq0 h1 h2 h3 h4 hn
        go_wp2_with fail
        go_region_with (first
            | (go_at_call 14; refine (refOf_ex _ _ hw0 hw1).mono ?_; rintro e w' ⟨rfl, hb⟩; have HB := Lib.hid (below_undrew hb); clear hb; obtain ⟨p0, p1, p2, p3, p4, p5, p6, p7⟩ := bbox_cells (bbox_on X.out HB.out)))
        all_goals
          go_wp2
          go_ret2
          exact ⟨ret_numb H2.out HN.out.symm, HW.out.trans (HB.out.mono HW.out.size)⟩
end Go.Proofs.Ytfcllangolinaaa
