/- The walk of WideOrder. -/
import Derived.Test.YtfcllangolinaaaWalkWideParts
import Derived.Test.YtfcllangolinaaaWalkWideQuo
namespace Go.Proofs.Ytfcllangolinaaa
open Go Go.RowKit

theorem times_to (x n z : Int) (h : x * n = z) (w : World) (h0 : -9223372036854775808 ≤ n) (h1 : n ≤ 9223372036854775807) :
    Calls Try.prog 17 #[.agg #[.int .i64 (hiOf x), .int .u64 (loOf x)], .int .i64 n] w fun e w' => e = .returned (.agg #[.int .i64 (hiOf z), .int .u64 (loOf z)]) ∧ Below w.heap.size w w' := by subst h; exact times_any x n w h0 h1
theorem refTimes_to (x n z : Int) (h : x * n = z) (w : World) (h0 : -9223372036854775808 ≤ n) (h1 : n ≤ 9223372036854775807) :
    Calls Try.prog 18 #[.agg #[.int .u32 (dg (x) 0), .int .u32 (dg (x) 1), .int .u32 (dg (x) 2), .int .u32 (dg (x) 3), .int .u32 (dg (x) 4), .int .u32 (dg (x) 5), .int .u32 (dg (x) 6), .int .u32 (dg (x) 7)], .int .i64 n] w fun e w' => e = .returned (.agg #[.int .u32 (dg (z) 0), .int .u32 (dg (z) 1), .int .u32 (dg (z) 2), .int .u32 (dg (z) 3), .int .u32 (dg (z) 4), .int .u32 (dg (z) 5), .int .u32 (dg (z) 6), .int .u32 (dg (z) 7)]) ∧ Below w.heap.size w w' := by subst h; exact refTimes_any x n w h0 h1

set_option maxRecDepth 10000 in
set_option maxHeartbeats 4000000 in
theorem wideOrder_lt (a t b u x y : Int) (ha0 : -9223372036854775808 ≤ a) (ha1 : a ≤ 9223372036854775807) (ht0 : -9223372036854775808 ≤ t) (ht1 : t ≤ 9223372036854775807)
    (hb0 : -9223372036854775808 ≤ b) (hb1 : b ≤ 9223372036854775807) (hu0 : -9223372036854775808 ≤ u) (hu1 : u ≤ 9223372036854775807) (hx : a * t = x) (hy : b * u = y) (h : sm x < sm y) (w : World) :
    Calls Try.prog 5 #[.int .i64 a, .int .i64 t, .int .i64 b, .int .i64 u] w fun e w' => e = .returned (.bool true) ∧ Below w.heap.size w w' := by
  have HB0 := Lib.hid (Below.refl w.heap.size w)
  have HL : Hid (decide (sm x < sm y) = true ∧ decide (sm y < sm x) = false) := Lib.hid ⟨by simp; omega, by simp; omega⟩
  have HC : Hid (Lib.compareInt (sm x) (sm y) = (-1) ∧ Lib.compareInt (sm y) (sm x) = 1 ∧ Lib.compareInt (sm x) (sm x) = 0) := Lib.hid (by unfold Lib.compareInt; refine ⟨?_, ?_, ?_⟩ <;> (repeat' split) <;> omega)
  clear h
  go_enter Try.func5, Try.ntmps5
  go_wp2_with fail
  refine (begun_any _).mono ?_
  rintro e w1 ⟨rfl, hb⟩
  have HB1 := Lib.hid (HB0.out.trans (hb.mono HB0.out.size))
  clear hb
  go_wp2_with fail
  refine (of_any a _ ha0 ha1).mono ?_
  rintro e w2 ⟨rfl, hb⟩
  have HB2 := Lib.hid (HB1.out.trans (hb.mono HB1.out.size))
  clear hb
  go_wp2_with fail
  refine (times_to a t x hx _ ht0 ht1).mono ?_
  rintro e w3 ⟨rfl, hb⟩
  have HB3 := Lib.hid (HB2.out.trans (hb.mono HB2.out.size))
  clear hb
  go_wp2_with fail
  refine (of_any b _ hb0 hb1).mono ?_
  rintro e w4 ⟨rfl, hb⟩
  have HB4 := Lib.hid (HB3.out.trans (hb.mono HB3.out.size))
  clear hb
  go_wp2_with fail
  refine (times_to b u y hy _ hu0 hu1).mono ?_
  rintro e w5 ⟨rfl, hb⟩
  have HB5 := Lib.hid (HB4.out.trans (hb.mono HB4.out.size))
  clear hb
  have HA := Lib.hid ((HB5.out.alloc HB5.out.size (.cells #[.int .i64 (hiOf x), .int .u64 (loOf x)] 27)).alloc (by simp; have := HB5.out.size; omega) (.cells #[.int .i64 (hiOf y), .int .u64 (loOf y)] 27))
  have WX := Lib.hid (wat_alloc (wat_new w5 (hiOf x) (loOf x)) (.cells #[.int .i64 (hiOf y), .int .u64 (loOf y)] 27))
  have wy := wat_new (w5.alloc (.cells #[.int .i64 (hiOf x), .int .u64 (loOf x)] 27)) (hiOf y) (loOf y)
  simp only [World.size_alloc] at wy
  have WY := Lib.hid wy
  clear wy
  go_wp2_with fail
  refine (refOf_ex a _ ha0 ha1).mono ?_
  rintro e w6 ⟨rfl, hb⟩
  have HB6 := Lib.hid (HA.out.trans (hb.mono HA.out.size))
  have WX := Lib.hid (wat_on WX.out hb)
  have WY := Lib.hid (wat_on WY.out hb)
  clear hb
  go_wp2_with fail
  refine (refTimes_to a t x hx _ ht0 ht1).mono ?_
  rintro e w7 ⟨rfl, hb⟩
  have HB7 := Lib.hid (HB6.out.trans (hb.mono HB6.out.size))
  have WX := Lib.hid (wat_on WX.out hb)
  have WY := Lib.hid (wat_on WY.out hb)
  clear hb
  go_wp2_with fail
  refine (refOf_ex b _ hb0 hb1).mono ?_
  rintro e w8 ⟨rfl, hb⟩
  have HB8 := Lib.hid (HB7.out.trans (hb.mono HB7.out.size))
  have WX := Lib.hid (wat_on WX.out hb)
  have WY := Lib.hid (wat_on WY.out hb)
  clear hb
  go_wp2_with fail
  refine (refTimes_to b u y hy _ hu0 hu1).mono ?_
  rintro e w9 ⟨rfl, hb⟩
  have HB9 := Lib.hid (HB8.out.trans (hb.mono HB8.out.size))
  have WX := Lib.hid (wat_on WX.out hb)
  have WY := Lib.hid (wat_on WY.out hb)
  clear hb
  have HD := Lib.hid ((HB9.out.alloc HB9.out.size (.cells (bigC x) 30)).alloc (by simp; have := HB9.out.size; omega) (.cells (bigC y) 30))
  have WX := Lib.hid (wat_alloc (wat_alloc WX.out (.cells (bigC x) 30)) (.cells (bigC y) 30))
  have WY := Lib.hid (wat_alloc (wat_alloc WY.out (.cells (bigC x) 30)) (.cells (bigC y) 30))
  have BX := Lib.hid (World.rowIs.alloc (bbox_new w9 x) (.cells (bigC y) 30) : BBox _ _ x)
  have by0 := bbox_new (w9.alloc (.cells (bigC x) 30)) y
  simp only [World.size_alloc] at by0
  have BY := Lib.hid by0
  clear by0
  go_wp2_with fail
  refine (refLess_is x y true HL.out.1 _).mono ?_
  rintro e w10 ⟨rfl, hb⟩
  have HB10 := Lib.hid (HD.out.trans (hb.mono HD.out.size))
  have WX := Lib.hid (wat_on WX.out hb)
  have WY := Lib.hid (wat_on WY.out hb)
  have BX := Lib.hid (bbox_on BX.out hb)
  have BY := Lib.hid (bbox_on BY.out hb)
  clear hb
  obtain ⟨c0, c1, c2, c3, c4, c5, c6, c7⟩ := bbox_cells BX.out
  obtain ⟨d0, d1, d2, d3, d4, d5, d6, d7⟩ := bbox_cells BY.out
  go_wp2_with fail
  refine (refLess_is y x false HL.out.2 _).mono ?_
  rintro e w11 ⟨rfl, hb⟩
  have HB11 := Lib.hid (HB10.out.trans (hb.mono HB10.out.size))
  have WX := Lib.hid (wat_on WX.out hb)
  have WY := Lib.hid (wat_on WY.out hb)
  clear hb c0 c1 c2 c3 c4 c5 c6 c7 d0 d1 d2 d3 d4 d5 d6 d7
  obtain ⟨x0, x1⟩ := WX.out
  obtain ⟨y0, y1⟩ := WY.out
  go_wp2_with fail
  refine (compare_lit x y (-1) HC.out.1 _).mono ?_
  rintro e w12 ⟨rfl, hb⟩
  have HB12 := Lib.hid (HB11.out.trans (hb.mono HB11.out.size))
  have WX := Lib.hid (wat_on WX.out hb)
  have WY := Lib.hid (wat_on WY.out hb)
  clear hb x0 x1 y0 y1
  obtain ⟨x0, x1⟩ := WX.out
  obtain ⟨y0, y1⟩ := WY.out
  go_wp2_with fail
  refine (compare_lit y x 1 HC.out.2.1 _).mono ?_
  rintro e w13 ⟨rfl, hb⟩
  have HB13 := Lib.hid (HB12.out.trans (hb.mono HB12.out.size))
  have WX := Lib.hid (wat_on WX.out hb)
  clear hb x0 x1 y0 y1
  obtain ⟨x0, x1⟩ := WX.out
  go_wp2_with fail
  refine (compare_lit x x 0 HC.out.2.2 _).mono ?_
  rintro e w14 ⟨rfl, hb⟩
  have HB14 := Lib.hid (HB13.out.trans (hb.mono HB13.out.size))
  clear hb x0 x1
  go_wp2
  go_ret
  exact ⟨rfl, HB14.out⟩

set_option maxRecDepth 10000 in
set_option maxHeartbeats 4000000 in
theorem wideOrder_gt (a t b u x y : Int) (ha0 : -9223372036854775808 ≤ a) (ha1 : a ≤ 9223372036854775807) (ht0 : -9223372036854775808 ≤ t) (ht1 : t ≤ 9223372036854775807)
    (hb0 : -9223372036854775808 ≤ b) (hb1 : b ≤ 9223372036854775807) (hu0 : -9223372036854775808 ≤ u) (hu1 : u ≤ 9223372036854775807) (hx : a * t = x) (hy : b * u = y) (h : sm y < sm x) (w : World) :
    Calls Try.prog 5 #[.int .i64 a, .int .i64 t, .int .i64 b, .int .i64 u] w fun e w' => e = .returned (.bool true) ∧ Below w.heap.size w w' := by
  have HB0 := Lib.hid (Below.refl w.heap.size w)
  have HL : Hid (decide (sm x < sm y) = false ∧ decide (sm y < sm x) = true) := Lib.hid ⟨by simp; omega, by simp; omega⟩
  have HC : Hid (Lib.compareInt (sm x) (sm y) = 1 ∧ Lib.compareInt (sm y) (sm x) = (-1) ∧ Lib.compareInt (sm x) (sm x) = 0) := Lib.hid (by unfold Lib.compareInt; refine ⟨?_, ?_, ?_⟩ <;> (repeat' split) <;> omega)
  clear h
  go_enter Try.func5, Try.ntmps5
  go_wp2_with fail
  refine (begun_any _).mono ?_
  rintro e w1 ⟨rfl, hb⟩
  have HB1 := Lib.hid (HB0.out.trans (hb.mono HB0.out.size))
  clear hb
  go_wp2_with fail
  refine (of_any a _ ha0 ha1).mono ?_
  rintro e w2 ⟨rfl, hb⟩
  have HB2 := Lib.hid (HB1.out.trans (hb.mono HB1.out.size))
  clear hb
  go_wp2_with fail
  refine (times_to a t x hx _ ht0 ht1).mono ?_
  rintro e w3 ⟨rfl, hb⟩
  have HB3 := Lib.hid (HB2.out.trans (hb.mono HB2.out.size))
  clear hb
  go_wp2_with fail
  refine (of_any b _ hb0 hb1).mono ?_
  rintro e w4 ⟨rfl, hb⟩
  have HB4 := Lib.hid (HB3.out.trans (hb.mono HB3.out.size))
  clear hb
  go_wp2_with fail
  refine (times_to b u y hy _ hu0 hu1).mono ?_
  rintro e w5 ⟨rfl, hb⟩
  have HB5 := Lib.hid (HB4.out.trans (hb.mono HB4.out.size))
  clear hb
  have HA := Lib.hid ((HB5.out.alloc HB5.out.size (.cells #[.int .i64 (hiOf x), .int .u64 (loOf x)] 27)).alloc (by simp; have := HB5.out.size; omega) (.cells #[.int .i64 (hiOf y), .int .u64 (loOf y)] 27))
  have WX := Lib.hid (wat_alloc (wat_new w5 (hiOf x) (loOf x)) (.cells #[.int .i64 (hiOf y), .int .u64 (loOf y)] 27))
  have wy := wat_new (w5.alloc (.cells #[.int .i64 (hiOf x), .int .u64 (loOf x)] 27)) (hiOf y) (loOf y)
  simp only [World.size_alloc] at wy
  have WY := Lib.hid wy
  clear wy
  go_wp2_with fail
  refine (refOf_ex a _ ha0 ha1).mono ?_
  rintro e w6 ⟨rfl, hb⟩
  have HB6 := Lib.hid (HA.out.trans (hb.mono HA.out.size))
  have WX := Lib.hid (wat_on WX.out hb)
  have WY := Lib.hid (wat_on WY.out hb)
  clear hb
  go_wp2_with fail
  refine (refTimes_to a t x hx _ ht0 ht1).mono ?_
  rintro e w7 ⟨rfl, hb⟩
  have HB7 := Lib.hid (HB6.out.trans (hb.mono HB6.out.size))
  have WX := Lib.hid (wat_on WX.out hb)
  have WY := Lib.hid (wat_on WY.out hb)
  clear hb
  go_wp2_with fail
  refine (refOf_ex b _ hb0 hb1).mono ?_
  rintro e w8 ⟨rfl, hb⟩
  have HB8 := Lib.hid (HB7.out.trans (hb.mono HB7.out.size))
  have WX := Lib.hid (wat_on WX.out hb)
  have WY := Lib.hid (wat_on WY.out hb)
  clear hb
  go_wp2_with fail
  refine (refTimes_to b u y hy _ hu0 hu1).mono ?_
  rintro e w9 ⟨rfl, hb⟩
  have HB9 := Lib.hid (HB8.out.trans (hb.mono HB8.out.size))
  have WX := Lib.hid (wat_on WX.out hb)
  have WY := Lib.hid (wat_on WY.out hb)
  clear hb
  have HD := Lib.hid ((HB9.out.alloc HB9.out.size (.cells (bigC x) 30)).alloc (by simp; have := HB9.out.size; omega) (.cells (bigC y) 30))
  have WX := Lib.hid (wat_alloc (wat_alloc WX.out (.cells (bigC x) 30)) (.cells (bigC y) 30))
  have WY := Lib.hid (wat_alloc (wat_alloc WY.out (.cells (bigC x) 30)) (.cells (bigC y) 30))
  have BX := Lib.hid (World.rowIs.alloc (bbox_new w9 x) (.cells (bigC y) 30) : BBox _ _ x)
  have by0 := bbox_new (w9.alloc (.cells (bigC x) 30)) y
  simp only [World.size_alloc] at by0
  have BY := Lib.hid by0
  clear by0
  go_wp2_with fail
  refine (refLess_is x y false HL.out.1 _).mono ?_
  rintro e w10 ⟨rfl, hb⟩
  have HB10 := Lib.hid (HD.out.trans (hb.mono HD.out.size))
  have WX := Lib.hid (wat_on WX.out hb)
  have WY := Lib.hid (wat_on WY.out hb)
  have BX := Lib.hid (bbox_on BX.out hb)
  have BY := Lib.hid (bbox_on BY.out hb)
  clear hb
  obtain ⟨c0, c1, c2, c3, c4, c5, c6, c7⟩ := bbox_cells BX.out
  obtain ⟨d0, d1, d2, d3, d4, d5, d6, d7⟩ := bbox_cells BY.out
  go_wp2_with fail
  refine (refLess_is y x true HL.out.2 _).mono ?_
  rintro e w11 ⟨rfl, hb⟩
  have HB11 := Lib.hid (HB10.out.trans (hb.mono HB10.out.size))
  have WX := Lib.hid (wat_on WX.out hb)
  have WY := Lib.hid (wat_on WY.out hb)
  clear hb c0 c1 c2 c3 c4 c5 c6 c7 d0 d1 d2 d3 d4 d5 d6 d7
  obtain ⟨x0, x1⟩ := WX.out
  obtain ⟨y0, y1⟩ := WY.out
  go_wp2_with fail
  refine (compare_lit x y 1 HC.out.1 _).mono ?_
  rintro e w12 ⟨rfl, hb⟩
  have HB12 := Lib.hid (HB11.out.trans (hb.mono HB11.out.size))
  have WX := Lib.hid (wat_on WX.out hb)
  have WY := Lib.hid (wat_on WY.out hb)
  clear hb x0 x1 y0 y1
  obtain ⟨x0, x1⟩ := WX.out
  obtain ⟨y0, y1⟩ := WY.out
  go_wp2_with fail
  refine (compare_lit y x (-1) HC.out.2.1 _).mono ?_
  rintro e w13 ⟨rfl, hb⟩
  have HB13 := Lib.hid (HB12.out.trans (hb.mono HB12.out.size))
  have WX := Lib.hid (wat_on WX.out hb)
  clear hb x0 x1 y0 y1
  obtain ⟨x0, x1⟩ := WX.out
  go_wp2_with fail
  refine (compare_lit x x 0 HC.out.2.2 _).mono ?_
  rintro e w14 ⟨rfl, hb⟩
  have HB14 := Lib.hid (HB13.out.trans (hb.mono HB13.out.size))
  clear hb x0 x1
  go_wp2
  go_ret
  exact ⟨rfl, HB14.out⟩

set_option maxRecDepth 10000 in
set_option maxHeartbeats 4000000 in
theorem wideOrder_eq (a t b u x y : Int) (ha0 : -9223372036854775808 ≤ a) (ha1 : a ≤ 9223372036854775807) (ht0 : -9223372036854775808 ≤ t) (ht1 : t ≤ 9223372036854775807)
    (hb0 : -9223372036854775808 ≤ b) (hb1 : b ≤ 9223372036854775807) (hu0 : -9223372036854775808 ≤ u) (hu1 : u ≤ 9223372036854775807) (hx : a * t = x) (hy : b * u = y) (h : sm x = sm y) (w : World) :
    Calls Try.prog 5 #[.int .i64 a, .int .i64 t, .int .i64 b, .int .i64 u] w fun e w' => e = .returned (.bool true) ∧ Below w.heap.size w w' := by
  have HB0 := Lib.hid (Below.refl w.heap.size w)
  have HL : Hid (decide (sm x < sm y) = false ∧ decide (sm y < sm x) = false) := Lib.hid ⟨by simp; omega, by simp; omega⟩
  have HC : Hid (Lib.compareInt (sm x) (sm y) = 0 ∧ Lib.compareInt (sm y) (sm x) = 0 ∧ Lib.compareInt (sm x) (sm x) = 0) := Lib.hid (by unfold Lib.compareInt; refine ⟨?_, ?_, ?_⟩ <;> (repeat' split) <;> omega)
  clear h
  go_enter Try.func5, Try.ntmps5
  go_wp2_with fail
  refine (begun_any _).mono ?_
  rintro e w1 ⟨rfl, hb⟩
  have HB1 := Lib.hid (HB0.out.trans (hb.mono HB0.out.size))
  clear hb
  go_wp2_with fail
  refine (of_any a _ ha0 ha1).mono ?_
  rintro e w2 ⟨rfl, hb⟩
  have HB2 := Lib.hid (HB1.out.trans (hb.mono HB1.out.size))
  clear hb
  go_wp2_with fail
  refine (times_to a t x hx _ ht0 ht1).mono ?_
  rintro e w3 ⟨rfl, hb⟩
  have HB3 := Lib.hid (HB2.out.trans (hb.mono HB2.out.size))
  clear hb
  go_wp2_with fail
  refine (of_any b _ hb0 hb1).mono ?_
  rintro e w4 ⟨rfl, hb⟩
  have HB4 := Lib.hid (HB3.out.trans (hb.mono HB3.out.size))
  clear hb
  go_wp2_with fail
  refine (times_to b u y hy _ hu0 hu1).mono ?_
  rintro e w5 ⟨rfl, hb⟩
  have HB5 := Lib.hid (HB4.out.trans (hb.mono HB4.out.size))
  clear hb
  have HA := Lib.hid ((HB5.out.alloc HB5.out.size (.cells #[.int .i64 (hiOf x), .int .u64 (loOf x)] 27)).alloc (by simp; have := HB5.out.size; omega) (.cells #[.int .i64 (hiOf y), .int .u64 (loOf y)] 27))
  have WX := Lib.hid (wat_alloc (wat_new w5 (hiOf x) (loOf x)) (.cells #[.int .i64 (hiOf y), .int .u64 (loOf y)] 27))
  have wy := wat_new (w5.alloc (.cells #[.int .i64 (hiOf x), .int .u64 (loOf x)] 27)) (hiOf y) (loOf y)
  simp only [World.size_alloc] at wy
  have WY := Lib.hid wy
  clear wy
  go_wp2_with fail
  refine (refOf_ex a _ ha0 ha1).mono ?_
  rintro e w6 ⟨rfl, hb⟩
  have HB6 := Lib.hid (HA.out.trans (hb.mono HA.out.size))
  have WX := Lib.hid (wat_on WX.out hb)
  have WY := Lib.hid (wat_on WY.out hb)
  clear hb
  go_wp2_with fail
  refine (refTimes_to a t x hx _ ht0 ht1).mono ?_
  rintro e w7 ⟨rfl, hb⟩
  have HB7 := Lib.hid (HB6.out.trans (hb.mono HB6.out.size))
  have WX := Lib.hid (wat_on WX.out hb)
  have WY := Lib.hid (wat_on WY.out hb)
  clear hb
  go_wp2_with fail
  refine (refOf_ex b _ hb0 hb1).mono ?_
  rintro e w8 ⟨rfl, hb⟩
  have HB8 := Lib.hid (HB7.out.trans (hb.mono HB7.out.size))
  have WX := Lib.hid (wat_on WX.out hb)
  have WY := Lib.hid (wat_on WY.out hb)
  clear hb
  go_wp2_with fail
  refine (refTimes_to b u y hy _ hu0 hu1).mono ?_
  rintro e w9 ⟨rfl, hb⟩
  have HB9 := Lib.hid (HB8.out.trans (hb.mono HB8.out.size))
  have WX := Lib.hid (wat_on WX.out hb)
  have WY := Lib.hid (wat_on WY.out hb)
  clear hb
  have HD := Lib.hid ((HB9.out.alloc HB9.out.size (.cells (bigC x) 30)).alloc (by simp; have := HB9.out.size; omega) (.cells (bigC y) 30))
  have WX := Lib.hid (wat_alloc (wat_alloc WX.out (.cells (bigC x) 30)) (.cells (bigC y) 30))
  have WY := Lib.hid (wat_alloc (wat_alloc WY.out (.cells (bigC x) 30)) (.cells (bigC y) 30))
  have BX := Lib.hid (World.rowIs.alloc (bbox_new w9 x) (.cells (bigC y) 30) : BBox _ _ x)
  have by0 := bbox_new (w9.alloc (.cells (bigC x) 30)) y
  simp only [World.size_alloc] at by0
  have BY := Lib.hid by0
  clear by0
  go_wp2_with fail
  refine (refLess_is x y false HL.out.1 _).mono ?_
  rintro e w10 ⟨rfl, hb⟩
  have HB10 := Lib.hid (HD.out.trans (hb.mono HD.out.size))
  have WX := Lib.hid (wat_on WX.out hb)
  have WY := Lib.hid (wat_on WY.out hb)
  have BX := Lib.hid (bbox_on BX.out hb)
  have BY := Lib.hid (bbox_on BY.out hb)
  clear hb
  obtain ⟨c0, c1, c2, c3, c4, c5, c6, c7⟩ := bbox_cells BX.out
  obtain ⟨d0, d1, d2, d3, d4, d5, d6, d7⟩ := bbox_cells BY.out
  go_wp2_with fail
  refine (refLess_is y x false HL.out.2 _).mono ?_
  rintro e w11 ⟨rfl, hb⟩
  have HB11 := Lib.hid (HB10.out.trans (hb.mono HB10.out.size))
  have WX := Lib.hid (wat_on WX.out hb)
  have WY := Lib.hid (wat_on WY.out hb)
  clear hb c0 c1 c2 c3 c4 c5 c6 c7 d0 d1 d2 d3 d4 d5 d6 d7
  obtain ⟨x0, x1⟩ := WX.out
  obtain ⟨y0, y1⟩ := WY.out
  go_wp2_with fail
  refine (compare_lit x y 0 HC.out.1 _).mono ?_
  rintro e w12 ⟨rfl, hb⟩
  have HB12 := Lib.hid (HB11.out.trans (hb.mono HB11.out.size))
  have WX := Lib.hid (wat_on WX.out hb)
  have WY := Lib.hid (wat_on WY.out hb)
  clear hb x0 x1 y0 y1
  obtain ⟨x0, x1⟩ := WX.out
  obtain ⟨y0, y1⟩ := WY.out
  go_wp2_with fail
  refine (compare_lit y x 0 HC.out.2.1 _).mono ?_
  rintro e w13 ⟨rfl, hb⟩
  have HB13 := Lib.hid (HB12.out.trans (hb.mono HB12.out.size))
  have WX := Lib.hid (wat_on WX.out hb)
  clear hb x0 x1 y0 y1
  obtain ⟨x0, x1⟩ := WX.out
  go_wp2_with fail
  refine (compare_lit x x 0 HC.out.2.2 _).mono ?_
  rintro e w14 ⟨rfl, hb⟩
  have HB14 := Lib.hid (HB13.out.trans (hb.mono HB13.out.size))
  clear hb x0 x1
  go_wp2
  go_ret
  exact ⟨rfl, HB14.out⟩

theorem wideOrder_walk (a t b u : Int) (ha0 : -9223372036854775808 ≤ a) (ha1 : a ≤ 9223372036854775807) (ht0 : -9223372036854775808 ≤ t) (ht1 : t ≤ 9223372036854775807)
    (hb0 : -9223372036854775808 ≤ b) (hb1 : b ≤ 9223372036854775807) (hu0 : -9223372036854775808 ≤ u) (hu1 : u ≤ 9223372036854775807) (w : World) :
    Calls Try.prog 5 #[.int .i64 a, .int .i64 t, .int .i64 b, .int .i64 u] w fun e w' => e = .returned (.bool true) ∧ Below w.heap.size w w' := by
  rcases Int.lt_trichotomy (sm (a * t)) (sm (b * u)) with h | h | h
  · exact wideOrder_lt a t b u _ _ ha0 ha1 ht0 ht1 hb0 hb1 hu0 hu1 rfl rfl h w
  · exact wideOrder_eq a t b u _ _ ha0 ha1 ht0 ht1 hb0 hb1 hu0 hu1 rfl rfl h w
  · exact wideOrder_gt a t b u _ _ ha0 ha1 ht0 ht1 hb0 hb1 hu0 hu1 rfl rfl h w
end Go.Proofs.Ytfcllangolinaaa
