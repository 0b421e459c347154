/- The walk of WideQuo. -/
import Derived.Test.YtfcllangolinaaaL
namespace Go.Proofs.Ytfcllangolinaaa
open Go Go.RowKit

theorem refTimes_ex (x n : Int) (w : World) (h0 : -9223372036854775808 ≤ n) (h1 : n ≤ 9223372036854775807) :
    Calls Try.prog 18 #[.agg #[.int .u32 (dg (x) 0), .int .u32 (dg (x) 1), .int .u32 (dg (x) 2), .int .u32 (dg (x) 3), .int .u32 (dg (x) 4), .int .u32 (dg (x) 5), .int .u32 (dg (x) 6), .int .u32 (dg (x) 7)], .int .i64 n] w fun e w' => e = .returned (.agg #[.int .u32 (dg (x * n) 0), .int .u32 (dg (x * n) 1), .int .u32 (dg (x * n) 2), .int .u32 (dg (x * n) 3), .int .u32 (dg (x * n) 4), .int .u32 (dg (x * n) 5), .int .u32 (dg (x * n) 6), .int .u32 (dg (x * n) 7)]) ∧ Below w.heap.size w w' := refTimes_any x n w h0 h1
theorem refQuo_ex (z n : Int) (w : World) (h1 : n ≤ 9223372036854775807) :
    Calls Try.prog 21 #[.agg #[.int .u32 (dg (z) 0), .int .u32 (dg (z) 1), .int .u32 (dg (z) 2), .int .u32 (dg (z) 3), .int .u32 (dg (z) 4), .int .u32 (dg (z) 5), .int .u32 (dg (z) 6), .int .u32 (dg (z) 7)], .int .i64 n] w fun e w' => e = .returned (.tuple #[.int .i64 (quoV z n), .bool (quoB z n)]) ∧ Below w.heap.size w w' := refQuo_any z n w h1

set_option maxRecDepth 10000 in
set_option maxHeartbeats 4000000 in
theorem wideQuo_walk (a t c n : Int) (ha0 : -9223372036854775808 ≤ a) (ha1 : a ≤ 9223372036854775807) (ht0 : -9223372036854775808 ≤ t) (ht1 : t ≤ 9223372036854775807)
    (hc0 : -9223372036854775808 ≤ c) (hc1 : c ≤ 9223372036854775807) (_hn0 : -9223372036854775808 ≤ n) (hn1 : n ≤ 9223372036854775807) (w : World) :
    Calls Try.prog 4 #[.int .i64 a, .int .i64 t, .int .i64 c, .int .i64 n] w fun e w' => e = .returned (.bool true) ∧ Below w.heap.size w w' := by
  have HB0 := Lib.hid (Below.refl w.heap.size w)
  go_enter Try.func4, Try.ntmps4
  go_wp2_with fail
  refine (begun_any _).mono ?_
  rintro e w1 ⟨rfl, hb⟩
  have HB1 := Lib.hid (HB0.out.trans (hb.mono HB0.out.size))
  clear hb
  go_wp2_with fail
  refine (of_any a _ ha0 ha1).mono ?_
  rintro e w2 ⟨rfl, hb⟩
  have HB2 := Lib.hid (HB1.out.trans (hb.mono HB1.out.size))
  clear hb
  go_wp2_with fail
  refine (times_any a t _ ht0 ht1).mono ?_
  rintro e w3 ⟨rfl, hb⟩
  have HB3 := Lib.hid (HB2.out.trans (hb.mono HB2.out.size))
  clear hb
  go_wp2_with fail
  refine (of_any c _ hc0 hc1).mono ?_
  rintro e w4 ⟨rfl, hb⟩
  have HB4 := Lib.hid (HB3.out.trans (hb.mono HB3.out.size))
  clear hb
  go_wp2_with fail
  refine (add_any (a * t) c _).mono ?_
  rintro e w5 ⟨rfl, hb⟩
  have HB5 := Lib.hid (HB4.out.trans (hb.mono HB4.out.size))
  clear hb
  go_wp2_with fail
  refine (refOf_ex a _ ha0 ha1).mono ?_
  rintro e w6 ⟨rfl, hb⟩
  have HB6 := Lib.hid (HB5.out.trans (hb.mono HB5.out.size))
  clear hb
  go_wp2_with fail
  refine (refTimes_ex a t _ ht0 ht1).mono ?_
  rintro e w7 ⟨rfl, hb⟩
  have HB7 := Lib.hid (HB6.out.trans (hb.mono HB6.out.size))
  clear hb
  go_wp2_with fail
  refine (refOf_ex c _ hc0 hc1).mono ?_
  rintro e w8 ⟨rfl, hb⟩
  have HB8 := Lib.hid (HB7.out.trans (hb.mono HB7.out.size))
  clear hb
  go_wp2_with fail
  refine (refAdd_ex (a * t) c _).mono ?_
  rintro e w9 ⟨rfl, hb⟩
  have HB9 := Lib.hid (HB8.out.trans (hb.mono HB8.out.size))
  clear hb
  generalize a * t + c = z at *
  have HA := Lib.hid ((HB9.out.alloc HB9.out.size (.cells #[.int .i64 (hiOf z), .int .u64 (loOf z)] 27)).alloc (by simp; have := HB9.out.size; omega) (.cells (bigC z) 30))
  have b0 := bbox_new (w9.alloc (.cells #[.int .i64 (hiOf z), .int .u64 (loOf z)] 27)) z
  simp only [World.size_alloc] at b0
  have B0 := Lib.hid b0
  clear b0
  go_wp2_with fail
  refine (quo_any z n _ hn1).mono ?_
  rintro e w10 ⟨rfl, hb⟩
  have HB10 := Lib.hid (HA.out.trans (hb.mono HA.out.size))
  obtain ⟨o0, o1, o2, o3, o4, o5, o6, o7⟩ := bbox_cells (bbox_on B0.out hb)
  clear hb
  go_wp2_with fail
  refine (refQuo_ex z n _ hn1).mono ?_
  rintro e w11 ⟨rfl, hb⟩
  have HB11 := Lib.hid (HB10.out.trans (hb.mono HB10.out.size))
  clear hb o0 o1 o2 o3 o4 o5 o6 o7
  have e1 : (quoV z n == quoV z n) = true := beq_self_eq_true _
  have e2 : (quoB z n == quoB z n) = true := beq_self_eq_true _
  go_wp2
  go_ret
  exact ⟨rfl, HB11.out⟩
end Go.Proofs.Ytfcllangolinaaa
