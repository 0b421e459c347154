/- The contract of begun: it answers true. -/
import Derived.Test.YtfcllangolinaaaK
namespace Go.Proofs.Ytfcllangolinaaa
open Go Go.RowKit

theorem of_lit (n z : Int) (h : n = z) (w : World) (h0 : -9223372036854775808 ≤ n) (h1 : n ≤ 9223372036854775807) :
    Calls Try.prog 12 #[.int .i64 n] w fun e w' => e = .returned (.agg #[.int .i64 (hiOf z), .int .u64 (loOf z)]) ∧ Below w.heap.size w w' := by subst h; exact of_any n w h0 h1
theorem num_lit (z v : Int) (b : Bool) (hv : numV z = v) (hb : numB z = b) (w : World) :
    Calls Try.prog 24 #[.agg #[.int .i64 (hiOf z), .int .u64 (loOf z)]] w fun e w' => e = .returned (.tuple #[.int .i64 v, .bool b]) ∧ Below w.heap.size w w' := by subst hv hb; exact num_any z w
theorem quo_lit (z n v : Int) (b : Bool) (h1 : n ≤ 9223372036854775807) (hv : quoV z n = v) (hb : quoB z n = b) (w : World) :
    Calls Try.prog 20 #[.agg #[.int .i64 (hiOf z), .int .u64 (loOf z)], .int .i64 n] w fun e w' => e = .returned (.tuple #[.int .i64 v, .bool b]) ∧ Below w.heap.size w w' := by subst hv hb; exact quo_any z n w h1
theorem parts_lit (z h l : Int) (hh : hiOf z = h) (hl : loOf z = l) (w : World) :
    Calls Try.prog 25 #[.agg #[.int .i64 (hiOf z), .int .u64 (loOf z)]] w fun e w' => e = .returned (.tuple #[.int .i64 h, .int .u64 l]) ∧ Below w.heap.size w w' := by subst hh hl; exact parts_any z w
theorem compare_lit (x y c : Int) (h : Lib.compareInt (sm x) (sm y) = c) (w : World) :
    Calls Try.prog 23 #[.agg #[.int .i64 (hiOf x), .int .u64 (loOf x)], .agg #[.int .i64 (hiOf y), .int .u64 (loOf y)]] w fun e w' => e = .returned (.int .i64 c) ∧ Below w.heap.size w w' := by subst h; exact compare_any x y w

set_option maxRecDepth 10000 in
set_option maxHeartbeats 2000000 in
theorem begun_any (w : World) :
    Calls Try.prog 10 #[] w fun e w' => e = .returned (.bool true) ∧ Below w.heap.size w w' := by
  obtain ⟨a, ha⟩ : ∃ a : Int, 9223372036854775807 = a := ⟨_, rfl⟩
  obtain ⟨o, ho⟩ : ∃ o : Int, 1 = o := ⟨_, rfl⟩
  obtain ⟨m1, hm1⟩ : ∃ o : Int, -1 = o := ⟨_, rfl⟩
  obtain ⟨m7, hm7⟩ : ∃ o : Int, -7 = o := ⟨_, rfl⟩
  obtain ⟨p2, hp2⟩ : ∃ o : Int, 2 = o := ⟨_, rfl⟩
  obtain ⟨p3, hp3⟩ : ∃ o : Int, 3 = o := ⟨_, rfl⟩
  obtain ⟨p5, hp5⟩ : ∃ o : Int, 5 = o := ⟨_, rfl⟩
  obtain ⟨m5, hm5⟩ : ∃ o : Int, -5 = o := ⟨_, rfl⟩
  have N1 : Hid (numV (a + o) = 0 ∧ numB (a + o) = false) := Lib.hid (by subst ha ho; decide)
  have Q1 : Hid (quoV (a + o) 2 = 4611686018427387904 ∧ quoB (a + o) 2 = true) := Lib.hid (by subst ha ho; decide)
  have P1 : Hid (hiOf m1 = -1 ∧ loOf m1 = 18446744073709551615) := Lib.hid (by subst hm1; decide)
  have Q2 : Hid (quoV m7 2 = -3 ∧ quoB m7 2 = true) := Lib.hid (by subst hm7; decide)
  have C1 : Hid (Lib.compareInt (sm p2) (sm p3) = -1) := Lib.hid (by subst hp2 hp3; decide)
  have C2 : Hid (Lib.compareInt (sm (-p5)) (sm m5) = 0) := Lib.hid (by subst hp5 hm5; decide)
  have HA := Lib.hid ha
  have HO := Lib.hid ho
  have HM1 := Lib.hid hm1
  have HM7 := Lib.hid hm7
  have HP2 := Lib.hid hp2
  have HP3 := Lib.hid hp3
  have HP5 := Lib.hid hp5
  have HM5 := Lib.hid hm5
  have HB0 := Lib.hid (Below.refl w.heap.size w)
  clear ha ho hm1 hm7 hp2 hp3 hp5 hm5
  go_enter Try.func10, Try.ntmps10
  go_wp2_with fail
  refine (of_lit _ a HA.out _ (by decide) (by decide)).mono ?_
  rintro e w1 ⟨rfl, hb⟩
  have HB1 := Lib.hid (HB0.out.trans (hb.mono HB0.out.size))
  clear hb
  go_wp2_with fail
  refine (of_lit _ o HO.out _ (by decide) (by decide)).mono ?_
  rintro e w2 ⟨rfl, hb⟩
  have HB2 := Lib.hid (HB1.out.trans (hb.mono HB1.out.size))
  clear hb
  go_wp2_with fail
  refine (add_any a o _).mono ?_
  rintro e w3 ⟨rfl, hb⟩
  have HB3 := Lib.hid (HB2.out.trans (hb.mono HB2.out.size))
  clear hb
  go_wp2_with fail
  refine (num_lit (a + o) 0 false N1.out.1 N1.out.2 _).mono ?_
  rintro e w4 ⟨rfl, hb⟩
  have HA4 := Lib.hid (HB3.out.alloc HB3.out.size (.cells #[.int .i64 (hiOf (a + o)), .int .u64 (loOf (a + o))] 27))
  have HB4 := Lib.hid (HA4.out.trans (hb.mono HA4.out.size))
  obtain ⟨c0, c1⟩ := wbox_new w3 (a + o) hb
  clear hb
  go_wp2_with fail
  refine (quo_lit (a + o) 2 4611686018427387904 true (by decide) Q1.out.1 Q1.out.2 _).mono ?_
  rintro e w5 ⟨rfl, hb⟩
  have HB5 := Lib.hid (HB4.out.trans (hb.mono HB4.out.size))
  clear hb c0 c1
  go_wp2_with fail
  refine (of_lit _ m1 HM1.out _ (by decide) (by decide)).mono ?_
  rintro e w6 ⟨rfl, hb⟩
  have HB6 := Lib.hid (HB5.out.trans (hb.mono HB5.out.size))
  clear hb
  go_wp2_with fail
  refine (parts_lit m1 (-1) 18446744073709551615 P1.out.1 P1.out.2 _).mono ?_
  rintro e w7 ⟨rfl, hb⟩
  have HB7 := Lib.hid (HB6.out.trans (hb.mono HB6.out.size))
  clear hb
  go_wp2_with fail
  refine (of_lit _ m7 HM7.out _ (by decide) (by decide)).mono ?_
  rintro e w8 ⟨rfl, hb⟩
  have HB8 := Lib.hid (HB7.out.trans (hb.mono HB7.out.size))
  clear hb
  go_wp2_with fail
  refine (quo_lit m7 2 (-3) true (by decide) Q2.out.1 Q2.out.2 _).mono ?_
  rintro e w9 ⟨rfl, hb⟩
  have HB9 := Lib.hid (HB8.out.trans (hb.mono HB8.out.size))
  clear hb
  go_wp2_with fail
  refine (of_lit _ p2 HP2.out _ (by decide) (by decide)).mono ?_
  rintro e w10 ⟨rfl, hb⟩
  have HB10 := Lib.hid (HB9.out.trans (hb.mono HB9.out.size))
  clear hb
  go_wp2_with fail
  refine (of_lit _ p3 HP3.out _ (by decide) (by decide)).mono ?_
  rintro e w11 ⟨rfl, hb⟩
  have HB11 := Lib.hid (HB10.out.trans (hb.mono HB10.out.size))
  clear hb
  go_wp2_with fail
  refine (compare_lit p2 p3 (-1) C1.out _).mono ?_
  rintro e w12 ⟨rfl, hb⟩
  have HB12 := Lib.hid (HB11.out.trans (hb.mono HB11.out.size))
  clear hb
  go_wp2_with fail
  refine (of_lit _ p5 HP5.out _ (by decide) (by decide)).mono ?_
  rintro e w13 ⟨rfl, hb⟩
  have HB13 := Lib.hid (HB12.out.trans (hb.mono HB12.out.size))
  clear hb
  go_wp2_with fail
  refine (neg_any p5 _).mono ?_
  rintro e w14 ⟨rfl, hb⟩
  have HB14 := Lib.hid (HB13.out.trans (hb.mono HB13.out.size))
  clear hb
  go_wp2_with fail
  refine (of_lit _ m5 HM5.out _ (by decide) (by decide)).mono ?_
  rintro e w15 ⟨rfl, hb⟩
  have HB15 := Lib.hid (HB14.out.trans (hb.mono HB14.out.size))
  clear hb
  go_wp2_with fail
  refine (compare_lit (-p5) m5 0 C2.out _).mono ?_
  rintro e w16 ⟨rfl, hb⟩
  have HB16 := Lib.hid (HB15.out.trans (hb.mono HB15.out.size))
  clear hb
  go_wp2
  go_ret
  exact ⟨rfl, HB16.out⟩
end Go.Proofs.Ytfcllangolinaaa
