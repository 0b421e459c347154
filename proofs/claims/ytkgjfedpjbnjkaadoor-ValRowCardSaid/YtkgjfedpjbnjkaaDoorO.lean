/- The contract of begun: it answers true, and nothing that was there is turned. -/
import Derived.Test.YtkgjfedpjbnjkaaDoorI
import Derived.Test.YtkgjfedpjbnjkaaDoorL
namespace Go.Proofs.YtkgjfedpjbnjkaaDoor
open Go Go.RowKit

theorem may_is (k n : Int) (s : ByteArray) (b : Bool) (w : World) (hs : s.size ≤ maxLen) (h : mayV k n s.data.toList = b) :
    Calls Tryd.prog 13 #[.agg #[.int .i64 k, .int .i64 n, .string s]] w fun e w' => e = .returned (.bool b) ∧ Below w.heap.size w w' := by
  subst h; exact may_any k n s w hs
theorem compare_is (k1 n1 : Int) (s1 : ByteArray) (k2 n2 : Int) (s2 : ByteArray) (c : Int) (w : World) (h : cmpV k1 n1 s1.data.toList k2 n2 s2.data.toList = c) :
    Calls Tryd.prog 15 #[.agg #[.int .i64 k1, .int .i64 n1, .string s1], .agg #[.int .i64 k2, .int .i64 n2, .string s2]] w fun e w' => e = .returned (.int .i64 c) ∧ Below w.heap.size w w' := by
  subst h; exact compare_any k1 n1 s1 k2 n2 s2 w
theorem eq_is (k1 n1 : Int) (s1 : ByteArray) (k2 n2 : Int) (s2 : ByteArray) (b : Bool) (w : World) (h : (cmpV k1 n1 s1.data.toList k2 n2 s2.data.toList == 0) = b) :
    Calls Tryd.prog 17 #[.agg #[.int .i64 k1, .int .i64 n1, .string s1], .agg #[.int .i64 k2, .int .i64 n2, .string s2]] w fun e w' => e = .returned (.bool b) ∧ Below w.heap.size w w' := by
  subst h; exact eq_any k1 n1 s1 k2 n2 s2 w
theorem test_is (op k1 n1 : Int) (s1 : ByteArray) (k2 n2 : Int) (s2 : ByteArray) (b : Bool) (w : World) (h : testV op k1 n1 s1.data.toList k2 n2 s2.data.toList = b) :
    Calls Tryd.prog 19 #[.int .i64 op, .agg #[.int .i64 k1, .int .i64 n1, .string s1], .agg #[.int .i64 k2, .int .i64 n2, .string s2]] w fun e w' => e = .returned (.bool b) ∧ Below w.heap.size w w' := by
  subst h; exact test_any op k1 n1 s1 k2 n2 s2 w
theorem text_is (k n : Int) (s : ByteArray) (r : ByteArray) (w : World) (h0 : -9223372036854775808 ≤ n) (h1 : n ≤ 9223372036854775807) (hs : s.size ≤ 1000) (ht : TabAt w) (hm : mayV k n s.data.toList = true) (h : textV k n s = r) :
    Calls Tryd.prog 21 #[.agg #[.int .i64 k, .int .i64 n, .string s]] w fun e w' => e = .returned (.string r) ∧ Below w.heap.size w w' := by
  subst h; exact valText_any k n s w h0 h1 hs ht hm
theorem name_is (s : ByteArray) (b : Bool) (w : World) (hs : s.size ≤ maxLen) (h : nameB s.data.toList = b) :
    Calls Tryd.prog 27 #[.string s] w fun e w' => e = .returned (.bool b) ∧ Below w.heap.size w w' := by
  subst h; exact (name_any s w hs).mono fun _ _ ⟨he, hw⟩ => ⟨he, by rw [← hw]; exact Below.refl _ _⟩
theorem row_is (g1 g2 l1 l2 c1 c2 : Nat) (xs ys : List T3) (c : Int) (w : World) (hl1 : xs.length = l1) (hl2 : ys.length = l2) (hx : l1 ≤ maxLen) (hy : l2 ≤ maxLen) (h1 : RowAt w g1 xs) (h2 : RowAt w g2 ys) (h : rowC xs ys = c) :
    Calls Tryd.prog 24 #[.slice (some ⟨g1, 0, none⟩) l1 c1, .slice (some ⟨g2, 0, none⟩) l2 c2] w fun e w' => e = .returned (.int .i64 c) ∧ Below w.heap.size w w' := by
  subst hl1 hl2 h; exact row_any g1 g2 c1 c2 xs ys w hx hy h1 h2
theorem row_new (w : World) (x : T3) : RowAt (w.alloc (.cells #[.int .i64 x.1, .int .i64 x.2.1, .string x.2.2] 23)) w.heap.size [x] := by
  refine ⟨by simp, fun i hi => ?_⟩
  obtain rfl : i = 0 := by simpa using hi
  rw [World.cell?_alloc_mark, World.cell?_alloc_mark, World.cell?_alloc_mark]
  exact ⟨rfl, rfl, rfl⟩
theorem row_new2 (w : World) (x y : T3) : RowAt (w.alloc (.cells #[.int .i64 x.1, .int .i64 x.2.1, .string x.2.2, .int .i64 y.1, .int .i64 y.2.1, .string y.2.2] 23)) w.heap.size [x, y] := by
  refine ⟨by simp, fun i hi => ?_⟩
  rw [World.cell?_alloc_mark, World.cell?_alloc_mark, World.cell?_alloc_mark]
  rcases (by simp at hi; omega : i = 0 ∨ i = 1) with rfl | rfl
  · exact ⟨rfl, rfl, rfl⟩
  · exact ⟨rfl, rfl, rfl⟩
theorem itoa_m3 : (⟨(Lib.itoa (-3)).toArray⟩ : ByteArray) = ⟨#[45, 51]⟩ := by
  unfold Lib.itoa
  rw [if_pos (by decide)]
  rw [show (-3 : Int).natAbs = 3 from rfl, Lib.decDigits_one (by decide)]
  rfl

set_option maxRecDepth 100000 in
set_option maxHeartbeats 4000000 in
theorem begun_any (w : World) (ht : TabAt w) :
    Calls Tryd.prog 11 #[] w fun e w' => e = .returned (.bool true) ∧ Below w.heap.size w w' := by
  have HT := Lib.hid ht
  have HB0 := Lib.hid (Below.refl w.heap.size w)
  clear ht
  go_enter Tryd.func11, Tryd.ntmps11
  go_wp2_with fail
  refine (num_any (1) _).mono ?_
  rintro e w1 ⟨rfl, hb1⟩
  have HB1 := Lib.hid (HB0.out.trans (hb1.mono HB0.out.size))
  clear hb1
  go_wp2_with fail
  refine (may_is 1 1 ⟨#[]⟩ true _ (by decide) (by decide)).mono ?_
  rintro e w2 ⟨rfl, hb2⟩
  have HB2 := Lib.hid (HB1.out.trans (hb2.mono HB1.out.size))
  clear hb2
  go_wp2_with fail
  refine (text_any ⟨#[39]⟩ _).mono ?_
  rintro e w3 ⟨rfl, hb3⟩
  have HB3 := Lib.hid (HB2.out.trans (hb3.mono HB2.out.size))
  clear hb3
  go_wp2_with fail
  refine (may_is 2 0 ⟨#[39]⟩ false _ (by decide) (by decide)).mono ?_
  rintro e w4 ⟨rfl, hb4⟩
  have HB4 := Lib.hid (HB3.out.trans (hb4.mono HB3.out.size))
  clear hb4
  go_wp2_with fail
  refine (num_any (-5) _).mono ?_
  rintro e w5 ⟨rfl, hb5⟩
  have HB5 := Lib.hid (HB4.out.trans (hb5.mono HB4.out.size))
  clear hb5
  go_wp2_with fail
  refine (compare_is 0 0 ⟨#[]⟩ 1 (-5) ⟨#[]⟩ (-1) _ (by decide)).mono ?_
  rintro e w6 ⟨rfl, hb6⟩
  have HB6 := Lib.hid (HB5.out.trans (hb6.mono HB5.out.size))
  clear hb6
  go_wp2_with fail
  refine (text_any ⟨#[97]⟩ _).mono ?_
  rintro e w7 ⟨rfl, hb7⟩
  have HB7 := Lib.hid (HB6.out.trans (hb7.mono HB6.out.size))
  clear hb7
  go_wp2_with fail
  refine (num_any (9) _).mono ?_
  rintro e w8 ⟨rfl, hb8⟩
  have HB8 := Lib.hid (HB7.out.trans (hb8.mono HB7.out.size))
  clear hb8
  go_wp2_with fail
  refine (compare_is 2 0 ⟨#[97]⟩ 1 9 ⟨#[]⟩ 1 _ (by decide)).mono ?_
  rintro e w9 ⟨rfl, hb9⟩
  have HB9 := Lib.hid (HB8.out.trans (hb9.mono HB8.out.size))
  clear hb9
  go_wp2_with fail
  refine (text_any ⟨#[97]⟩ _).mono ?_
  rintro e w10 ⟨rfl, hb10⟩
  have HB10 := Lib.hid (HB9.out.trans (hb10.mono HB9.out.size))
  clear hb10
  go_wp2_with fail
  refine (text_any ⟨#[97]⟩ _).mono ?_
  rintro e w11 ⟨rfl, hb11⟩
  have HB11 := Lib.hid (HB10.out.trans (hb11.mono HB10.out.size))
  clear hb11
  go_wp2_with fail
  refine (eq_is 2 0 ⟨#[97]⟩ 2 0 ⟨#[97]⟩ true _ (by decide)).mono ?_
  rintro e w12 ⟨rfl, hb12⟩
  have HB12 := Lib.hid (HB11.out.trans (hb12.mono HB11.out.size))
  clear hb12
  go_wp2_with fail
  refine (num_any (1) _).mono ?_
  rintro e w13 ⟨rfl, hb13⟩
  have HB13 := Lib.hid (HB12.out.trans (hb13.mono HB12.out.size))
  clear hb13
  go_wp2_with fail
  refine (num_any (2) _).mono ?_
  rintro e w14 ⟨rfl, hb14⟩
  have HB14 := Lib.hid (HB13.out.trans (hb14.mono HB13.out.size))
  clear hb14
  go_wp2_with fail
  refine (eq_is 1 1 ⟨#[]⟩ 1 2 ⟨#[]⟩ false _ (by decide)).mono ?_
  rintro e w15 ⟨rfl, hb15⟩
  have HB15 := Lib.hid (HB14.out.trans (hb15.mono HB14.out.size))
  clear hb15
  go_wp2_with fail
  refine (num_any (1) _).mono ?_
  rintro e w16 ⟨rfl, hb16⟩
  have HB16 := Lib.hid (HB15.out.trans (hb16.mono HB15.out.size))
  clear hb16
  go_wp2_with fail
  refine (num_any (2) _).mono ?_
  rintro e w17 ⟨rfl, hb17⟩
  have HB17 := Lib.hid (HB16.out.trans (hb17.mono HB16.out.size))
  clear hb17
  go_wp2_with fail
  refine (test_is 3 1 1 ⟨#[]⟩ 1 2 ⟨#[]⟩ true _ (by decide)).mono ?_
  rintro e w18 ⟨rfl, hb18⟩
  have HB18 := Lib.hid (HB17.out.trans (hb18.mono HB17.out.size))
  clear hb18
  go_wp2_with fail
  refine (num_any (2) _).mono ?_
  rintro e w19 ⟨rfl, hb19⟩
  have HB19 := Lib.hid (HB18.out.trans (hb19.mono HB18.out.size))
  clear hb19
  go_wp2_with fail
  refine (test_is 2 0 0 ⟨#[]⟩ 1 2 ⟨#[]⟩ false _ (by decide)).mono ?_
  rintro e w20 ⟨rfl, hb20⟩
  have HB20 := Lib.hid (HB19.out.trans (hb20.mono HB19.out.size))
  clear hb20
  go_wp2_with fail
  refine (num_any (0) _).mono ?_
  rintro e w21 ⟨rfl, hb21⟩
  have HB21 := Lib.hid (HB20.out.trans (hb21.mono HB20.out.size))
  clear hb21
  go_wp2_with fail
  refine (test_is 7 0 0 ⟨#[]⟩ 1 0 ⟨#[]⟩ true _ (by decide)).mono ?_
  rintro e w22 ⟨rfl, hb22⟩
  have HB22 := Lib.hid (HB21.out.trans (hb22.mono HB21.out.size))
  clear hb22
  go_wp2_with fail
  refine (text_any ⟨#[97, 32, 98]⟩ _).mono ?_
  rintro e w23 ⟨rfl, hb23⟩
  have HB23 := Lib.hid (HB22.out.trans (hb23.mono HB22.out.size))
  clear hb23
  go_wp2_with fail
  refine (text_is 2 0 ⟨#[97, 32, 98]⟩ ⟨#[39, 97, 32, 98, 39]⟩ _ (by decide) (by decide) (by decide) (tab_on HT.out HB23.out) (by decide) (by decide)).mono ?_
  rintro e w24 ⟨rfl, hb24⟩
  have HB24 := Lib.hid (HB23.out.trans (hb24.mono HB23.out.size))
  clear hb24
  go_wp2_with fail
  refine (num_any (-3) _).mono ?_
  rintro e w25 ⟨rfl, hb25⟩
  have HB25 := Lib.hid (HB24.out.trans (hb25.mono HB24.out.size))
  clear hb25
  go_wp2_with fail
  refine (text_is 1 (-3) ⟨#[]⟩ ⟨#[45, 51]⟩ _ (by decide) (by decide) (by decide) (tab_on HT.out HB25.out) (by decide) itoa_m3).mono ?_
  rintro e w26 ⟨rfl, hb26⟩
  have HB26 := Lib.hid (HB25.out.trans (hb26.mono HB25.out.size))
  clear hb26
  go_wp2_with fail
  refine (num_any (1) _).mono ?_
  rintro e w27 ⟨rfl, hb27⟩
  have HB27 := Lib.hid (HB26.out.trans (hb27.mono HB26.out.size))
  clear hb27
  have r1 := row_new w27 (1, 1, ⟨#[]⟩)
  have R1 := Lib.hid r1
  have HA27 := Lib.hid (HB27.out.alloc HB27.out.size (.cells #[.int .i64 1, .int .i64 1, .string ⟨#[]⟩] 23))
  clear r1
  go_wp2_with fail
  refine (num_any (1) _).mono ?_
  rintro e w28 ⟨rfl, hb28⟩
  have R2 := Lib.hid (R1.out.on hb28)
  have HB28 := Lib.hid (HA27.out.trans (hb28.mono HA27.out.size))
  clear hb28
  go_wp2_with fail
  refine (num_any (0) _).mono ?_
  rintro e w29 ⟨rfl, hb29⟩
  have R3 := Lib.hid (R2.out.on hb29)
  have HB29 := Lib.hid (HB28.out.trans (hb29.mono HB28.out.size))
  clear hb29
  have HA29 := Lib.hid (HB29.out.alloc HB29.out.size (.cells #[.int .i64 1, .int .i64 1, .string ⟨#[]⟩, .int .i64 1, .int .i64 0, .string ⟨#[]⟩] 23))
  have R4 := Lib.hid (R3.out.on (below_alloc1 w29 (.cells #[.int .i64 1, .int .i64 1, .string ⟨#[]⟩, .int .i64 1, .int .i64 0, .string ⟨#[]⟩] 23)))
  have r5 := row_new2 w29 (1, 1, ⟨#[]⟩) (1, 0, ⟨#[]⟩)
  have R5 := Lib.hid r5
  clear r5
  go_wp2_with fail
  refine (row_is _ _ 1 2 _ _ [(1, 1, ⟨#[]⟩)] [(1, 1, ⟨#[]⟩), (1, 0, ⟨#[]⟩)] (-1) _ rfl rfl (by decide) (by decide) R4.out R5.out (by decide)).mono ?_
  rintro e w30 ⟨rfl, hb30⟩
  have HB30 := Lib.hid (HA29.out.trans (hb30.mono HA29.out.size))
  clear hb30
  go_wp2_with fail
  refine (name_is ⟨#[97, 95, 49]⟩ true _ (by decide) (by decide)).mono ?_
  rintro e w31 ⟨rfl, hb31⟩
  have HB31 := Lib.hid (HB30.out.trans (hb31.mono HB30.out.size))
  clear hb31
  go_wp2_with fail
  refine (name_is ⟨#[98, 121]⟩ false _ (by decide) (by decide)).mono ?_
  rintro e w32 ⟨rfl, hb32⟩
  have HB32 := Lib.hid (HB31.out.trans (hb32.mono HB31.out.size))
  clear hb32
  go_wp2_with fail
  go_ret
  exact ⟨rfl, HB32.out⟩
end Go.Proofs.YtkgjfedpjbnjkaaDoor
