/- The walk of ValInts. -/
import Derived.Test.YtkgjfedpjbnjkaaDoorO
namespace Go.Proofs.YtkgjfedpjbnjkaaDoor
open Go Go.RowKit

theorem cmp_ints (a b : Int) : cmpV 1 a [] 1 b [] = Lib.compareInt a b := by
  have hk : Lib.compareInt 1 1 = 0 := rfl
  rcases ci_cases a b with ⟨h, _⟩ | ⟨h, _⟩ | ⟨h, _⟩ <;> simp [cmpV, or3, h, hk, Lib.compareBytes]
theorem cmp_texts (l m : List UInt8) : cmpV 2 0 l 2 0 m = Lib.compareBytes l m := by
  have hk : ∀ x, Lib.compareInt x x = 0 := fun x => by simp [Lib.compareInt]
  simp [cmpV, or3, hk]
theorem cmp_mixed (a : Int) (l : List UInt8) : cmpV 1 a [] 2 0 l = -1 := by
  have hk : Lib.compareInt 1 2 = -1 := rfl
  simp [cmpV, or3, hk]
theorem cmp_null (a : Int) : cmpV 0 0 [] 1 a [] = -1 := by
  have hk : Lib.compareInt 0 1 = -1 := rfl
  simp [cmpV, or3, hk]

/-- What the walk is told of the two texts: they stand below, alike, above. -/
def TextsAre (x y : ByteArray) (d : Int) (lt eq : Bool) : Prop :=
  Lib.compareBytes x.data.toList y.data.toList = d ∧ Op.bytesLess x.toList y.toList = lt ∧ (x.toList == y.toList) = eq
theorem texts_are (x y : ByteArray) : TextsAre x y (-1) true false ∨ TextsAre x y 0 false true ∨ TextsAre x y 1 false false := by
  unfold TextsAre
  rw [ByteArray.toList_eq, ByteArray.toList_eq]
  rcases cb_cases x.data.toList y.data.toList with ⟨h1, h2, h3⟩ | ⟨h1, h2, h3⟩ | ⟨h1, h2, h3⟩
  · exact .inl ⟨h1, h2, beq_eq_false_iff_ne.2 h3⟩
  · exact .inr (.inl ⟨h1, h3, beq_iff_eq.2 h2⟩)
  · exact .inr (.inr ⟨h1, h2, beq_eq_false_iff_ne.2 h3⟩)

set_option maxHeartbeats 8000000 in
theorem valInts_core (a b : Int) (s t : ByteArray) (w : World) (hs : s.size ≤ maxLen) (ht2 : t.size ≤ maxLen) (ht : TabAt w) (p : Int) (q : Int) (lt eq : Bool)
    (ha : (p = -1 ∧ a < b) ∨ (p = 0 ∧ ¬ a < b ∧ ¬ b < a) ∨ (p = 1 ∧ b < a)) (hp : Lib.compareInt a b = p) (hq : (q = -1 ∧ lt = true ∧ eq = false) ∨ (q = 0 ∧ lt = false ∧ eq = true) ∨ (q = 1 ∧ lt = false ∧ eq = false)) (htx : TextsAre (cutB 12 s) (cutB 12 t) q lt eq) :
    Calls Tryd.prog 9 #[.int .i64 a, .int .i64 b, .string s, .string t] w fun e w' => e = .returned (.bool true) ∧ Below w.heap.size w w' := by
  have HT := Lib.hid ht
  clear ht
  obtain ⟨hx1, hx2, hx3⟩ := htx
  have H1 := Lib.hid ((cmp_ints a b).trans hp)
  have H2 := Lib.hid ((cmp_texts (cutB 12 s).data.toList (cutB 12 t).data.toList).trans hx1)
  have H3 := Lib.hid (cmp_mixed a (cutB 12 s).data.toList)
  have H4 := Lib.hid (cmp_null a)
  have H5 : Hid (testV 4 1 a [] 1 b [] = decide (p ≤ 0)) := by
    show testV 4 1 a [] 1 b [] = decide (p ≤ 0)
    simp [testV, holdsV, cmp_ints, hp]
  have H6 : Hid (testV 5 2 0 (cutB 12 s).data.toList 2 0 (cutB 12 t).data.toList = decide (0 < q)) := by
    show testV 5 2 0 (cutB 12 s).data.toList 2 0 (cutB 12 t).data.toList = decide (0 < q)
    simp [testV, holdsV, cmp_texts, hx1]
  clear hx1 hp
  rcases ha with ⟨rfl, ha⟩ | ⟨rfl, ha, ha'⟩ | ⟨rfl, ha⟩ <;> rcases hq with ⟨rfl, rfl, rfl⟩ | ⟨rfl, rfl, rfl⟩ | ⟨rfl, rfl, rfl⟩
  all_goals
    have HB0 := Lib.hid (Below.refl w.heap.size w)
    go_enter Tryd.func9, Tryd.ntmps9
    go_wp2_with fail
    refine (begun_any _ HT.out).mono ?_
    rintro e w1 ⟨rfl, hb1⟩
    have HB1 := Lib.hid (HB0.out.trans (hb1.mono HB0.out.size))
    clear hb1
    go_wp2_with fail
    refine (cut_any _ _ _ hs (by omega) (by omega)).mono ?_
    rintro e wz ⟨rfl, rfl⟩
    go_wp2_with fail
    refine (cut_any _ _ _ ht2 (by omega) (by omega)).mono ?_
    rintro e wz ⟨rfl, rfl⟩
    rw [show (12 : Int).toNat = 12 from rfl]
    go_wp2_with fail
    refine (num_any a _).mono ?_
    rintro e w2 ⟨rfl, hb2⟩
    have HB2 := Lib.hid (HB1.out.trans (hb2.mono HB1.out.size))
    clear hb2
    go_wp2_with fail
    refine (num_any b _).mono ?_
    rintro e w3 ⟨rfl, hb3⟩
    have HB3 := Lib.hid (HB2.out.trans (hb3.mono HB2.out.size))
    clear hb3
    go_wp2_with fail
    refine (compare_is 1 a ⟨#[]⟩ 1 b ⟨#[]⟩ _ _ H1.out).mono ?_
    rintro e w4 ⟨rfl, hb4⟩
    have HB4 := Lib.hid (HB3.out.trans (hb4.mono HB3.out.size))
    clear hb4
    go_wp2_with fail
    refine (text_any _ _).mono ?_
    rintro e w5 ⟨rfl, hb5⟩
    have HB5 := Lib.hid (HB4.out.trans (hb5.mono HB4.out.size))
    clear hb5
    go_wp2_with fail
    refine (text_any _ _).mono ?_
    rintro e w6 ⟨rfl, hb6⟩
    have HB6 := Lib.hid (HB5.out.trans (hb6.mono HB5.out.size))
    clear hb6
    go_wp2_with fail
    refine (compare_is 2 0 _ 2 0 _ _ _ H2.out).mono ?_
    rintro e w7 ⟨rfl, hb7⟩
    have HB7 := Lib.hid (HB6.out.trans (hb7.mono HB6.out.size))
    clear hb7
    go_wp2_with fail
    refine (num_any a _).mono ?_
    rintro e w8 ⟨rfl, hb8⟩
    have HB8 := Lib.hid (HB7.out.trans (hb8.mono HB7.out.size))
    clear hb8
    go_wp2_with fail
    refine (text_any _ _).mono ?_
    rintro e w9 ⟨rfl, hb9⟩
    have HB9 := Lib.hid (HB8.out.trans (hb9.mono HB8.out.size))
    clear hb9
    go_wp2_with fail
    refine (compare_is 1 a ⟨#[]⟩ 2 0 _ _ _ H3.out).mono ?_
    rintro e w10 ⟨rfl, hb10⟩
    have HB10 := Lib.hid (HB9.out.trans (hb10.mono HB9.out.size))
    clear hb10
    go_wp2_with fail
    refine (num_any a _).mono ?_
    rintro e w11 ⟨rfl, hb11⟩
    have HB11 := Lib.hid (HB10.out.trans (hb11.mono HB10.out.size))
    clear hb11
    go_wp2_with fail
    refine (compare_is 0 0 ⟨#[]⟩ 1 a ⟨#[]⟩ _ _ H4.out).mono ?_
    rintro e w12 ⟨rfl, hb12⟩
    have HB12 := Lib.hid (HB11.out.trans (hb12.mono HB11.out.size))
    clear hb12
    go_wp2_with fail
    refine (num_any a _).mono ?_
    rintro e w13 ⟨rfl, hb13⟩
    have HB13 := Lib.hid (HB12.out.trans (hb13.mono HB12.out.size))
    clear hb13
    go_wp2_with fail
    refine (num_any b _).mono ?_
    rintro e w14 ⟨rfl, hb14⟩
    have HB14 := Lib.hid (HB13.out.trans (hb14.mono HB13.out.size))
    clear hb14
    go_wp2_with fail
    refine (test_is 4 1 a ⟨#[]⟩ 1 b ⟨#[]⟩ _ _ H5.out).mono ?_
    rintro e w15 ⟨rfl, hb15⟩
    have HB15 := Lib.hid (HB14.out.trans (hb15.mono HB14.out.size))
    clear hb15
    go_wp2_with fail
    refine (text_any _ _).mono ?_
    rintro e w16 ⟨rfl, hb16⟩
    have HB16 := Lib.hid (HB15.out.trans (hb16.mono HB15.out.size))
    clear hb16
    go_wp2_with fail
    refine (text_any _ _).mono ?_
    rintro e w17 ⟨rfl, hb17⟩
    have HB17 := Lib.hid (HB16.out.trans (hb17.mono HB16.out.size))
    clear hb17
    go_wp2_with fail
    refine (test_is 5 2 0 _ 2 0 _ _ _ H6.out).mono ?_
    rintro e w18 ⟨rfl, hb18⟩
    have HB18 := Lib.hid (HB17.out.trans (hb18.mono HB17.out.size))
    clear hb18
    go_wp2_with fail
    go_ret
    refine ⟨ret_bool ?_, HB18.out⟩
    first | rfl | (simp; omega) | simp

theorem valInts_walk (a b : Int) (s t : ByteArray) (_h1 : -9223372036854775808 ≤ a) (_h2 : a ≤ 9223372036854775807) (_h3 : -9223372036854775808 ≤ b) (_h4 : b ≤ 9223372036854775807) (hs : s.size ≤ maxLen) (ht2 : t.size ≤ maxLen) (w : World) (ht : TabAt w) :
    Calls Tryd.prog 9 #[.int .i64 a, .int .i64 b, .string s, .string t] w fun e w' => e = .returned (.bool true) ∧ Below w.heap.size w w' := by
  rcases ci_cases a b with ⟨h, h'⟩ | ⟨h, h'⟩ | ⟨h, h'⟩ <;> rcases texts_are (cutB 12 s) (cutB 12 t) with g | g | g
  all_goals exact valInts_core a b s t w hs ht2 ht _ _ _ _ (by omega) h (by decide) g
end Go.Proofs.YtkgjfedpjbnjkaaDoor
