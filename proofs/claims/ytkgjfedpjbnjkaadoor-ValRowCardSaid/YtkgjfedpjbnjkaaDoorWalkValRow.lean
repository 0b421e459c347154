/- The walk of ValRow. -/
import Derived.Test.YtkgjfedpjbnjkaaDoorV
import Derived.Test.YtkgjfedpjbnjkaaDoorY
import Derived.IntWalk
namespace Go.Proofs.YtkgjfedpjbnjkaaDoor
open Go Go.RowKit

theorem cmpT_swap (a b : T3) : cmpT a b = - cmpT b a := cmpV_swap _ _ _ _ _ _
theorem cmpT_self (a : T3) : cmpT a a = 0 := (cmpV_zero _ _ _ _ _ _).2 ⟨rfl, rfl, rfl⟩
theorem rowC_self : ∀ xs : List T3, rowC xs xs = 0
  | [] => by simp [rowC]
  | x :: r => by simp [rowC, cmpT_self, rowC_self r]
theorem rowC_swap : ∀ xs ys : List T3, rowC ys xs = - rowC xs ys
  | [], [] => by simp [rowC]
  | [], _ :: _ => by simp [rowC]
  | _ :: _, [] => by simp [rowC]
  | x :: r, y :: q => by
    have ih := rowC_swap r q
    have h := cmpT_swap y x
    simp only [rowC]
    by_cases e : cmpT x y = 0
    · rw [if_pos e, if_pos (by omega), ih]
    · rw [if_neg e, if_neg (by omega), h]
theorem rowC_range : ∀ xs ys : List T3, -1 ≤ rowC xs ys ∧ rowC xs ys ≤ 1
  | [], [] => by simp [rowC]
  | [], _ :: _ => by simp [rowC]
  | _ :: _, [] => by simp [rowC]
  | x :: r, y :: q => by
    have ih := rowC_range r q
    have h := cmpV_range x.1 x.2.1 x.2.2.data.toList y.1 y.2.1 y.2.2.data.toList
    simp only [rowC]
    by_cases e : cmpT x y = 0
    · rw [if_pos e]; exact ih
    · rw [if_neg e]; unfold cmpT; omega

theorem rowV_is (v1 v2 : Value) (xs ys : List T3) (c : Int) (w : World) (hx : xs.length ≤ maxLen) (hy : ys.length ≤ maxLen) (h1 : RowV w v1 xs) (h2 : RowV w v2 ys) (h : rowC xs ys = c) :
    Calls Tryd.prog 24 #[v1, v2] w fun e w' => e = .returned (.int .i64 c) ∧ Below w.heap.size w w' := by
  subst h; exact rowV_any v1 v2 xs ys w hx hy h1 h2
theorem refRowV_is (v1 v2 : Value) (xs ys : List T3) (c : Int) (w : World) (hx : xs.length ≤ maxLen) (hy : ys.length ≤ maxLen) (h1 : RowV w v1 xs) (h2 : RowV w v2 ys) (h : rowC xs ys = c) :
    Calls Tryd.prog 25 #[v1, v2] w fun e w' => e = .returned (.int .i64 c) ∧ Below w.heap.size w w' := by
  subst h; exact refRowV_any v1 v2 xs ys w hx hy h1 h2

set_option maxHeartbeats 4000000 in
theorem valRow_walk (v1 : Value) (xs : List T3) (v2 : Value) (ys : List T3) (w : World) (h1 : RowIn w v1 xs) (h2 : RowIn w v2 ys) (ht : TabAt w) :
    Calls Tryd.prog 5 #[v1, v2] w fun e w' => e = .returned (.bool true) ∧ Below w.heap.size w w' := by
  have HT := Lib.hid ht
  have H1 := Lib.hid h1
  have H2 := Lib.hid h2
  clear ht h1 h2
  have lx := Lib.hid (cutR_le xs)
  have ly := Lib.hid (cutR_le ys)
  obtain ⟨p, hp⟩ : ∃ p, p = rowC (cutR xs) (cutR ys) := ⟨_, rfl⟩
  have P1 : Hid (rowC (cutR xs) (cutR ys) = p) := hp.symm
  have P2 : Hid (rowC (cutR ys) (cutR xs) = -p) := by show _ = -p; rw [hp]; exact rowC_swap _ _
  have P3 := Lib.hid (rowC_self (cutR xs))
  have pb := rowC_range (cutR xs) (cutR ys)
  rw [← hp] at pb
  obtain ⟨pl, ph⟩ := pb
  clear hp
  have hwr : IntKind.i64.wrap (-p) = -p := IntWalk.i64_in _ (by omega)
  go_enter Tryd.func5, Tryd.ntmps5
  go_wp2_with fail
  refine (begun_any _ HT.out).mono ?_
  rintro e w1 ⟨rfl, hb1⟩
  have HB1 := Lib.hid hb1
  clear hb1
  go_wp2_with fail
  refine (vals_any _ xs _ (H1.out.on HB1.out)).mono ?_
  rintro e w2 ⟨va, rfl, ra, hb2⟩
  have A2 := Lib.hid ra
  have HB2 := Lib.hid (HB1.out.trans (hb2.mono HB1.out.size))
  clear ra hb2
  go_wp2_with fail
  refine (vals_any _ ys _ (H2.out.on HB2.out)).mono ?_
  rintro e w3 ⟨vb, rfl, rb, hb3⟩
  have A3 := Lib.hid (A2.out.on hb3)
  have B3 := Lib.hid rb
  have HB3 := Lib.hid (HB2.out.trans (hb3.mono HB2.out.size))
  clear rb hb3
  go_wp2_with fail
  refine (rowV_is _ _ _ _ p _ lx.out ly.out A3.out B3.out P1.out).mono ?_
  rintro e w4 ⟨rfl, hb4⟩
  have A4 := Lib.hid (A3.out.on hb4)
  have B4 := Lib.hid (B3.out.on hb4)
  have HB4 := Lib.hid (HB3.out.trans (hb4.mono HB3.out.size))
  clear hb4
  go_wp2_with fail
  refine (refRowV_is _ _ _ _ p _ lx.out ly.out A4.out B4.out P1.out).mono ?_
  rintro e w5 ⟨rfl, hb5⟩
  have A5 := Lib.hid (A4.out.on hb5)
  have B5 := Lib.hid (B4.out.on hb5)
  have HB5 := Lib.hid (HB4.out.trans (hb5.mono HB4.out.size))
  clear hb5
  go_wp2_with fail
  refine (rowV_is _ _ _ _ 0 _ lx.out lx.out A5.out A5.out P3.out).mono ?_
  rintro e w6 ⟨rfl, hb6⟩
  have A6 := Lib.hid (A5.out.on hb6)
  have B6 := Lib.hid (B5.out.on hb6)
  have HB6 := Lib.hid (HB5.out.trans (hb6.mono HB5.out.size))
  clear hb6
  go_wp2_with fail
  refine (rowV_is _ _ _ _ (-p) _ ly.out lx.out B6.out A6.out P2.out).mono ?_
  rintro e w7 ⟨rfl, hb7⟩
  have A7 := Lib.hid (A6.out.on hb7)
  have B7 := Lib.hid (B6.out.on hb7)
  have HB7 := Lib.hid (HB6.out.trans (hb7.mono HB6.out.size))
  clear hb7
  go_wp2_with fail
  refine (rowV_is _ _ _ _ p _ lx.out ly.out A7.out B7.out P1.out).mono ?_
  rintro e w8 ⟨rfl, hb8⟩
  have HB8 := Lib.hid (HB7.out.trans (hb8.mono HB7.out.size))
  clear hb8
  go_wp2_with fail
  go_ret
  exact ⟨ret_bool (by first | rfl | simp), HB8.out⟩
end Go.Proofs.YtkgjfedpjbnjkaaDoor
