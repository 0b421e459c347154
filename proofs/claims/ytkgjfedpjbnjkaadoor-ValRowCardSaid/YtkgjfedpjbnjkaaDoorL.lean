/- Contracts: rows. -/
import Derived.Test.YtkgjfedpjbnjkaaDoorF
import Derived.Test.YtkgjfedpjbnjkaaDoorK
namespace Go.Proofs.YtkgjfedpjbnjkaaDoor
open Go Go.RowKit

abbrev T3 := Int × Int × ByteArray
def cmpT (a b : T3) : Int := cmpV a.1 a.2.1 a.2.2.data.toList b.1 b.2.1 b.2.2.data.toList
/-- The order of rows. -/
def rowC : List T3 → List T3 → Int
  | [], [] => 0
  | [], _ :: _ => -1
  | _ :: _, [] => 1
  | a :: al, b :: bl => if cmpT a b = 0 then rowC al bl else cmpT a b

theorem rowC_step (xs ys : List T3) (k : Nat) (hx : k < xs.length) (hy : k < ys.length) :
    rowC (xs.drop k) (ys.drop k) = if cmpT xs[k] ys[k] = 0 then rowC (xs.drop (k + 1)) (ys.drop (k + 1)) else cmpT xs[k] ys[k] := by
  rw [List.drop_eq_getElem_cons hx, List.drop_eq_getElem_cons hy]; rfl
theorem rowC_more (xs ys : List T3) (k : Nat) (hx : k < xs.length) (hy : ys.length ≤ k) : rowC (xs.drop k) (ys.drop k) = 1 := by
  rw [List.drop_eq_getElem_cons hx, List.drop_of_length_le hy]; rfl
theorem rowC_end (xs ys : List T3) (k : Nat) (hx : xs.length ≤ k) : rowC (xs.drop k) (ys.drop k) = if k < ys.length then -1 else 0 := by
  rw [List.drop_of_length_le hx]
  by_cases h : k < ys.length
  · rw [List.drop_eq_getElem_cons h, if_pos h]; rfl
  · rw [List.drop_of_length_le (by omega), if_neg h]; rfl

/-- Where a row lies: at the head of block g, three cells a value. -/
def RowAt (w : World) (g : Nat) (xs : List T3) : Prop :=
  g < w.heap.size ∧ ∀ i (h : i < xs.length), w.cell? ⟨g, i * 3, none⟩ = some (.int .i64 xs[i].1) ∧ w.cell? ⟨g, i * 3 + 1, none⟩ = some (.int .i64 xs[i].2.1) ∧ w.cell? ⟨g, i * 3 + 2, none⟩ = some (.string xs[i].2.2)
theorem RowAt.on {w w' : World} {g : Nat} {xs : List T3} (h : RowAt w g xs) (hb : Below w.heap.size w w') : RowAt w' g xs := by
  obtain ⟨hc, _⟩ := bcell hb
  refine ⟨Nat.lt_of_lt_of_le h.1 hb.size, fun i hi => ?_⟩
  rw [hc _ _ h.1, hc _ _ h.1, hc _ _ h.1]
  exact h.2 i hi

theorem cell_alloc {W : World} {a : Addr} {v : Value} (o : Obj) (h : W.cell? a = some v) : (W.alloc o).cell? a = some v := by
  have hb := World.block_lt_of_cell? _ _ h
  rw [(below_alloc1 W o).cell hb]; exact h

set_option maxHeartbeats 1000000 in
theorem cmpFunc_any (g1 g2 c1 c2 : Nat) (xs ys : List T3) (w : World) (hx : xs.length ≤ maxLen) (_hy : ys.length ≤ maxLen) (h1 : RowAt w g1 xs) (h2 : RowAt w g2 ys) :
    Calls Tryd.prog 39 #[.slice (some ⟨g1, 0, none⟩) xs.length c1, .slice (some ⟨g2, 0, none⟩) ys.length c2, .func (.func 15) #[] #[]] w fun e w' => e = .returned (.int .i64 (rowC xs ys)) ∧ Below w.heap.size w w' := by
  unfold maxLen at hx _hy
  have R1 := Lib.hid h1
  have R2 := Lib.hid h2
  clear h1 h2
  go_enter Tryd.func39, Tryd.ntmps39
  go_wp2
  go_loopw [13] (fun i w1 => ∃ k : Nat, k ≤ xs.length ∧ i = .int .i64 k ∧ rowC xs ys = rowC (xs.drop k) (ys.drop k) ∧ Below w.heap.size w w1) (fun i _ => xs.length - (intOf i).toNat)
  case atStart => exact ⟨0, Nat.zero_le _, rfl, rfl, Below.refl _ _⟩
  case round =>
    obtain ⟨k, hk, rfl, hd, hb⟩ := hrel
    have H := Lib.hid hd
    clear hd
    by_cases hlt : k < xs.length
    · obtain ⟨a0, a1, a2⟩ := ((R1.out).on hb).2 k hlt
      by_cases hlt2 : k < ys.length
      · obtain ⟨b0, b1, b2⟩ := ((R2.out).on hb).2 k hlt2
        have hst := rowC_step xs ys k hlt hlt2
        generalize xs[k] = x at a0 a1 a2 hst
        generalize ys[k] = y at b0 b1 b2 hst
        obtain ⟨k1, n1, s1⟩ := x
        obtain ⟨k2, n2, s2⟩ := y
        have ST := Lib.hid hst
        clear hst
        simp only at a0 a1 a2 b0 b1 b2
        have d0 := fun o => cell_alloc o b0
        have d1 := fun o => cell_alloc o b1
        have d2 := fun o => cell_alloc o b2
        cases hz : cmpV k1 n1 s1.data.toList k2 n2 s2.data.toList == 0
        · have HZ := Lib.hid hz
          go_wp2_with fail
          refine (compare_any _ _ _ _ _ _ _).mono ?_
          rintro e w2 ⟨rfl, hb2⟩
          have hsz : wr.heap.size ≤ w2.heap.size := by have := hb2.size; simp at this; omega
          have hw2 : Below w.heap.size w w2 := (((hb.alloc hb.size _).alloc (by have := hb.size; simp; omega) _).trans (hb2.mono (by have := hb.size; simp; omega)))
          have HW := Lib.hid hw2
          clear hw2 hb2
          go_wp2
          go_ret
          exact ⟨ret_int (by rw [H.out, ST.out, if_neg (by simpa [cmpT] using HZ.out)]; rfl), HW.out⟩
        · have HZ := Lib.hid hz
          go_wp2_with fail
          refine (compare_any _ _ _ _ _ _ _).mono ?_
          rintro e w2 ⟨rfl, hb2⟩
          have hw2 : Below w.heap.size w w2 := (((hb.alloc hb.size _).alloc (by have := hb.size; simp; omega) _).trans (hb2.mono (by have := hb.size; simp; omega)))
          have HW := Lib.hid hw2
          clear hw2 hb2
          go_wp2
          exact ⟨⟨k + 1, by omega, by go_num, by rw [H.out, ST.out, if_pos (by simpa [cmpT] using HZ.out)], HW.out⟩, by simp [intOf]; omega⟩
      · have hm := rowC_more xs ys k hlt (by omega)
        have HM := Lib.hid hm
        clear hm
        have hw2 : Below w.heap.size w (wr.alloc (.cells #[.int .i64 xs[k].1, .int .i64 xs[k].2.1, .string xs[k].2.2] 23)) := hb.alloc hb.size _
        generalize xs[k] = x at a0 a1 a2 hw2
        obtain ⟨k1, n1, s1⟩ := x
        simp only at a0 a1 a2 hw2
        have HW := Lib.hid hw2
        clear hw2
        go_wp2
        go_ret
        exact ⟨ret_int (by rw [H.out, HM.out]), HW.out⟩
    · have hm := rowC_end xs ys k (by omega)
      obtain rfl : k = xs.length := by omega
      by_cases hlt2 : xs.length < ys.length
      · rw [if_pos hlt2] at hm
        have HM := Lib.hid hm
        clear hm
        go_wp2
        go_ret
        exact ⟨ret_int (by rw [H.out, HM.out]), hb⟩
      · rw [if_neg hlt2] at hm
        have HM := Lib.hid hm
        clear hm
        go_wp2
        go_ret
        exact ⟨ret_int (by rw [H.out, HM.out]), hb⟩

theorem row_any (g1 g2 c1 c2 : Nat) (xs ys : List T3) (w : World) (hx : xs.length ≤ maxLen) (hy : ys.length ≤ maxLen) (h1 : RowAt w g1 xs) (h2 : RowAt w g2 ys) :
    Calls Tryd.prog 24 #[.slice (some ⟨g1, 0, none⟩) xs.length c1, .slice (some ⟨g2, 0, none⟩) ys.length c2] w fun e w' => e = .returned (.int .i64 (rowC xs ys)) ∧ Below w.heap.size w w' := by
  go_enter Tryd.func24, Tryd.ntmps24
  go_wp2_with (go_at_call 39; refine (cmpFunc_any _ _ _ _ _ _ _ hx hy h1 h2).mono ?_; rintro e w' ⟨rfl, hb⟩)
  go_ret
  exact ⟨rfl, hb⟩
end Go.Proofs.YtkgjfedpjbnjkaaDoor
