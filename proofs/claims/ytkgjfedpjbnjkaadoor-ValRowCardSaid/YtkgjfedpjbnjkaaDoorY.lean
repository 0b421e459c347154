/- The reference's Row, of any rows. -/
import Derived.Test.YtkgjfedpjbnjkaaDoorX
namespace Go.Proofs.YtkgjfedpjbnjkaaDoor
open Go Go.RowKit

theorem held_row {w w' : World} {g1 g2 o1 o2 : Nat} {k1 n1 k2 n2 : Int} {s1 s2 : ByteArray}
    (h : g1 < w.heap.size ∧ g2 < w.heap.size ∧ w.cell? ⟨g1, o1, none⟩ = some (.int .i64 k1) ∧ w.cell? ⟨g1, o1 + 1, none⟩ = some (.int .i64 n1) ∧ w.cell? ⟨g1, o1 + 2, none⟩ = some (.string s1) ∧
      w.cell? ⟨g2, o2, none⟩ = some (.int .i64 k2) ∧ w.cell? ⟨g2, o2 + 1, none⟩ = some (.int .i64 n2) ∧ w.cell? ⟨g2, o2 + 2, none⟩ = some (.string s2)) (hb : Below w.heap.size w w') :
    g1 < w'.heap.size ∧ g2 < w'.heap.size ∧ w'.cell? ⟨g1, o1, none⟩ = some (.int .i64 k1) ∧ w'.cell? ⟨g1, o1 + 1, none⟩ = some (.int .i64 n1) ∧ w'.cell? ⟨g1, o1 + 2, none⟩ = some (.string s1) ∧
      w'.cell? ⟨g2, o2, none⟩ = some (.int .i64 k2) ∧ w'.cell? ⟨g2, o2 + 1, none⟩ = some (.int .i64 n2) ∧ w'.cell? ⟨g2, o2 + 2, none⟩ = some (.string s2) := by
  obtain ⟨h0, h1, h2, h3, h4, h5, h6, h7⟩ := h
  obtain ⟨hc, _⟩ := bcell hb
  have hs := hb.size
  refine ⟨by omega, by omega, ?_, ?_, ?_, ?_, ?_, ?_⟩
  · rw [hc _ _ h0]; exact h2
  · rw [hc _ _ h0]; exact h3
  · rw [hc _ _ h0]; exact h4
  · rw [hc _ _ h1]; exact h5
  · rw [hc _ _ h1]; exact h6
  · rw [hc _ _ h1]; exact h7

theorem refCompare_is (k1 n1 : Int) (s1 : ByteArray) (k2 n2 : Int) (s2 : ByteArray) (c : Int) (w : World) (h : cmpV k1 n1 s1.data.toList k2 n2 s2.data.toList = c) :
    Calls Tryd.prog 16 #[.agg #[.int .i64 k1, .int .i64 n1, .string s1], .agg #[.int .i64 k2, .int .i64 n2, .string s2]] w fun e w' => e = .returned (.int .i64 c) ∧ Below w.heap.size w w' := by
  subst h; exact refCompare_any k1 n1 s1 k2 n2 s2 w

set_option maxHeartbeats 1000000 in
theorem refRow_nil (v : Value) (ys : List T3) (w : World) (hy : ys.length ≤ maxLen) (h2 : RowV w v ys) :
    Calls Tryd.prog 25 #[.slice none 0 0, v] w fun e w' => e = .returned (.int .i64 (rowC [] ys)) ∧ Below w.heap.size w w' := by
  unfold maxLen at hy
  have hn := Lib.hid (rowC_nil_l ys)
  rcases h2 with ⟨rfl, rfl⟩ | ⟨g, cap, rfl, _⟩
  · go_enter Tryd.func25, Tryd.ntmps25
    go_wp2
    refine wp_loop_rounds 1 ?_
    rw [rounds_succ]
    go_wp2
    go_ret
    exact ⟨ret_int (by rw [hn.out]; rfl), Below.refl _ _⟩
  · by_cases h0 : 0 < ys.length
    · go_enter Tryd.func25, Tryd.ntmps25
      go_wp2
      refine wp_loop_rounds 1 ?_
      rw [rounds_succ]
      go_wp2
      go_ret
      exact ⟨ret_int (by rw [hn.out, if_pos h0]), Below.refl _ _⟩
    · go_enter Tryd.func25, Tryd.ntmps25
      go_wp2
      refine wp_loop_rounds 1 ?_
      rw [rounds_succ]
      go_wp2
      go_ret
      exact ⟨ret_int (by rw [hn.out, if_neg h0]), Below.refl _ _⟩

set_option maxHeartbeats 1000000 in
theorem refRow_nil2 (g1 c1 : Nat) (xs : List T3) (w : World) :
    Calls Tryd.prog 25 #[.slice (some ⟨g1, 0, none⟩) xs.length c1, .slice none 0 0] w fun e w' => e = .returned (.int .i64 (rowC xs [])) ∧ Below w.heap.size w w' := by
  have hn := Lib.hid (rowC_nil_r xs)
  by_cases h0 : 0 < xs.length
  · go_enter Tryd.func25, Tryd.ntmps25
    go_wp2
    refine wp_loop_rounds 1 ?_
    rw [rounds_succ]
    go_wp2
    go_ret
    exact ⟨ret_int (by rw [hn.out, if_pos h0]), Below.refl _ _⟩
  · go_enter Tryd.func25, Tryd.ntmps25
    go_wp2
    refine wp_loop_rounds 1 ?_
    rw [rounds_succ]
    go_wp2
    go_ret
    exact ⟨ret_int (by rw [hn.out, if_neg h0]), Below.refl _ _⟩

set_option maxRecDepth 100000 in
set_option maxHeartbeats 4000000 in
theorem refRow_any (g1 g2 c1 c2 : Nat) (xs ys : List T3) (w : World) (hx : xs.length ≤ maxLen) (_hy : ys.length ≤ maxLen) (h1 : RowAt w g1 xs) (h2 : RowAt w g2 ys) :
    Calls Tryd.prog 25 #[.slice (some ⟨g1, 0, none⟩) xs.length c1, .slice (some ⟨g2, 0, none⟩) ys.length c2] w fun e w' => e = .returned (.int .i64 (rowC xs ys)) ∧ Below w.heap.size w w' := by
  unfold maxLen at hx _hy
  have R1 := Lib.hid h1
  have R2 := Lib.hid h2
  clear h1 h2
  go_enter Tryd.func25, Tryd.ntmps25
  go_wp2
  go_loopw [5] (fun i w1 => ∃ k : Nat, k ≤ xs.length ∧ k ≤ ys.length ∧ i = .int .i64 k ∧ rowC xs ys = rowC (xs.drop k) (ys.drop k) ∧ Below w.heap.size w w1) (fun i _ => xs.length - (intOf i).toNat)
  case atStart => exact ⟨0, Nat.zero_le _, Nat.zero_le _, rfl, rfl, Below.refl _ _⟩
  case round =>
    obtain ⟨k, hk, hk2, rfl, hd, hb⟩ := hrel
    have H := Lib.hid hd
    have HB := Lib.hid hb
    clear hd hb
    by_cases hlt : k < xs.length
    · by_cases hlt2 : k < ys.length
      · have r1 := (R1.out).on HB.out
        have r2 := (R2.out).on HB.out
        have z1 := r1.1
        have z2 := r2.1
        obtain ⟨a0, a1, a2⟩ := r1.2 k hlt
        obtain ⟨b0, b1, b2⟩ := r2.2 k hlt2
        clear r1 r2
        have hst := rowC_step xs ys k hlt hlt2
        generalize xs[k] = x at a0 a1 a2 hst
        generalize ys[k] = y at b0 b1 b2 hst
        obtain ⟨k1, n1, s1⟩ := x
        obtain ⟨k2, n2, s2⟩ := y
        have ST := Lib.hid hst
        clear hst
        simp only at a0 a1 a2 b0 b1 b2
        obtain ⟨p, hp⟩ : ∃ p, p = cmpV k1 n1 s1.data.toList k2 n2 s2.data.toList := ⟨_, rfl⟩
        have P1 : Hid (cmpV k1 n1 s1.data.toList k2 n2 s2.data.toList = p) := hp.symm
        clear hp
        have i0 : (0 : Int) ≤ (k : Int) := Int.natCast_nonneg _
        have i1 : (k : Int) < (xs.length : Int) := by omega
        have i2 : (k : Int) < (ys.length : Int) := by omega
        cases hz : p == 0
        · have HZ := Lib.hid hz
          go_wp2_with fail
          go_region_held3 (fun w' => g1 < w'.heap.size ∧ g2 < w'.heap.size ∧ w'.cell? ⟨g1, k * 3, none⟩ = some (.int .i64 k1) ∧ w'.cell? ⟨g1, k * 3 + 1, none⟩ = some (.int .i64 n1) ∧ w'.cell? ⟨g1, k * 3 + 2, none⟩ = some (.string s1) ∧
              w'.cell? ⟨g2, k * 3, none⟩ = some (.int .i64 k2) ∧ w'.cell? ⟨g2, k * 3 + 1, none⟩ = some (.int .i64 n2) ∧ w'.cell? ⟨g2, k * 3 + 2, none⟩ = some (.string s2))
            (first
              | go_keep
              | (refine held_row ?_ hbv; assumption))
            (first
              | (go_at_call 16; refine (refCompare_is k1 n1 s1 k2 n2 s2 p _ P1.out).mono ?_; rintro e wv ⟨rfl, hbv⟩; have HD := Lib.hid (by first | exact HB.out.trans (hbv.mono HB.out.size) | exact HB.out.drew.trans (hbv.mono HB.out.size) : Below w.heap.size w wv)))
          go_wp2_with fail
          go_ret
          exact ⟨ret_int (by rw [H.out, ST.out, if_neg (by show ¬ cmpV _ _ _ _ _ _ = 0; rw [P1.out]; simpa using HZ.out)]; exact P1.out.symm), HD.out⟩
        · have HZ := Lib.hid hz
          go_wp2_with fail
          go_region_held3 (fun w' => g1 < w'.heap.size ∧ g2 < w'.heap.size ∧ w'.cell? ⟨g1, k * 3, none⟩ = some (.int .i64 k1) ∧ w'.cell? ⟨g1, k * 3 + 1, none⟩ = some (.int .i64 n1) ∧ w'.cell? ⟨g1, k * 3 + 2, none⟩ = some (.string s1) ∧
              w'.cell? ⟨g2, k * 3, none⟩ = some (.int .i64 k2) ∧ w'.cell? ⟨g2, k * 3 + 1, none⟩ = some (.int .i64 n2) ∧ w'.cell? ⟨g2, k * 3 + 2, none⟩ = some (.string s2))
            (first
              | go_keep
              | (refine held_row ?_ hbv; assumption))
            (first
              | (go_at_call 16; refine (refCompare_is k1 n1 s1 k2 n2 s2 p _ P1.out).mono ?_; rintro e wv ⟨rfl, hbv⟩; have HD := Lib.hid (by first | exact HB.out.trans (hbv.mono HB.out.size) | exact HB.out.drew.trans (hbv.mono HB.out.size) : Below w.heap.size w wv)))
          go_wp2_with fail
          exact ⟨⟨k + 1, by omega, by omega, by go_num, by rw [H.out, ST.out, if_pos (by show cmpV _ _ _ _ _ _ = 0; rw [P1.out]; simpa using HZ.out)], HD.out⟩, by simp [intOf]; omega⟩
      · have hm := Lib.hid (rowC_more xs ys k hlt (by omega))
        have hgt : ys.length < xs.length := by omega
        go_wp2
        go_ret
        exact ⟨ret_int (by rw [H.out, hm.out]), HB.out⟩
    · have hm := rowC_end xs ys k (by omega)
      obtain rfl : k = xs.length := by omega
      by_cases hlt2 : xs.length < ys.length
      · rw [if_pos hlt2] at hm
        have HM := Lib.hid hm
        clear hm
        go_wp2
        go_ret
        exact ⟨ret_int (by rw [H.out, HM.out]), HB.out⟩
      · rw [if_neg hlt2] at hm
        have HM := Lib.hid hm
        clear hm
        go_wp2
        go_ret
        exact ⟨ret_int (by rw [H.out, HM.out]), HB.out⟩

theorem refRowV_any (v1 v2 : Value) (xs ys : List T3) (w : World) (hx : xs.length ≤ maxLen) (hy : ys.length ≤ maxLen) (h1 : RowV w v1 xs) (h2 : RowV w v2 ys) :
    Calls Tryd.prog 25 #[v1, v2] w fun e w' => e = .returned (.int .i64 (rowC xs ys)) ∧ Below w.heap.size w w' := by
  rcases h1 with ⟨rfl, rfl⟩ | ⟨g1, c1, rfl, r1⟩
  · exact refRow_nil v2 ys w hy h2
  · rcases h2 with ⟨rfl, rfl⟩ | ⟨g2, c2, rfl, r2⟩
    · exact refRow_nil2 g1 c1 xs w
    · exact refRow_any g1 g2 c1 c2 xs ys w hx hy r1 r2
end Go.Proofs.YtkgjfedpjbnjkaaDoor
