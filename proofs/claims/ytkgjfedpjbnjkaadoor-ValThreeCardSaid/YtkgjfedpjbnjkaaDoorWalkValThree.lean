/- The walk of ValThree. -/
import Derived.Test.YtkgjfedpjbnjkaaDoorR
import Derived.IntWalk
namespace Go.Proofs.YtkgjfedpjbnjkaaDoor
open Go Go.RowKit

theorem beq_of {a b : Int} (h : a = b) : (a == 0) = (b == 0) := by rw [h]

set_option maxRecDepth 100000 in
set_option maxHeartbeats 16000000 in
theorem valThree_core (k1 n1 : Int) (s1 : ByteArray) (k2 n2 : Int) (s2 : ByteArray) (k3 n3 : Int) (s3 : ByteArray) (h1 : s1.size ≤ maxLen) (h2 : s2.size ≤ maxLen) (h3 : s3.size ≤ maxLen) (w : World) (ht : TabAt w) :
    Calls Tryd.prog 4 #[.agg #[.int .i64 k1, .int .i64 n1, .string s1], .agg #[.int .i64 k2, .int .i64 n2, .string s2], .agg #[.int .i64 k3, .int .i64 n3, .string s3]] w fun e w' => e = .returned (.bool true) ∧ Below w.heap.size w w' := by
  have HT := Lib.hid ht
  clear ht
  have hb01 := below_alloc1 w (.cells #[.int .i64 k1, .int .i64 n1, .string s1] 23)
  have hb02 := below_alloc1 (w.alloc (.cells #[.int .i64 k1, .int .i64 n1, .string s1] 23)) (.cells #[.int .i64 k2, .int .i64 n2, .string s2] 23)
  have hb03 := below_alloc1 ((w.alloc (.cells #[.int .i64 k1, .int .i64 n1, .string s1] 23)).alloc (.cells #[.int .i64 k2, .int .i64 n2, .string s2] 23)) (.cells #[.int .i64 k3, .int .i64 n3, .string s3] 23)
  have A0 := Lib.hid (((box_new w k1 n1 s1).on hb02).on hb03)
  have B0 := (box_new (w.alloc (.cells #[.int .i64 k1, .int .i64 n1, .string s1] 23)) k2 n2 s2).on hb03
  rw [show (w.alloc (.cells #[.int .i64 k1, .int .i64 n1, .string s1] 23)).heap.size = w.heap.size + 1 by simp] at B0
  have C0 := box_new ((w.alloc (.cells #[.int .i64 k1, .int .i64 n1, .string s1] 23)).alloc (.cells #[.int .i64 k2, .int .i64 n2, .string s2] 23)) k3 n3 s3
  rw [show ((w.alloc (.cells #[.int .i64 k1, .int .i64 n1, .string s1] 23)).alloc (.cells #[.int .i64 k2, .int .i64 n2, .string s2] 23)).heap.size = w.heap.size + 1 + 1 by simp] at C0
  have B1 := Lib.hid B0
  have C1 := Lib.hid C0
  have HB0 := Lib.hid (hb01.trans ((hb02.trans (hb03.mono hb02.size)).mono hb01.size))
  clear B0 C0 hb01 hb02 hb03
  go_enter Tryd.func4, Tryd.ntmps4
  go_wp2_with fail
  refine (begun_any _ (tab_on HT.out HB0.out)).mono ?_
  rintro e w1 ⟨rfl, hb1⟩
  have A2 := Lib.hid (A0.out.on hb1)
  have B2 := Lib.hid (B1.out.on hb1)
  have C2 := Lib.hid (C1.out.on hb1)
  have HB1 := Lib.hid (HB0.out.trans (hb1.mono HB0.out.size))
  clear hb1 A0 B1 C1 HB0
  go_upto_region 4 with fail
  go_cut [] (fun wx => Hid (Box wx w.heap.size k1 n1 (cutB 20 s1)) ∧ Hid (Box wx (w.heap.size + 1) k2 n2 (cutB 20 s2)) ∧ Hid (Box wx (w.heap.size + 1 + 1) k3 n3 (cutB 20 s3)) ∧ Hid (Below w.heap.size w wx))
  case first =>
    obtain ⟨a0, a1, a2, a3, a4, a5, a6⟩ := A2.out
    obtain ⟨b0, b1, b2, b3, b4, b5, b6⟩ := B2.out
    obtain ⟨g0, g1, g2, g3, g4, g5, g6⟩ := C2.out
    go_region_with (first
      | (go_at_call_of 12 (Value.agg #[.int .i64 k1, .int .i64 n1, .string s1]); refine (val_any k1 n1 s1 _ h1).mono ?_; rintro e wa ⟨rfl, hba⟩; have hba' := Lib.hid (((Below.refl w1.heap.size w1).drew).trans hba); clear hba; obtain ⟨c0, c1, c2, c3, c4, c5, c6⟩ := B2.out.on hba'.out; obtain ⟨i0, i1, i2, i3, i4, i5, i6⟩ := C2.out.on hba'.out)
      | (go_at_call_of 12 (Value.agg #[.int .i64 k2, .int .i64 n2, .string s2]); refine (val_any k2 n2 s2 _ h2).mono ?_; rintro e wb ⟨rfl, hbb⟩; have hbb' := Lib.hid (hba'.out.trans (hbb.mono hba'.out.size)); clear hbb; obtain ⟨j0, j1, j2, j3, j4, j5, j6⟩ := C2.out.on hbb'.out)
      | (go_at_call_of 12 (Value.agg #[.int .i64 k3, .int .i64 n3, .string s3]); refine (val_any k3 n3 s3 _ h3).mono ?_; rintro e wg ⟨rfl, hbg⟩; have hbg' := Lib.hid (hbb'.out.trans (hbg.mono hbb'.out.size)); clear hbg; obtain ⟨d0, d1, d2, d3, d4, d5, d6⟩ := A2.out.on hbg'.out; obtain ⟨f0, f1, f2, f3, f4, f5, f6⟩ := B2.out.on hbg'.out; obtain ⟨l0, l1, l2, l3, l4, l5, l6⟩ := C2.out.on hbg'.out))
    all_goals (go_wp2_with fail; go_meet)
    all_goals
      have T := three_stored A2.out B2.out C2.out (by omega) (by omega) (by omega) (Nat.le_refl _) (by omega) (by omega) HB1.out HB1.out.size hbg'.out (cutB 20 s1) (cutB 20 s2) (cutB 20 s3)
      exact ⟨Lib.hid T.1, Lib.hid T.2.1, Lib.hid T.2.2.1, Lib.hid T.2.2.2⟩
  case rest =>
    obtain ⟨HA, HX, HY, HC⟩ := hcut
    generalize w.heap.size + 1 + 1 = gc at HY ⊢
    generalize w.heap.size + 1 = gb at HX ⊢
    obtain ⟨t1, e1⟩ : ∃ t, t = cutB 20 s1 := ⟨_, rfl⟩
    obtain ⟨t2, e2⟩ : ∃ t, t = cutB 20 s2 := ⟨_, rfl⟩
    obtain ⟨t3, e3⟩ : ∃ t, t = cutB 20 s3 := ⟨_, rfl⟩
    rw [← e1] at HA
    rw [← e2] at HX
    rw [← e3] at HY
    clear e1 e2 e3 A2 B2 C2 HB1
    obtain ⟨a0, a1, a2, a3, a4, a5, a6⟩ := HA.out
    obtain ⟨b0, b1, b2, b3, b4, b5, b6⟩ := HX.out
    obtain ⟨c0, c1, c2, c3, c4, c5, c6⟩ := HY.out
    have HD := Lib.hid (Below.refl wc.heap.size wc)
    have sw := Lib.hid (cmpV_swap k1 n1 t1.data.toList k2 n2 t2.data.toList)
    have rg := Lib.hid (cmpV_range k2 n2 t2.data.toList k1 n1 t1.data.toList)
    have zz := Lib.hid ((cmpV_zero k1 n1 t1.data.toList k1 n1 t1.data.toList).2 ⟨rfl, rfl, rfl⟩)
    have tr := Lib.hid (cmpV_trans k1 n1 t1.data.toList k2 n2 t2.data.toList k3 n3 t3.data.toList)
    obtain ⟨p, hp⟩ : ∃ p, p = cmpV k2 n2 t2.data.toList k1 n1 t1.data.toList := ⟨_, rfl⟩
    have P1 : Hid (cmpV k2 n2 t2.data.toList k1 n1 t1.data.toList = p) := hp.symm
    have P2 : Hid (cmpV k1 n1 t1.data.toList k2 n2 t2.data.toList = -p) := by show _ = -p; rw [sw.out, hp]
    have pl : -1 ≤ p := by have := rg.out; rw [← hp] at this; omega
    have ph : p ≤ 1 := by have := rg.out; rw [← hp] at this; omega
    clear hp
    have hwr : IntKind.i64.wrap (-p) = -p := IntWalk.i64_in _ (by omega)
    obtain ⟨q, hq⟩ : ∃ q, q = cmpV k2 n2 t2.data.toList k3 n3 t3.data.toList := ⟨_, rfl⟩
    have Q1 : Hid (cmpV k2 n2 t2.data.toList k3 n3 t3.data.toList = q) := hq.symm
    clear hq
    obtain ⟨r, hr⟩ : ∃ r, r = cmpV k1 n1 t1.data.toList k3 n3 t3.data.toList := ⟨_, rfl⟩
    have R1 : Hid (cmpV k1 n1 t1.data.toList k3 n3 t3.data.toList = r) := hr.symm
    clear hr
    have TR : -p ≤ 0 → q ≤ 0 → r ≤ 0 := by rw [← P2.out, ← Q1.out, ← R1.out]; exact tr.out
    have HTR := Lib.hid TR
    clear TR
    all_goals
      clear h1 h2 h3
      go_wp2_with fail
      go_region_held3 (fun w' => w.heap.size < w'.heap.size ∧ gb < w'.heap.size ∧ gc < w'.heap.size ∧ w'.cell? ⟨w.heap.size, 0, none⟩ = some (.int .i64 k1) ∧ w'.cell? ⟨w.heap.size, 1, none⟩ = some (.int .i64 n1) ∧ w'.cell? ⟨w.heap.size, 2, none⟩ = some (.string t1) ∧ w'.cell? ⟨gb, 0, none⟩ = some (.int .i64 k2) ∧ w'.cell? ⟨gb, 1, none⟩ = some (.int .i64 n2) ∧ w'.cell? ⟨gb, 2, none⟩ = some (.string t2) ∧ w'.cell? ⟨gc, 0, none⟩ = some (.int .i64 k3) ∧ w'.cell? ⟨gc, 1, none⟩ = some (.int .i64 n3) ∧ w'.cell? ⟨gc, 2, none⟩ = some (.string t3))
        (first
          | go_keep
          | (refine held_on3 ?_ hbv; assumption))
        (first
          | (go_at_call 15; ((with_reducible refine (compare_is k1 n1 t1 k1 n1 t1 0 _ zz.out).mono ?_); rintro e wv ⟨rfl, hbv⟩); have HD := Lib.hid (by first | exact HD.out.trans (hbv.mono HD.out.size) | exact HD.out.drew.trans (hbv.mono HD.out.size) : Below wc.heap.size wc wv))
          | (go_at_call 15; ((with_reducible refine (compare_is k1 n1 t1 k2 n2 t2 _ _ P2.out).mono ?_); rintro e wv ⟨rfl, hbv⟩); have HD := Lib.hid (by first | exact HD.out.trans (hbv.mono HD.out.size) | exact HD.out.drew.trans (hbv.mono HD.out.size) : Below wc.heap.size wc wv))
          | (go_at_call 15; ((with_reducible refine (compare_is k2 n2 t2 k1 n1 t1 _ _ P1.out).mono ?_); rintro e wv ⟨rfl, hbv⟩); have HD := Lib.hid (by first | exact HD.out.trans (hbv.mono HD.out.size) | exact HD.out.drew.trans (hbv.mono HD.out.size) : Below wc.heap.size wc wv))
          | (go_at_call 17; refine (eq_is k1 n1 t1 k2 n2 t2 _ _ (beq_of P2.out)).mono ?_; rintro e wv ⟨rfl, hbv⟩; have HD := Lib.hid (by first | exact HD.out.trans (hbv.mono HD.out.size) | exact HD.out.drew.trans (hbv.mono HD.out.size) : Below wc.heap.size wc wv)))
      go_wp2_with fail
      refine (compare_is k1 n1 t1 k2 n2 t2 _ _ P2.out).mono ?_
      rintro e w5 ⟨rfl, hb5⟩
      have HD := Lib.hid (HD.out.trans (hb5.mono HD.out.size) : Below wc.heap.size wc w5)
      clear hb5 a0 a1 a2 a3 a4 a5 a6 b0 b1 b2 b3 b4 b5 b6 c0 c1 c2 c3 c4 c5 c6
      obtain ⟨a0, a1, a2, a3, a4, a5, a6⟩ := HA.out.on HD.out
      obtain ⟨b0, b1, b2, b3, b4, b5, b6⟩ := HX.out.on HD.out
      obtain ⟨c0, c1, c2, c3, c4, c5, c6⟩ := HY.out.on HD.out
      by_cases hp0 : p < 0
      · go_wp2_with fail
        go_ret
        exact ⟨rfl, HC.out.trans (HD.out.mono HC.out.size)⟩
      · go_wp2_with fail
        refine (compare_is k2 n2 t2 k3 n3 t3 _ _ Q1.out).mono ?_
        rintro e w6 ⟨rfl, hb6⟩
        have HD := Lib.hid (HD.out.trans (hb6.mono HD.out.size) : Below wc.heap.size wc w6)
        clear hb6 a0 a1 a2 a3 a4 a5 a6 b0 b1 b2 b3 b4 b5 b6 c0 c1 c2 c3 c4 c5 c6
        obtain ⟨a0, a1, a2, a3, a4, a5, a6⟩ := HA.out.on HD.out
        obtain ⟨b0, b1, b2, b3, b4, b5, b6⟩ := HX.out.on HD.out
        obtain ⟨c0, c1, c2, c3, c4, c5, c6⟩ := HY.out.on HD.out
        by_cases hq0 : 0 < q
        · go_wp2_with fail
          go_ret
          exact ⟨rfl, HC.out.trans (HD.out.mono HC.out.size)⟩
        · have hr0 : r ≤ 0 := HTR.out (by omega) (by omega)
          go_wp2_with fail
          refine (compare_is k1 n1 t1 k3 n3 t3 _ _ R1.out).mono ?_
          rintro e w7 ⟨rfl, hb7⟩
          have HD := Lib.hid (HD.out.trans (hb7.mono HD.out.size) : Below wc.heap.size wc w7)
          clear hb7
          go_wp2_with fail
          go_ret
          exact ⟨ret_bool (by first | rfl | simpa using hr0), HC.out.trans (HD.out.mono HC.out.size)⟩

theorem valThree_walk (k1 n1 : Int) (s1 : ByteArray) (k2 n2 : Int) (s2 : ByteArray) (k3 n3 : Int) (s3 : ByteArray) (_lo1 : -9223372036854775808 ≤ n1) (_hi1 : n1 ≤ 9223372036854775807) (h1 : s1.size ≤ maxLen) (_lo2 : -9223372036854775808 ≤ n2) (_hi2 : n2 ≤ 9223372036854775807) (h2 : s2.size ≤ maxLen) (_lo3 : -9223372036854775808 ≤ n3) (_hi3 : n3 ≤ 9223372036854775807) (h3 : s3.size ≤ maxLen) (w : World) (ht : TabAt w) :
    Calls Tryd.prog 4 #[.agg #[.int .i64 k1, .int .i64 n1, .string s1], .agg #[.int .i64 k2, .int .i64 n2, .string s2], .agg #[.int .i64 k3, .int .i64 n3, .string s3]] w fun e w' => e = .returned (.bool true) ∧ Below w.heap.size w w' :=
  valThree_core k1 n1 s1 k2 n2 s2 k3 n3 s3 h1 h2 h3 w ht
end Go.Proofs.YtkgjfedpjbnjkaaDoor
