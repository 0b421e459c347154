/- The walk of ValAll. -/
import Derived.Test.YtkgjfedpjbnjkaaDoorQ
namespace Go.Proofs.YtkgjfedpjbnjkaaDoor
open Go Go.RowKit

set_option maxRecDepth 100000 in
set_option maxHeartbeats 8000000 in
theorem valAll_core (k1 n1 : Int) (s1 : ByteArray) (k2 n2 : Int) (s2 : ByteArray) (op : Int) (lo1 : -9223372036854775808 ≤ n1) (hi1 : n1 ≤ 9223372036854775807) (h1 : s1.size ≤ maxLen) (h2 : s2.size ≤ maxLen) (w : World) (ht : TabAt w) :
    Calls Tryd.prog 3 #[.agg #[.int .i64 k1, .int .i64 n1, .string s1], .agg #[.int .i64 k2, .int .i64 n2, .string s2], .int .i64 op] w fun e w' => e = .returned (.bool true) ∧ Below w.heap.size w w' := by
  have HT := Lib.hid ht
  clear ht
  have A0 := Lib.hid ((box_new w k1 n1 s1).on (below_alloc1 _ (.cells #[.int .i64 k2, .int .i64 n2, .string s2] 23)))
  have B0 := box_new (w.alloc (.cells #[.int .i64 k1, .int .i64 n1, .string s1] 23)) k2 n2 s2
  rw [show (w.alloc (.cells #[.int .i64 k1, .int .i64 n1, .string s1] 23)).heap.size = w.heap.size + 1 by simp] at B0
  have B1 := Lib.hid B0
  have HB0 := Lib.hid ((below_alloc1 w (.cells #[.int .i64 k1, .int .i64 n1, .string s1] 23)).alloc (by simp) (.cells #[.int .i64 k2, .int .i64 n2, .string s2] 23))
  clear B0
  go_enter Tryd.func3, Tryd.ntmps3
  go_wp2_with fail
  refine (begun_any _ (tab_on HT.out HB0.out)).mono ?_
  rintro e w1 ⟨rfl, hb1⟩
  have A2 := Lib.hid (A0.out.on hb1)
  have B2 := Lib.hid (B1.out.on hb1)
  have HB1 := Lib.hid (HB0.out.trans (hb1.mono HB0.out.size))
  clear hb1 A0 B1 HB0
  go_upto_region 4 with fail
  go_cut [] (fun wx => Hid (Box wx w.heap.size k1 n1 (cutB 20 s1)) ∧ Hid (Box wx (w.heap.size + 1) k2 n2 (cutB 20 s2)) ∧ Hid (Below w.heap.size w wx))
  case first =>
    obtain ⟨a0, a1, a2, a3, a4, a5, a6⟩ := A2.out
    obtain ⟨b0, b1, b2, b3, b4, b5, b6⟩ := B2.out
    go_region_with (first
      | (go_at_call_of 12 (Value.agg #[.int .i64 k1, .int .i64 n1, .string s1]); refine (val_any k1 n1 s1 _ h1).mono ?_; rintro e wa ⟨rfl, hba⟩; have hba' := Lib.hid (((Below.refl w1.heap.size w1).drew).trans hba); clear hba; obtain ⟨c0, c1, c2, c3, c4, c5, c6⟩ := B2.out.on hba'.out)
      | (go_at_call_of 12 (Value.agg #[.int .i64 k2, .int .i64 n2, .string s2]); refine (val_any k2 n2 s2 _ h2).mono ?_; rintro e wb ⟨rfl, hbb⟩; have hbb' := Lib.hid (hba'.out.trans (hbb.mono hba'.out.size)); clear hbb; obtain ⟨d0, d1, d2, d3, d4, d5, d6⟩ := A2.out.on hbb'.out; obtain ⟨f0, f1, f2, f3, f4, f5, f6⟩ := B2.out.on hbb'.out))
    all_goals (go_wp2_with fail; go_meet)
    all_goals
      have T := two_stored A2.out B2.out (by omega) (Nat.le_refl _) (by omega) HB1.out HB1.out.size hbb'.out (cutB 20 s1) (cutB 20 s2)
      exact ⟨Lib.hid T.1, Lib.hid T.2.1, Lib.hid T.2.2⟩
  case rest =>
    obtain ⟨HA, HX, HC⟩ := hcut
    obtain ⟨t1, e1⟩ : ∃ t, t = cutB 20 s1 := ⟨_, rfl⟩
    obtain ⟨t2, e2⟩ : ∃ t, t = cutB 20 s2 := ⟨_, rfl⟩
    rw [← e1] at HA
    rw [← e2] at HX
    have c1 : t1.size ≤ 1000 := by rw [e1]; exact Nat.le_trans (cutB_le 20 s1) (by decide)
    have c2 : t2.size ≤ 1000 := by rw [e2]; exact Nat.le_trans (cutB_le 20 s2) (by decide)
    clear e1 e2 A2 B2 HB1
    have c1' : t1.size ≤ maxLen := Nat.le_trans c1 (by decide)
    have c2' : t2.size ≤ maxLen := Nat.le_trans c2 (by decide)
    obtain ⟨a0, a1, a2, a3, a4, a5, a6⟩ := HA.out
    obtain ⟨b0, b1, b2, b3, b4, b5, b6⟩ := HX.out
    have HD := Lib.hid (Below.refl wc.heap.size wc)
    go_wp2_with fail
    go_region_held3 (fun w' => w.heap.size + 1 < w'.heap.size ∧ w'.cell? ⟨w.heap.size, 0, none⟩ = some (.int .i64 k1) ∧ w'.cell? ⟨w.heap.size, 1, none⟩ = some (.int .i64 n1) ∧ w'.cell? ⟨w.heap.size, 2, none⟩ = some (.string t1) ∧
      w'.cell? ⟨w.heap.size + 1, 0, none⟩ = some (.int .i64 k2) ∧ w'.cell? ⟨w.heap.size + 1, 1, none⟩ = some (.int .i64 n2) ∧ w'.cell? ⟨w.heap.size + 1, 2, none⟩ = some (.string t2))
      (first
        | go_keep
        | (refine held_on ?_ hbv; assumption))
      (first
        | (go_at_call 13; refine (may_any k1 n1 t1 _ c1').mono ?_; rintro e wv ⟨rfl, hbv⟩; have HD := Lib.hid (by first | exact HD.out.trans (hbv.mono HD.out.size) | exact HD.out.drew.trans (hbv.mono HD.out.size) : Below wc.heap.size wc wv))
        | (go_at_call 14; refine (refMay_any k1 n1 t1 _ c1').mono ?_; rintro e wv ⟨rfl, hbv⟩; have HD := Lib.hid (by first | exact HD.out.trans (hbv.mono HD.out.size) | exact HD.out.drew.trans (hbv.mono HD.out.size) : Below wc.heap.size wc wv))
        | (go_at_call 15; refine (compare_any k1 n1 t1 k2 n2 t2 _).mono ?_; rintro e wv ⟨rfl, hbv⟩; have HD := Lib.hid (by first | exact HD.out.trans (hbv.mono HD.out.size) | exact HD.out.drew.trans (hbv.mono HD.out.size) : Below wc.heap.size wc wv))
        | (go_at_call 16; refine (refCompare_any k1 n1 t1 k2 n2 t2 _).mono ?_; rintro e wv ⟨rfl, hbv⟩; have HD := Lib.hid (by first | exact HD.out.trans (hbv.mono HD.out.size) | exact HD.out.drew.trans (hbv.mono HD.out.size) : Below wc.heap.size wc wv))
        | (go_at_call 17; refine (eq_any k1 n1 t1 k2 n2 t2 _).mono ?_; rintro e wv ⟨rfl, hbv⟩; have HD := Lib.hid (by first | exact HD.out.trans (hbv.mono HD.out.size) | exact HD.out.drew.trans (hbv.mono HD.out.size) : Below wc.heap.size wc wv))
        | (go_at_call 18; refine (refEq_any k1 n1 t1 k2 n2 t2 _).mono ?_; rintro e wv ⟨rfl, hbv⟩; have HD := Lib.hid (by first | exact HD.out.trans (hbv.mono HD.out.size) | exact HD.out.drew.trans (hbv.mono HD.out.size) : Below wc.heap.size wc wv))
        | (go_at_call 19; refine (test_any op k1 n1 t1 k2 n2 t2 _).mono ?_; rintro e wv ⟨rfl, hbv⟩; have HD := Lib.hid (by first | exact HD.out.trans (hbv.mono HD.out.size) | exact HD.out.drew.trans (hbv.mono HD.out.size) : Below wc.heap.size wc wv))
        | (go_at_call 20; refine (refTest_any op k1 n1 t1 k2 n2 t2 _).mono ?_; rintro e wv ⟨rfl, hbv⟩; have HD := Lib.hid (by first | exact HD.out.trans (hbv.mono HD.out.size) | exact HD.out.drew.trans (hbv.mono HD.out.size) : Below wc.heap.size wc wv)))
    go_wp2_with fail
    have A5 := Lib.hid (HA.out.on HD.out)
    have B5 := Lib.hid (HX.out.on HD.out)
    clear a0 a1 a2 a3 a4 a5 a6 b0 b1 b2 b3 b4 b5 b6
    obtain ⟨a0, a1, a2, a3, a4, a5, a6⟩ := A5.out
    obtain ⟨b0, b1, b2, b3, b4, b5, b6⟩ := B5.out
    cases hm1 : mayV k1 n1 t1.data.toList
    · have M1 := Lib.hid hm1
      clear hm1
      go_region_with (first
        | (go_at_call 14; refine (refMay_is k1 n1 t1 false _ c1' M1.out).mono ?_; rintro e wv ⟨rfl, hbv⟩; have HD := Lib.hid (by first | exact HD.out.trans (hbv.mono HD.out.size) | exact HD.out.drew.trans (hbv.mono HD.out.size) : Below wc.heap.size wc wv)))
      all_goals (go_wp2_with fail; go_ret; exact ⟨rfl, HC.out.trans (HD.out.mono HC.out.size)⟩)
    · have M1 := Lib.hid hm1
      clear hm1
      go_region_held3 (fun w' => w.heap.size + 1 < w'.heap.size ∧ w'.cell? ⟨w.heap.size, 0, none⟩ = some (.int .i64 k1) ∧ w'.cell? ⟨w.heap.size, 1, none⟩ = some (.int .i64 n1) ∧ w'.cell? ⟨w.heap.size, 2, none⟩ = some (.string t1) ∧
      w'.cell? ⟨w.heap.size + 1, 0, none⟩ = some (.int .i64 k2) ∧ w'.cell? ⟨w.heap.size + 1, 1, none⟩ = some (.int .i64 n2) ∧ w'.cell? ⟨w.heap.size + 1, 2, none⟩ = some (.string t2))
      (first
        | go_keep
        | (refine held_on ?_ hbv; assumption))
        (first
          | (go_at_call 14; refine (refMay_is k1 n1 t1 true _ c1' M1.out).mono ?_; rintro e wv ⟨rfl, hbv⟩; have HD := Lib.hid (by first | exact HD.out.trans (hbv.mono HD.out.size) | exact HD.out.drew.trans (hbv.mono HD.out.size) : Below wc.heap.size wc wv))
          | (go_at_call 21; refine (valText_any k1 n1 t1 _ lo1 hi1 c1 (tab_on HT.out (HC.out.trans (by first | exact HD.out.mono HC.out.size | exact HD.out.drew.mono HC.out.size))) M1.out).mono ?_; rintro e wv ⟨rfl, hbv⟩; have HD := Lib.hid (by first | exact HD.out.trans (hbv.mono HD.out.size) | exact HD.out.drew.trans (hbv.mono HD.out.size) : Below wc.heap.size wc wv))
          | (go_at_call 22; refine (refText_any k1 n1 t1 _ lo1 hi1 c1).mono ?_; rintro e wv ⟨rfl, hbv⟩; have HD := Lib.hid (by first | exact HD.out.trans (hbv.mono HD.out.size) | exact HD.out.drew.trans (hbv.mono HD.out.size) : Below wc.heap.size wc wv)))
      go_wp2_with fail
      go_ret
      exact ⟨ret_bool (by simp), HC.out.trans (HD.out.mono HC.out.size)⟩

theorem valAll_walk (k1 n1 : Int) (s1 : ByteArray) (k2 n2 : Int) (s2 : ByteArray) (op : Int) (lo1 : -9223372036854775808 ≤ n1) (hi1 : n1 ≤ 9223372036854775807) (h1 : s1.size ≤ maxLen) (_lo2 : -9223372036854775808 ≤ n2) (_hi2 : n2 ≤ 9223372036854775807) (h2 : s2.size ≤ maxLen) (_o1 : -9223372036854775808 ≤ op) (_o2 : op ≤ 9223372036854775807) (w : World) (ht : TabAt w) :
    Calls Tryd.prog 3 #[.agg #[.int .i64 k1, .int .i64 n1, .string s1], .agg #[.int .i64 k2, .int .i64 n2, .string s2], .int .i64 op] w fun e w' => e = .returned (.bool true) ∧ Below w.heap.size w w' :=
  valAll_core k1 n1 s1 k2 n2 s2 op lo1 hi1 h1 h2 w ht
end Go.Proofs.YtkgjfedpjbnjkaaDoor
