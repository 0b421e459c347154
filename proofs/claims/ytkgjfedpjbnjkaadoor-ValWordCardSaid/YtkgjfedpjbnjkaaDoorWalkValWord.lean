/- The walk of ValWord. -/
import Derived.Test.YtkgjfedpjbnjkaaDoorW
namespace Go.Proofs.YtkgjfedpjbnjkaaDoor
open Go Go.RowKit

set_option maxRecDepth 100000 in
set_option maxHeartbeats 8000000 in
theorem valWord_core (k1 n1 : Int) (s1 : ByteArray) (k2 n2 : Int) (s2 : ByteArray) (lo1 : -9223372036854775808 ≤ n1) (hi1 : n1 ≤ 9223372036854775807) (h1 : s1.size ≤ maxLen) (lo2 : -9223372036854775808 ≤ n2) (hi2 : n2 ≤ 9223372036854775807) (h2 : s2.size ≤ maxLen) (w : World) (ht : TabAt w) :
    Calls Tryd.prog 8 #[.agg #[.int .i64 k1, .int .i64 n1, .string s1], .agg #[.int .i64 k2, .int .i64 n2, .string s2]] w fun e w' => e = .returned (.bool true) ∧ Below w.heap.size w w' := by
  have HT := Lib.hid ht
  clear ht
  have A0 := Lib.hid ((box_new w k1 n1 s1).on (below_alloc1 _ (.cells #[.int .i64 k2, .int .i64 n2, .string s2] 23)))
  have B0 := box_new (w.alloc (.cells #[.int .i64 k1, .int .i64 n1, .string s1] 23)) k2 n2 s2
  rw [show (w.alloc (.cells #[.int .i64 k1, .int .i64 n1, .string s1] 23)).heap.size = w.heap.size + 1 by simp] at B0
  have B1 := Lib.hid B0
  have HB0 := Lib.hid ((below_alloc1 w (.cells #[.int .i64 k1, .int .i64 n1, .string s1] 23)).alloc (by simp) (.cells #[.int .i64 k2, .int .i64 n2, .string s2] 23))
  clear B0
  go_enter Tryd.func8, Tryd.ntmps8
  go_wp2_with fail
  refine (begun_any _ (tab_on HT.out HB0.out)).mono ?_
  rintro e w1 ⟨rfl, hb1⟩
  have A2 := Lib.hid (A0.out.on hb1)
  have B2 := Lib.hid (B1.out.on hb1)
  have HB1 := Lib.hid (HB0.out.trans (hb1.mono HB0.out.size))
  clear hb1 A0 B1 HB0
  go_upto_region 4 with fail
  go_cut [] (fun wx => Hid (Box wx w.heap.size k1 n1 (cutB 20 s1)) ∧ Hid (Box wx (w.heap.size + 1) k2 n2 (cutB 20 s2)) ∧ Hid (Below w.heap.size w wx))
  case first =>
    obtain ⟨a0, a1, a2, a3, a4, a5, a6⟩ := A2.out
    obtain ⟨b0, b1, b2, b3, b4, b5, b6⟩ := B2.out
    go_region_with (first
      | (go_at_call_of 12 (Value.agg #[.int .i64 k1, .int .i64 n1, .string s1]); refine (val_any k1 n1 s1 _ h1).mono ?_; rintro e wa ⟨rfl, hba⟩; have hba' := Lib.hid (((Below.refl w1.heap.size w1).drew).trans hba); clear hba; obtain ⟨c0, c1, c2, c3, c4, c5, c6⟩ := B2.out.on hba'.out)
      | (go_at_call_of 12 (Value.agg #[.int .i64 k2, .int .i64 n2, .string s2]); refine (val_any k2 n2 s2 _ h2).mono ?_; rintro e wb ⟨rfl, hbb⟩; have hbb' := Lib.hid (hba'.out.trans (hbb.mono hba'.out.size)); clear hbb; obtain ⟨d0, d1, d2, d3, d4, d5, d6⟩ := A2.out.on hbb'.out; obtain ⟨f0, f1, f2, f3, f4, f5, f6⟩ := B2.out.on hbb'.out))
    all_goals (go_wp2_with fail; go_meet)
    all_goals
      have T := two_stored A2.out B2.out (by omega) (Nat.le_refl _) (by omega) HB1.out HB1.out.size hbb'.out (cutB 20 s1) (cutB 20 s2)
      exact ⟨Lib.hid T.1, Lib.hid T.2.1, Lib.hid T.2.2⟩
  case rest =>
    obtain ⟨HA, HX, HC⟩ := hcut
    obtain ⟨t1, e1⟩ : ∃ t, t = cutB 20 s1 := ⟨_, rfl⟩
    obtain ⟨t2, e2⟩ : ∃ t, t = cutB 20 s2 := ⟨_, rfl⟩
    rw [← e1] at HA
    rw [← e2] at HX
    have c1 : t1.size ≤ 1000 := by rw [e1]; exact Nat.le_trans (cutB_le 20 s1) (by decide)
    have c2 : t2.size ≤ 1000 := by rw [e2]; exact Nat.le_trans (cutB_le 20 s2) (by decide)
    clear e1 e2 A2 B2 HB1 h1 h2
    have c1' : t1.size ≤ maxLen := Nat.le_trans c1 (by decide)
    have c2' : t2.size ≤ maxLen := Nat.le_trans c2 (by decide)
    obtain ⟨a0, a1, a2, a3, a4, a5, a6⟩ := HA.out
    obtain ⟨b0, b1, b2, b3, b4, b5, b6⟩ := HX.out
    have HD := Lib.hid (Below.refl wc.heap.size wc)
    cases hm1 : mayV k1 n1 t1.data.toList
    · have M1 := Lib.hid hm1
      clear hm1
      go_wp2_with fail
      refine wp_region_any (by kernel_rfl) ?_
      refine wpAny_ready (rs := [0]) (by kernel_rfl) (by simp) ?_
      refine AllReady.cons rfl (fun K' hK => ?_) AllReady.nil
      rw [if_pos (by kernel_rfl)]
      go_simp
      refine hK _ _ ?_
      clear hK K'
      refine wpAny_ready (rs := [1]) (by kernel_rfl) (by simp) ?_
      refine AllReady.cons rfl (fun K' hK => ?_) AllReady.nil
      rw [if_pos (by kernel_rfl)]
      go_simp
      refine (refMay_is k1 n1 t1 false _ c1' M1.out).mono ?_
      rintro e wv ⟨rfl, hbv⟩
      have HD := Lib.hid (by first | exact HD.out.trans (hbv.mono HD.out.size) | exact HD.out.drew.trans (hbv.mono HD.out.size) : Below wc.heap.size wc wv)
      clear hbv
      refine hK _ _ ?_
      clear hK K'
      refine wpAny_take (i := 2) (v := .bool true) rfl (by kernel_rfl) (by kernel_rfl) (by kernel_rfl) (fun _ _ _ h => h) (.inl ⟨by kernel_rfl, fun w => by first | rfl | kernel_rfl⟩) ?_
      go_simp
      refine wpAny_take (i := 3) (v := .bool true) rfl (by kernel_rfl) (by kernel_rfl) (by kernel_rfl) (fun _ _ _ h => h) (.inl ⟨by kernel_rfl, fun w => by first | rfl | kernel_rfl⟩) ?_
      go_simp
      refine wpAny_take (i := 4) rfl (by kernel_rfl) (by kernel_rfl) (by kernel_rfl) (fun _ _ _ h => h) (.inr ⟨by kernel_rfl, rfl⟩) ?_
      go_simp
      refine wpAny_take (i := 5) rfl (by kernel_rfl) (by kernel_rfl) (by kernel_rfl) (fun _ _ _ h => h) (.inr ⟨by kernel_rfl, rfl⟩) ?_
      go_simp
      refine wpAny_take (i := 6) rfl (by kernel_rfl) (by kernel_rfl) (by kernel_rfl) (fun _ _ _ h => h) (.inr ⟨by kernel_rfl, rfl⟩) ?_
      go_simp
      refine wpAny_take (i := 7) (v := .bool true) rfl (by kernel_rfl) (by kernel_rfl) (by kernel_rfl) (fun _ _ _ h => h) (.inl ⟨by kernel_rfl, fun w => by first | rfl | kernel_rfl⟩) ?_
      go_simp
      refine wpAny_take (i := 8) (v := .bool true) rfl (by kernel_rfl) (by kernel_rfl) (by kernel_rfl) (fun _ _ _ h => h) (.inl ⟨by kernel_rfl, fun w => by first | rfl | kernel_rfl⟩) ?_
      go_simp
      refine wpAny_take (i := 9) rfl (by kernel_rfl) (by kernel_rfl) (by kernel_rfl) (fun _ _ _ h => h) (.inr ⟨by kernel_rfl, rfl⟩) ?_
      go_simp
      refine wpAny_take (i := 10) rfl (by kernel_rfl) (by kernel_rfl) (by kernel_rfl) (fun _ _ _ h => h) (.inr ⟨by kernel_rfl, rfl⟩) ?_
      go_simp
      refine wpAny_take (i := 11) rfl (by kernel_rfl) (by kernel_rfl) (by kernel_rfl) (fun _ _ _ h => h) (.inr ⟨by kernel_rfl, rfl⟩) ?_
      go_simp
      refine wpAny_take (i := 12) rfl (by kernel_rfl) (by kernel_rfl) (by kernel_rfl) (fun _ _ _ h => h) (.inr ⟨by kernel_rfl, rfl⟩) ?_
      go_simp
      refine wpAny_take (i := 13) rfl (by kernel_rfl) (by kernel_rfl) (by kernel_rfl) (fun _ _ _ h => h) (.inr ⟨by kernel_rfl, rfl⟩) ?_
      go_simp
      refine wpAny_take (i := 14) rfl (by kernel_rfl) (by kernel_rfl) (by kernel_rfl) (fun _ _ _ h => h) (.inr ⟨by kernel_rfl, rfl⟩) ?_
      go_simp
      refine wpAny_take (i := 15) rfl (by kernel_rfl) (by kernel_rfl) (by kernel_rfl) (fun _ _ _ h => h) (.inr ⟨by kernel_rfl, rfl⟩) ?_
      go_simp
      refine wpAny_take (i := 16) rfl (by kernel_rfl) (by kernel_rfl) (by kernel_rfl) (fun _ _ _ h => h) (.inr ⟨by kernel_rfl, rfl⟩) ?_
      go_simp
      refine wpAny_take (i := 17) rfl (by kernel_rfl) (by kernel_rfl) (by kernel_rfl) (fun _ _ _ h => h) (.inr ⟨by kernel_rfl, rfl⟩) ?_
      go_simp
      refine wpAny_take (i := 18) (v := .bool true) rfl (by kernel_rfl) (by kernel_rfl) (by kernel_rfl) (fun _ _ _ h => h) (.inl ⟨by kernel_rfl, fun w => by first | rfl | kernel_rfl⟩) ?_
      go_simp
      refine wpAny_take (i := 19) (v := .bool true) rfl (by kernel_rfl) (by kernel_rfl) (by kernel_rfl) (fun _ _ _ h => h) (.inl ⟨by kernel_rfl, fun w => by first | rfl | kernel_rfl⟩) ?_
      go_simp
      refine wpAny_done (by kernel_rfl) ?_ _
      go_wp2_with fail
      go_ret
      exact ⟨rfl, HC.out.trans (HD.out.mono HC.out.size)⟩
    · have M1 := Lib.hid hm1
      clear hm1
      cases hm2 : mayV k2 n2 t2.data.toList
      · have M2 := Lib.hid hm2
        clear hm2
        go_wp2_with fail
        refine wp_region_any (by kernel_rfl) ?_
        refine wpAny_ready (rs := [0]) (by kernel_rfl) (by simp) ?_
        refine AllReady.cons rfl (fun K' hK => ?_) AllReady.nil
        rw [if_pos (by kernel_rfl)]
        go_simp
        refine hK _ _ ?_
        clear hK K'
        refine wpAny_ready (rs := [1]) (by kernel_rfl) (by simp) ?_
        refine AllReady.cons rfl (fun K' hK => ?_) AllReady.nil
        rw [if_pos (by kernel_rfl)]
        go_simp
        refine (refMay_is k1 n1 t1 true _ c1' M1.out).mono ?_
        rintro e wv ⟨rfl, hbv⟩
        have HD := Lib.hid (by first | exact HD.out.trans (hbv.mono HD.out.size) | exact HD.out.drew.trans (hbv.mono HD.out.size) : Below wc.heap.size wc wv)
        clear hbv
        refine hK _ _ ?_
        clear hK K'
        refine wpAny_take (i := 2) (v := .bool false) rfl (by kernel_rfl) (by kernel_rfl) (by kernel_rfl) (fun _ _ _ h => h) (.inl ⟨by kernel_rfl, fun w => by first | rfl | kernel_rfl⟩) ?_
        go_simp
        refine wpAny_take (i := 3) (v := .bool false) rfl (by kernel_rfl) (by kernel_rfl) (by kernel_rfl) (fun _ _ _ h => h) (.inl ⟨by kernel_rfl, fun w => by first | rfl | kernel_rfl⟩) ?_
        go_simp
        obtain ⟨p0, p1, p2, p3, p4, p5, p6⟩ := HX.out.on HD.out
        refine wpAny_ready (rs := [4]) (by kernel_rfl) (by simp) ?_
        refine AllReady.cons rfl (fun K' hK => ?_) AllReady.nil
        rw [if_pos (by kernel_rfl)]
        go_simp
        refine hK _ _ ?_
        clear hK K'
        refine wpAny_ready (rs := [5]) (by kernel_rfl) (by simp) ?_
        refine AllReady.cons rfl (fun K' hK => ?_) AllReady.nil
        rw [if_pos (by kernel_rfl)]
        go_simp
        refine (refMay_is k2 n2 t2 false _ c2' M2.out).mono ?_
        rintro e wv ⟨rfl, hbv⟩
        have HD := Lib.hid (by first | exact HD.out.trans (hbv.mono HD.out.size) | exact HD.out.drew.trans (hbv.mono HD.out.size) : Below wc.heap.size wc wv)
        clear hbv
        refine hK _ _ ?_
        clear hK K'
        refine wpAny_take (i := 6) (v := .bool true) rfl (by kernel_rfl) (by kernel_rfl) (by kernel_rfl) (fun _ _ _ h => h) (.inl ⟨by kernel_rfl, fun w => by first | rfl | kernel_rfl⟩) ?_
        go_simp
        refine wpAny_take (i := 7) (v := .bool true) rfl (by kernel_rfl) (by kernel_rfl) (by kernel_rfl) (fun _ _ _ h => h) (.inl ⟨by kernel_rfl, fun w => by first | rfl | kernel_rfl⟩) ?_
        go_simp
        refine wpAny_take (i := 8) (v := .bool true) rfl (by kernel_rfl) (by kernel_rfl) (by kernel_rfl) (fun _ _ _ h => h) (.inl ⟨by kernel_rfl, fun w => by first | rfl | kernel_rfl⟩) ?_
        go_simp
        refine wpAny_take (i := 9) rfl (by kernel_rfl) (by kernel_rfl) (by kernel_rfl) (fun _ _ _ h => h) (.inr ⟨by kernel_rfl, rfl⟩) ?_
        go_simp
        refine wpAny_take (i := 10) rfl (by kernel_rfl) (by kernel_rfl) (by kernel_rfl) (fun _ _ _ h => h) (.inr ⟨by kernel_rfl, rfl⟩) ?_
        go_simp
        refine wpAny_take (i := 11) rfl (by kernel_rfl) (by kernel_rfl) (by kernel_rfl) (fun _ _ _ h => h) (.inr ⟨by kernel_rfl, rfl⟩) ?_
        go_simp
        refine wpAny_take (i := 12) rfl (by kernel_rfl) (by kernel_rfl) (by kernel_rfl) (fun _ _ _ h => h) (.inr ⟨by kernel_rfl, rfl⟩) ?_
        go_simp
        refine wpAny_take (i := 13) rfl (by kernel_rfl) (by kernel_rfl) (by kernel_rfl) (fun _ _ _ h => h) (.inr ⟨by kernel_rfl, rfl⟩) ?_
        go_simp
        refine wpAny_take (i := 14) rfl (by kernel_rfl) (by kernel_rfl) (by kernel_rfl) (fun _ _ _ h => h) (.inr ⟨by kernel_rfl, rfl⟩) ?_
        go_simp
        refine wpAny_take (i := 15) rfl (by kernel_rfl) (by kernel_rfl) (by kernel_rfl) (fun _ _ _ h => h) (.inr ⟨by kernel_rfl, rfl⟩) ?_
        go_simp
        refine wpAny_take (i := 16) rfl (by kernel_rfl) (by kernel_rfl) (by kernel_rfl) (fun _ _ _ h => h) (.inr ⟨by kernel_rfl, rfl⟩) ?_
        go_simp
        refine wpAny_take (i := 17) rfl (by kernel_rfl) (by kernel_rfl) (by kernel_rfl) (fun _ _ _ h => h) (.inr ⟨by kernel_rfl, rfl⟩) ?_
        go_simp
        refine wpAny_take (i := 18) (v := .bool true) rfl (by kernel_rfl) (by kernel_rfl) (by kernel_rfl) (fun _ _ _ h => h) (.inl ⟨by kernel_rfl, fun w => by first | rfl | kernel_rfl⟩) ?_
        go_simp
        refine wpAny_take (i := 19) (v := .bool true) rfl (by kernel_rfl) (by kernel_rfl) (by kernel_rfl) (fun _ _ _ h => h) (.inl ⟨by kernel_rfl, fun w => by first | rfl | kernel_rfl⟩) ?_
        go_simp
        refine wpAny_done (by kernel_rfl) ?_ _
        go_wp2_with fail
        go_ret
        exact ⟨rfl, HC.out.trans (HD.out.mono HC.out.size)⟩
      · have M2 := Lib.hid hm2
        clear hm2
        have same := text_same k1 n1 t1 k2 n2 t2 M1.out M2.out
        have E := Lib.hid same
        clear same
        obtain ⟨y1, hy1⟩ : ∃ y, y = textV k1 n1 t1 := ⟨_, rfl⟩
        obtain ⟨y2, hy2⟩ : ∃ y, y = textV k2 n2 t2 := ⟨_, rfl⟩
        obtain ⟨z, hz⟩ : ∃ z, z = (cmpV k1 n1 t1.data.toList k2 n2 t2.data.toList == 0) := ⟨_, rfl⟩
        have Y1 : Hid (textV k1 n1 t1 = y1) := hy1.symm
        have Y2 : Hid (textV k2 n2 t2 = y2) := hy2.symm
        have Z : Hid ((cmpV k1 n1 t1.data.toList k2 n2 t2.data.toList == 0) = z) := hz.symm
        have e12 : (y1.toList == y2.toList) = z := by rw [hy1, hy2, hz]; exact E.out
        clear hy1 hy2 hz
        go_wp2_with fail
        go_region_held3 (fun w' => w.heap.size + 1 < w'.heap.size ∧ w'.cell? ⟨w.heap.size, 0, none⟩ = some (.int .i64 k1) ∧ w'.cell? ⟨w.heap.size, 1, none⟩ = some (.int .i64 n1) ∧ w'.cell? ⟨w.heap.size, 2, none⟩ = some (.string t1) ∧
          w'.cell? ⟨w.heap.size + 1, 0, none⟩ = some (.int .i64 k2) ∧ w'.cell? ⟨w.heap.size + 1, 1, none⟩ = some (.int .i64 n2) ∧ w'.cell? ⟨w.heap.size + 1, 2, none⟩ = some (.string t2))
        (first
          | go_keep
          | (refine held_on ?_ hbv; assumption))
        (first
          | (go_at_call_of 14 (Value.agg #[.int .i64 k1, .int .i64 n1, .string t1]); refine (refMay_is k1 n1 t1 true _ c1' M1.out).mono ?_; rintro e wv ⟨rfl, hbv⟩; have HD := Lib.hid (by first | exact HD.out.trans (hbv.mono HD.out.size) | exact HD.out.drew.trans (hbv.mono HD.out.size) : Below wc.heap.size wc wv))
          | (go_at_call_of 14 (Value.agg #[.int .i64 k2, .int .i64 n2, .string t2]); refine (refMay_is k2 n2 t2 true _ c2' M2.out).mono ?_; rintro e wv ⟨rfl, hbv⟩; have HD := Lib.hid (by first | exact HD.out.trans (hbv.mono HD.out.size) | exact HD.out.drew.trans (hbv.mono HD.out.size) : Below wc.heap.size wc wv))
          | (go_at_call_of 21 (Value.agg #[.int .i64 k1, .int .i64 n1, .string t1]); refine (text_is k1 n1 t1 y1 _ lo1 hi1 c1 (tab_on HT.out (HC.out.trans (by first | exact HD.out.mono HC.out.size | exact HD.out.drew.mono HC.out.size))) M1.out Y1.out).mono ?_; rintro e wv ⟨rfl, hbv⟩; have HD := Lib.hid (by first | exact HD.out.trans (hbv.mono HD.out.size) | exact HD.out.drew.trans (hbv.mono HD.out.size) : Below wc.heap.size wc wv))
          | (go_at_call_of 21 (Value.agg #[.int .i64 k2, .int .i64 n2, .string t2]); refine (text_is k2 n2 t2 y2 _ lo2 hi2 c2 (tab_on HT.out (HC.out.trans (by first | exact HD.out.mono HC.out.size | exact HD.out.drew.mono HC.out.size))) M2.out Y2.out).mono ?_; rintro e wv ⟨rfl, hbv⟩; have HD := Lib.hid (by first | exact HD.out.trans (hbv.mono HD.out.size) | exact HD.out.drew.trans (hbv.mono HD.out.size) : Below wc.heap.size wc wv))
          | (go_at_call 17; refine (eq_is k1 n1 t1 k2 n2 t2 z _ Z.out).mono ?_; rintro e wv ⟨rfl, hbv⟩; have HD := Lib.hid (by first | exact HD.out.trans (hbv.mono HD.out.size) | exact HD.out.drew.trans (hbv.mono HD.out.size) : Below wc.heap.size wc wv)))
        go_wp2_with fail
        go_ret
        exact ⟨rfl, HC.out.trans (HD.out.mono HC.out.size)⟩

theorem valWord_walk (k1 n1 : Int) (s1 : ByteArray) (k2 n2 : Int) (s2 : ByteArray) (lo1 : -9223372036854775808 ≤ n1) (hi1 : n1 ≤ 9223372036854775807) (h1 : s1.size ≤ maxLen) (lo2 : -9223372036854775808 ≤ n2) (hi2 : n2 ≤ 9223372036854775807) (h2 : s2.size ≤ maxLen) (w : World) (ht : TabAt w) :
    Calls Tryd.prog 8 #[.agg #[.int .i64 k1, .int .i64 n1, .string s1], .agg #[.int .i64 k2, .int .i64 n2, .string s2]] w fun e w' => e = .returned (.bool true) ∧ Below w.heap.size w w' :=
  valWord_core k1 n1 s1 k2 n2 s2 lo1 hi1 h1 lo2 hi2 h2 w ht
end Go.Proofs.YtkgjfedpjbnjkaaDoor
