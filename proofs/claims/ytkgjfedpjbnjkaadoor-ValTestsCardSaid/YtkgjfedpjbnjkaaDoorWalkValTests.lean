/- The walk of ValTests. -/
import Derived.Test.YtkgjfedpjbnjkaaDoorQ
namespace Go.Proofs.YtkgjfedpjbnjkaaDoor
open Go Go.RowKit

/-- What the eight tests say of two values. -/
structure Tests (k1 n1 : Int) (l1 : List UInt8) (k2 n2 : Int) (l2 : List UInt8) (x1 x2 x3 x4 x5 x6 x7 x8 : Bool) : Prop where
  h1 : testV 1 k1 n1 l1 k2 n2 l2 = x1
  h2 : testV 2 k1 n1 l1 k2 n2 l2 = x2
  h3 : testV 3 k1 n1 l1 k2 n2 l2 = x3
  h4 : testV 4 k1 n1 l1 k2 n2 l2 = x4
  h5 : testV 5 k1 n1 l1 k2 n2 l2 = x5
  h6 : testV 6 k1 n1 l1 k2 n2 l2 = x6
  h7 : testV 7 k1 n1 l1 k2 n2 l2 = x7
  h8 : testV 8 k1 n1 l1 k2 n2 l2 = x8
theorem tests_no (k1 n1 : Int) (l1 : List UInt8) (k2 n2 : Int) (l2 : List UInt8) (h : k1 = 0 ∨ k1 ≠ k2) : Tests k1 n1 l1 k2 n2 l2 false false false false false false (k1 == 0) (k1 != 0) := by
  constructor <;> simp [testV, h]
theorem tests_yes (k n1 : Int) (l1 : List UInt8) (n2 : Int) (l2 : List UInt8) (h : k ≠ 0) : Tests k n1 l1 k n2 l2 true false false true false true false true ∨ Tests k n1 l1 k n2 l2 false true true true false false false true ∨ Tests k n1 l1 k n2 l2 false true false false true true false true := by
  rcases cmpV_range k n1 l1 k n2 l2 with c | c | c
  · right; left; constructor <;> simp [testV, holdsV, h, c]
  · left; constructor <;> simp [testV, holdsV, h, c]
  · right; right; constructor <;> simp [testV, holdsV, h, c]

def cB (x : Bool) : Int := if x then 1 else 0
def cnt3 : Nat → Bool → Bool → Bool → Int
  | 0, _, _, _ => 0
  | 1, a, _, _ => cB a
  | 2, a, b, _ => cB a + cB b
  | _, a, b, c => cB a + cB b + cB c
theorem cnt3_le (k : Nat) (a b c : Bool) : 0 ≤ cnt3 k a b c ∧ cnt3 k a b c ≤ 3 := by
  have h : ∀ x, 0 ≤ cB x ∧ cB x ≤ 1 := fun x => by cases x <;> simp [cB]
  have ha := h a
  have hb := h b
  have hc := h c
  match k with
  | 0 => simp [cnt3]
  | 1 => simp only [cnt3]; omega
  | 2 => simp only [cnt3]; omega
  | k + 3 => simp only [cnt3]; omega

set_option maxRecDepth 100000 in
set_option maxHeartbeats 32000000 in
theorem valTests_core (k1 n1 : Int) (s1 : ByteArray) (k2 n2 : Int) (s2 : ByteArray) (h1 : s1.size ≤ maxLen) (h2 : s2.size ≤ maxLen) (w : World) (ht : TabAt w) :
    Calls Tryd.prog 6 #[.agg #[.int .i64 k1, .int .i64 n1, .string s1], .agg #[.int .i64 k2, .int .i64 n2, .string s2]] w fun e w' => e = .returned (.bool true) ∧ Below w.heap.size w w' := by
  have HT := Lib.hid ht
  clear ht
  have A0 := Lib.hid ((box_new w k1 n1 s1).on (below_alloc1 _ (.cells #[.int .i64 k2, .int .i64 n2, .string s2] 23)))
  have B0 := box_new (w.alloc (.cells #[.int .i64 k1, .int .i64 n1, .string s1] 23)) k2 n2 s2
  rw [show (w.alloc (.cells #[.int .i64 k1, .int .i64 n1, .string s1] 23)).heap.size = w.heap.size + 1 by simp] at B0
  have B1 := Lib.hid B0
  have HB0 := Lib.hid ((below_alloc1 w (.cells #[.int .i64 k1, .int .i64 n1, .string s1] 23)).alloc (by simp) (.cells #[.int .i64 k2, .int .i64 n2, .string s2] 23))
  clear B0
  go_enter Tryd.func6, Tryd.ntmps6
  go_wp2_with fail
  refine (begun_any _ (tab_on HT.out HB0.out)).mono ?_
  rintro e w1 ⟨rfl, hb1⟩
  have A2 := Lib.hid (A0.out.on hb1)
  have B2 := Lib.hid (B1.out.on hb1)
  have HB1 := Lib.hid (HB0.out.trans (hb1.mono HB0.out.size))
  clear hb1 A0 B1 HB0
  go_upto_region 4 with fail
  go_cut [] (fun wx => Hid (Box wx w.heap.size k1 n1 (cutB 20 s1)) ∧ Hid (Box wx (w.heap.size + 1) k2 n2 (cutB 20 s2)) ∧ Hid (Below w.heap.size w wx))
  case first =>
    obtain ⟨a0, a1, a2, a3, a4, a5, a6⟩ := A2.out
    obtain ⟨b0, b1, b2, b3, b4, b5, b6⟩ := B2.out
    go_region_with (first
      | (go_at_call_of 12 (Value.agg #[.int .i64 k1, .int .i64 n1, .string s1]); refine (val_any k1 n1 s1 _ h1).mono ?_; rintro e wa ⟨rfl, hba⟩; have hba' := Lib.hid (((Below.refl w1.heap.size w1).drew).trans hba); clear hba; obtain ⟨c0, c1, c2, c3, c4, c5, c6⟩ := B2.out.on hba'.out)
      | (go_at_call_of 12 (Value.agg #[.int .i64 k2, .int .i64 n2, .string s2]); refine (val_any k2 n2 s2 _ h2).mono ?_; rintro e wb ⟨rfl, hbb⟩; have hbb' := Lib.hid (hba'.out.trans (hbb.mono hba'.out.size)); clear hbb; obtain ⟨d0, d1, d2, d3, d4, d5, d6⟩ := A2.out.on hbb'.out; obtain ⟨f0, f1, f2, f3, f4, f5, f6⟩ := B2.out.on hbb'.out))
    all_goals (go_wp2_with fail; go_meet)
    all_goals
      have T := two_stored A2.out B2.out (by omega) (Nat.le_refl _) (by omega) HB1.out HB1.out.size hbb'.out (cutB 20 s1) (cutB 20 s2)
      exact ⟨Lib.hid T.1, Lib.hid T.2.1, Lib.hid T.2.2⟩
  case rest =>
    obtain ⟨HA, HX, HC⟩ := hcut
    obtain ⟨t1, e1⟩ : ∃ t, t = cutB 20 s1 := ⟨_, rfl⟩
    obtain ⟨t2, e2⟩ : ∃ t, t = cutB 20 s2 := ⟨_, rfl⟩
    rw [← e1] at HA
    rw [← e2] at HX
    clear e1 e2 A2 B2 HB1 h1 h2
    obtain ⟨x1, x2, x3, x4, x5, x6, x7, x8, hx, hcase⟩ : ∃ x1 x2 x3 x4 x5 x6 x7 x8, Tests k1 n1 t1.data.toList k2 n2 t2.data.toList x1 x2 x3 x4 x5 x6 x7 x8 ∧
        ((x1 = false ∧ x3 = false ∧ x5 = false ∧ x2 = false ∧ x4 = false ∧ x6 = false ∧ x7 = (k1 == 0) ∧ (k1 == 0) = true) ∨ (x1 = false ∧ x3 = false ∧ x5 = false ∧ x2 = false ∧ x4 = false ∧ x6 = false ∧ x7 = (k1 == 0) ∧ (k1 == 0) = false ∧ (k2 == 0) = true) ∨ (x1 = false ∧ x3 = false ∧ x5 = false ∧ x2 = false ∧ x4 = false ∧ x6 = false ∧ x7 = (k1 == 0) ∧ (k1 == 0) = false ∧ (k2 == 0) = false ∧ (k1 == k2) = false) ∨
        (((x1 = true ∧ x3 = false ∧ x5 = false ∧ x2 = false ∧ x4 = true ∧ x6 = true ∧ x8 = true) ∨ (x1 = false ∧ x3 = true ∧ x5 = false ∧ x2 = true ∧ x4 = true ∧ x6 = false ∧ x8 = true) ∨ (x1 = false ∧ x3 = false ∧ x5 = true ∧ x2 = true ∧ x4 = false ∧ x6 = true ∧ x8 = true)) ∧ (k1 == 0) = false ∧ (k2 == 0) = false ∧ (k1 == k2) = true)) := by
      by_cases c0 : k1 = 0
      · exact ⟨_, _, _, _, _, _, _, _, tests_no k1 n1 _ k2 n2 _ (.inl c0), .inl ⟨rfl, rfl, rfl, rfl, rfl, rfl, rfl, beq_iff_eq.2 c0⟩⟩
      by_cases ce : k1 = k2
      · subst ce
        have f : (k1 == 0) = false := beq_eq_false_iff_ne.2 c0
        rcases tests_yes k1 n1 t1.data.toList n2 t2.data.toList c0 with h | h | h
        · exact ⟨_, _, _, _, _, _, _, _, h, .inr (.inr (.inr ⟨.inl ⟨rfl, rfl, rfl, rfl, rfl, rfl, rfl⟩, f, f, beq_self_eq_true _⟩))⟩
        · exact ⟨_, _, _, _, _, _, _, _, h, .inr (.inr (.inr ⟨.inr (.inl ⟨rfl, rfl, rfl, rfl, rfl, rfl, rfl⟩), f, f, beq_self_eq_true _⟩))⟩
        · exact ⟨_, _, _, _, _, _, _, _, h, .inr (.inr (.inr ⟨.inr (.inr ⟨rfl, rfl, rfl, rfl, rfl, rfl, rfl⟩), f, f, beq_self_eq_true _⟩))⟩
      · have f : (k1 == 0) = false := beq_eq_false_iff_ne.2 c0
        by_cases c2 : k2 = 0
        · exact ⟨_, _, _, _, _, _, _, _, tests_no k1 n1 _ k2 n2 _ (.inr ce), .inr (.inl ⟨rfl, rfl, rfl, rfl, rfl, rfl, rfl, f, beq_iff_eq.2 c2⟩)⟩
        · exact ⟨_, _, _, _, _, _, _, _, tests_no k1 n1 _ k2 n2 _ (.inr ce), .inr (.inr (.inl ⟨rfl, rfl, rfl, rfl, rfl, rfl, rfl, f, beq_eq_false_iff_ne.2 c2, beq_eq_false_iff_ne.2 ce⟩))⟩
    have X1 := Lib.hid hx.h1
    have X2 := Lib.hid hx.h2
    have X3 := Lib.hid hx.h3
    have X4 := Lib.hid hx.h4
    have X5 := Lib.hid hx.h5
    have X6 := Lib.hid hx.h6
    have X7 := Lib.hid hx.h7
    have X8 := Lib.hid hx.h8
    have HCASE := Lib.hid hcase
    clear hx hcase
    obtain ⟨wm, hwm⟩ : ∃ wm, wm = wc.alloc (.cells #[.int .i64 3, .int .i64 1, .int .i64 5] 3) := ⟨_, rfl⟩
    have d0 : wm.cell? ⟨wc.heap.size, 0, none⟩ = some (.int .i64 3) := by rw [hwm, World.cell?_alloc_mark]; rfl
    have d1 : wm.cell? ⟨wc.heap.size, 1, none⟩ = some (.int .i64 1) := by rw [hwm, World.cell?_alloc_mark]; rfl
    have d2 : wm.cell? ⟨wc.heap.size, 2, none⟩ = some (.int .i64 5) := by rw [hwm, World.cell?_alloc_mark]; rfl
    have dl : wc.heap.size < wm.heap.size := by rw [hwm]; simp
    have hcm : Below wc.heap.size wc wm := by rw [hwm]; exact below_alloc1 _ _
    have MA := Lib.hid (HA.out.on hcm)
    have MX := Lib.hid (HX.out.on hcm)
    have MC := Lib.hid (HC.out.trans (hcm.mono HC.out.size))
    have D0 := Lib.hid d0
    have D1 := Lib.hid d1
    have D2 := Lib.hid d2
    have DL := Lib.hid dl
    have HWM := Lib.hid hwm
    clear d0 d1 d2 dl hcm hwm HA HX HC
    go_wp2_with fail
    rw [← HWM.out]
    go_loopw [6, 18] (fun n i wr => ∃ (k : Nat) (m : Int), k ≤ 3 ∧ i = .int .i64 k ∧ n = .int .i64 m ∧ m = cnt3 k x3 x1 x5 ∧ Below wm.heap.size wm wr) (fun _ i _ => 3 - (intOf i).toNat)
    case atStart => exact ⟨0, 0, by omega, rfl, rfl, rfl, Below.refl _ _⟩
    case round =>
      obtain ⟨k, m, hk, rfl, rfl, hm, hb⟩ := hrel
      have m01 := cnt3_le k x3 x1 x5
      rw [← hm] at m01
      obtain ⟨m0, m1⟩ := m01
      have HM := Lib.hid hm
      have HB := Lib.hid hb
      clear hm hb
      obtain ⟨a0, a1, a2, a3, a4, a5, a6⟩ := MA.out.on HB.out
      obtain ⟨b0, b1, b2, b3, b4, b5, b6⟩ := MX.out.on HB.out
      rcases (by omega : k = 0 ∨ k = 1 ∨ k = 2 ∨ k = 3) with rfl | rfl | rfl | rfl
      · have dk : wr.cell? ⟨wc.heap.size, 0, none⟩ = some (.int .i64 3) := by rw [(bcell HB.out).1 _ _ DL.out]; exact D0.out
        cases hx : x3
        · have XX : Hid (testV 3 k1 n1 t1.data.toList k2 n2 t2.data.toList = false) := X3.out.trans hx
          have HX' := Lib.hid hx
          clear hx
          go_wp2_with fail
          refine (test_is 3 k1 n1 t1 k2 n2 t2 _ _ XX.out).mono ?_
          rintro e wt ⟨rfl, hbt⟩
          have HBT := Lib.hid (HB.out.trans (hbt.mono HB.out.size))
          clear hbt
          go_wp2_with fail
          exact ⟨⟨1, m, by omega, rfl, rfl, by rw [HM.out]; simp [cnt3, cB, HX'.out], HBT.out⟩, by simp [intOf]⟩
        · have XX : Hid (testV 3 k1 n1 t1.data.toList k2 n2 t2.data.toList = true) := X3.out.trans hx
          have HX' := Lib.hid hx
          clear hx
          go_wp2_with fail
          refine (test_is 3 k1 n1 t1 k2 n2 t2 _ _ XX.out).mono ?_
          rintro e wt ⟨rfl, hbt⟩
          have HBT := Lib.hid (HB.out.trans (hbt.mono HB.out.size))
          clear hbt
          go_wp2_with fail
          exact ⟨⟨1, m + 1, by omega, rfl, rfl, by rw [HM.out]; simp [cnt3, cB, HX'.out], HBT.out⟩, by simp [intOf]⟩
      · have dk : wr.cell? ⟨wc.heap.size, 1, none⟩ = some (.int .i64 1) := by rw [(bcell HB.out).1 _ _ DL.out]; exact D1.out
        cases hx : x1
        · have XX : Hid (testV 1 k1 n1 t1.data.toList k2 n2 t2.data.toList = false) := X1.out.trans hx
          have HX' := Lib.hid hx
          clear hx
          go_wp2_with fail
          refine (test_is 1 k1 n1 t1 k2 n2 t2 _ _ XX.out).mono ?_
          rintro e wt ⟨rfl, hbt⟩
          have HBT := Lib.hid (HB.out.trans (hbt.mono HB.out.size))
          clear hbt
          go_wp2_with fail
          exact ⟨⟨2, m, by omega, rfl, rfl, by rw [HM.out]; simp [cnt3, cB, HX'.out], HBT.out⟩, by simp [intOf]⟩
        · have XX : Hid (testV 1 k1 n1 t1.data.toList k2 n2 t2.data.toList = true) := X1.out.trans hx
          have HX' := Lib.hid hx
          clear hx
          go_wp2_with fail
          refine (test_is 1 k1 n1 t1 k2 n2 t2 _ _ XX.out).mono ?_
          rintro e wt ⟨rfl, hbt⟩
          have HBT := Lib.hid (HB.out.trans (hbt.mono HB.out.size))
          clear hbt
          go_wp2_with fail
          exact ⟨⟨2, m + 1, by omega, rfl, rfl, by rw [HM.out]; simp [cnt3, cB, HX'.out], HBT.out⟩, by simp [intOf]⟩
      · have dk : wr.cell? ⟨wc.heap.size, 2, none⟩ = some (.int .i64 5) := by rw [(bcell HB.out).1 _ _ DL.out]; exact D2.out
        cases hx : x5
        · have XX : Hid (testV 5 k1 n1 t1.data.toList k2 n2 t2.data.toList = false) := X5.out.trans hx
          have HX' := Lib.hid hx
          clear hx
          go_wp2_with fail
          refine (test_is 5 k1 n1 t1 k2 n2 t2 _ _ XX.out).mono ?_
          rintro e wt ⟨rfl, hbt⟩
          have HBT := Lib.hid (HB.out.trans (hbt.mono HB.out.size))
          clear hbt
          go_wp2_with fail
          exact ⟨⟨3, m, by omega, rfl, rfl, by rw [HM.out]; simp [cnt3, cB, HX'.out], HBT.out⟩, by simp [intOf]⟩
        · have XX : Hid (testV 5 k1 n1 t1.data.toList k2 n2 t2.data.toList = true) := X5.out.trans hx
          have HX' := Lib.hid hx
          clear hx
          go_wp2_with fail
          refine (test_is 5 k1 n1 t1 k2 n2 t2 _ _ XX.out).mono ?_
          rintro e wt ⟨rfl, hbt⟩
          have HBT := Lib.hid (HB.out.trans (hbt.mono HB.out.size))
          clear hbt
          go_wp2_with fail
          exact ⟨⟨3, m + 1, by omega, rfl, rfl, by rw [HM.out]; simp [cnt3, cB, HX'.out], HBT.out⟩, by simp [intOf]⟩
      · have HD := Lib.hid (Below.refl wr.heap.size wr)
        have HE := Lib.hid (MC.out.trans (HB.out.mono MC.out.size))
        have hcase := HCASE.out
        rcases hcase with ⟨rfl, rfl, rfl, rfl, rfl, rfl, rfl, e0⟩ | ⟨rfl, rfl, rfl, rfl, rfl, rfl, rfl, e0, e2⟩ | ⟨rfl, rfl, rfl, rfl, rfl, rfl, rfl, e0, e2, e3⟩ | ⟨⟨rfl, rfl, rfl, rfl, rfl, rfl, rfl⟩ | ⟨rfl, rfl, rfl, rfl, rfl, rfl, rfl⟩ | ⟨rfl, rfl, rfl, rfl, rfl, rfl, rfl⟩, e0, e2, e3⟩
        · obtain rfl : m = 0 := by rw [HM.out]; rfl
          clear HM
          go_wp2_with fail
          go_region_held3 (fun w' => w.heap.size + 1 < w'.heap.size ∧ w'.cell? ⟨w.heap.size, 0, none⟩ = some (.int .i64 k1) ∧ w'.cell? ⟨w.heap.size, 1, none⟩ = some (.int .i64 n1) ∧ w'.cell? ⟨w.heap.size, 2, none⟩ = some (.string t1) ∧
            w'.cell? ⟨w.heap.size + 1, 0, none⟩ = some (.int .i64 k2) ∧ w'.cell? ⟨w.heap.size + 1, 1, none⟩ = some (.int .i64 n2) ∧ w'.cell? ⟨w.heap.size + 1, 2, none⟩ = some (.string t2))
          (first
            | go_keep
            | (refine held_on ?_ hbv; assumption))
          (first
            | (go_at_call_of 19 (Value.int IntKind.i64 2); refine (test_is 2 k1 n1 t1 k2 n2 t2 _ _ X2.out).mono ?_; rintro e wv ⟨rfl, hbv⟩; have HD := Lib.hid (by first | exact HD.out.trans (hbv.mono HD.out.size) | exact HD.out.drew.trans (hbv.mono HD.out.size) : Below wr.heap.size wr wv))
            | (go_at_call_of 19 (Value.int IntKind.i64 4); refine (test_is 4 k1 n1 t1 k2 n2 t2 _ _ X4.out).mono ?_; rintro e wv ⟨rfl, hbv⟩; have HD := Lib.hid (by first | exact HD.out.trans (hbv.mono HD.out.size) | exact HD.out.drew.trans (hbv.mono HD.out.size) : Below wr.heap.size wr wv))
            | (go_at_call_of 19 (Value.int IntKind.i64 6); refine (test_is 6 k1 n1 t1 k2 n2 t2 _ _ X6.out).mono ?_; rintro e wv ⟨rfl, hbv⟩; have HD := Lib.hid (by first | exact HD.out.trans (hbv.mono HD.out.size) | exact HD.out.drew.trans (hbv.mono HD.out.size) : Below wr.heap.size wr wv))
            | (go_at_call_of 19 (Value.int IntKind.i64 7); refine (test_is 7 k1 n1 t1 k2 n2 t2 _ _ X7.out).mono ?_; rintro e wv ⟨rfl, hbv⟩; have HD := Lib.hid (by first | exact HD.out.trans (hbv.mono HD.out.size) | exact HD.out.drew.trans (hbv.mono HD.out.size) : Below wr.heap.size wr wv)))
          go_wp2_with fail
          go_ret
          exact ⟨ret_bool (by first | rfl | simp), HE.out.trans (HD.out.mono HE.out.size)⟩
        · obtain rfl : m = 0 := by rw [HM.out]; rfl
          clear HM
          go_wp2_with fail
          go_region_held3 (fun w' => w.heap.size + 1 < w'.heap.size ∧ w'.cell? ⟨w.heap.size, 0, none⟩ = some (.int .i64 k1) ∧ w'.cell? ⟨w.heap.size, 1, none⟩ = some (.int .i64 n1) ∧ w'.cell? ⟨w.heap.size, 2, none⟩ = some (.string t1) ∧
            w'.cell? ⟨w.heap.size + 1, 0, none⟩ = some (.int .i64 k2) ∧ w'.cell? ⟨w.heap.size + 1, 1, none⟩ = some (.int .i64 n2) ∧ w'.cell? ⟨w.heap.size + 1, 2, none⟩ = some (.string t2))
          (first
            | go_keep
            | (refine held_on ?_ hbv; assumption))
          (first
            | (go_at_call_of 19 (Value.int IntKind.i64 2); refine (test_is 2 k1 n1 t1 k2 n2 t2 _ _ X2.out).mono ?_; rintro e wv ⟨rfl, hbv⟩; have HD := Lib.hid (by first | exact HD.out.trans (hbv.mono HD.out.size) | exact HD.out.drew.trans (hbv.mono HD.out.size) : Below wr.heap.size wr wv))
            | (go_at_call_of 19 (Value.int IntKind.i64 4); refine (test_is 4 k1 n1 t1 k2 n2 t2 _ _ X4.out).mono ?_; rintro e wv ⟨rfl, hbv⟩; have HD := Lib.hid (by first | exact HD.out.trans (hbv.mono HD.out.size) | exact HD.out.drew.trans (hbv.mono HD.out.size) : Below wr.heap.size wr wv))
            | (go_at_call_of 19 (Value.int IntKind.i64 6); refine (test_is 6 k1 n1 t1 k2 n2 t2 _ _ X6.out).mono ?_; rintro e wv ⟨rfl, hbv⟩; have HD := Lib.hid (by first | exact HD.out.trans (hbv.mono HD.out.size) | exact HD.out.drew.trans (hbv.mono HD.out.size) : Below wr.heap.size wr wv))
            | (go_at_call_of 19 (Value.int IntKind.i64 7); refine (test_is 7 k1 n1 t1 k2 n2 t2 _ _ X7.out).mono ?_; rintro e wv ⟨rfl, hbv⟩; have HD := Lib.hid (by first | exact HD.out.trans (hbv.mono HD.out.size) | exact HD.out.drew.trans (hbv.mono HD.out.size) : Below wr.heap.size wr wv)))
          go_wp2_with fail
          go_ret
          exact ⟨ret_bool (by first | rfl | simp), HE.out.trans (HD.out.mono HE.out.size)⟩
        · obtain rfl : m = 0 := by rw [HM.out]; rfl
          clear HM
          go_wp2_with fail
          go_region_held3 (fun w' => w.heap.size + 1 < w'.heap.size ∧ w'.cell? ⟨w.heap.size, 0, none⟩ = some (.int .i64 k1) ∧ w'.cell? ⟨w.heap.size, 1, none⟩ = some (.int .i64 n1) ∧ w'.cell? ⟨w.heap.size, 2, none⟩ = some (.string t1) ∧
            w'.cell? ⟨w.heap.size + 1, 0, none⟩ = some (.int .i64 k2) ∧ w'.cell? ⟨w.heap.size + 1, 1, none⟩ = some (.int .i64 n2) ∧ w'.cell? ⟨w.heap.size + 1, 2, none⟩ = some (.string t2))
          (first
            | go_keep
            | (refine held_on ?_ hbv; assumption))
          (first
            | (go_at_call_of 19 (Value.int IntKind.i64 2); refine (test_is 2 k1 n1 t1 k2 n2 t2 _ _ X2.out).mono ?_; rintro e wv ⟨rfl, hbv⟩; have HD := Lib.hid (by first | exact HD.out.trans (hbv.mono HD.out.size) | exact HD.out.drew.trans (hbv.mono HD.out.size) : Below wr.heap.size wr wv))
            | (go_at_call_of 19 (Value.int IntKind.i64 4); refine (test_is 4 k1 n1 t1 k2 n2 t2 _ _ X4.out).mono ?_; rintro e wv ⟨rfl, hbv⟩; have HD := Lib.hid (by first | exact HD.out.trans (hbv.mono HD.out.size) | exact HD.out.drew.trans (hbv.mono HD.out.size) : Below wr.heap.size wr wv))
            | (go_at_call_of 19 (Value.int IntKind.i64 6); refine (test_is 6 k1 n1 t1 k2 n2 t2 _ _ X6.out).mono ?_; rintro e wv ⟨rfl, hbv⟩; have HD := Lib.hid (by first | exact HD.out.trans (hbv.mono HD.out.size) | exact HD.out.drew.trans (hbv.mono HD.out.size) : Below wr.heap.size wr wv))
            | (go_at_call_of 19 (Value.int IntKind.i64 7); refine (test_is 7 k1 n1 t1 k2 n2 t2 _ _ X7.out).mono ?_; rintro e wv ⟨rfl, hbv⟩; have HD := Lib.hid (by first | exact HD.out.trans (hbv.mono HD.out.size) | exact HD.out.drew.trans (hbv.mono HD.out.size) : Below wr.heap.size wr wv)))
          go_wp2_with fail
          go_ret
          exact ⟨ret_bool (by first | rfl | simp), HE.out.trans (HD.out.mono HE.out.size)⟩
        · obtain rfl : m = 1 := by rw [HM.out]; rfl
          clear HM
          go_wp2_with fail
          go_region_held3 (fun w' => w.heap.size + 1 < w'.heap.size ∧ w'.cell? ⟨w.heap.size, 0, none⟩ = some (.int .i64 k1) ∧ w'.cell? ⟨w.heap.size, 1, none⟩ = some (.int .i64 n1) ∧ w'.cell? ⟨w.heap.size, 2, none⟩ = some (.string t1) ∧
            w'.cell? ⟨w.heap.size + 1, 0, none⟩ = some (.int .i64 k2) ∧ w'.cell? ⟨w.heap.size + 1, 1, none⟩ = some (.int .i64 n2) ∧ w'.cell? ⟨w.heap.size + 1, 2, none⟩ = some (.string t2))
          (first
            | go_keep
            | (refine held_on ?_ hbv; assumption))
          (first
            | (go_at_call_of 19 (Value.int IntKind.i64 2); refine (test_is 2 k1 n1 t1 k2 n2 t2 _ _ X2.out).mono ?_; rintro e wv ⟨rfl, hbv⟩; have HD := Lib.hid (by first | exact HD.out.trans (hbv.mono HD.out.size) | exact HD.out.drew.trans (hbv.mono HD.out.size) : Below wr.heap.size wr wv))
            | (go_at_call_of 19 (Value.int IntKind.i64 1); refine (test_is 1 k1 n1 t1 k2 n2 t2 _ _ X1.out).mono ?_; rintro e wv ⟨rfl, hbv⟩; have HD := Lib.hid (by first | exact HD.out.trans (hbv.mono HD.out.size) | exact HD.out.drew.trans (hbv.mono HD.out.size) : Below wr.heap.size wr wv))
            | (go_at_call_of 19 (Value.int IntKind.i64 4); refine (test_is 4 k1 n1 t1 k2 n2 t2 _ _ X4.out).mono ?_; rintro e wv ⟨rfl, hbv⟩; have HD := Lib.hid (by first | exact HD.out.trans (hbv.mono HD.out.size) | exact HD.out.drew.trans (hbv.mono HD.out.size) : Below wr.heap.size wr wv))
            | (go_at_call_of 19 (Value.int IntKind.i64 5); refine (test_is 5 k1 n1 t1 k2 n2 t2 _ _ X5.out).mono ?_; rintro e wv ⟨rfl, hbv⟩; have HD := Lib.hid (by first | exact HD.out.trans (hbv.mono HD.out.size) | exact HD.out.drew.trans (hbv.mono HD.out.size) : Below wr.heap.size wr wv))
            | (go_at_call_of 19 (Value.int IntKind.i64 6); refine (test_is 6 k1 n1 t1 k2 n2 t2 _ _ X6.out).mono ?_; rintro e wv ⟨rfl, hbv⟩; have HD := Lib.hid (by first | exact HD.out.trans (hbv.mono HD.out.size) | exact HD.out.drew.trans (hbv.mono HD.out.size) : Below wr.heap.size wr wv))
            | (go_at_call_of 19 (Value.int IntKind.i64 3); refine (test_is 3 k1 n1 t1 k2 n2 t2 _ _ X3.out).mono ?_; rintro e wv ⟨rfl, hbv⟩; have HD := Lib.hid (by first | exact HD.out.trans (hbv.mono HD.out.size) | exact HD.out.drew.trans (hbv.mono HD.out.size) : Below wr.heap.size wr wv))
            | (go_at_call_of 19 (Value.int IntKind.i64 8); refine (test_is 8 k1 n1 t1 k2 n2 t2 _ _ X8.out).mono ?_; rintro e wv ⟨rfl, hbv⟩; have HD := Lib.hid (by first | exact HD.out.trans (hbv.mono HD.out.size) | exact HD.out.drew.trans (hbv.mono HD.out.size) : Below wr.heap.size wr wv)))
          go_wp2_with fail
          go_ret
          exact ⟨ret_bool (by first | rfl | simp), HE.out.trans (HD.out.mono HE.out.size)⟩
        · obtain rfl : m = 1 := by rw [HM.out]; rfl
          clear HM
          go_wp2_with fail
          go_region_held3 (fun w' => w.heap.size + 1 < w'.heap.size ∧ w'.cell? ⟨w.heap.size, 0, none⟩ = some (.int .i64 k1) ∧ w'.cell? ⟨w.heap.size, 1, none⟩ = some (.int .i64 n1) ∧ w'.cell? ⟨w.heap.size, 2, none⟩ = some (.string t1) ∧
            w'.cell? ⟨w.heap.size + 1, 0, none⟩ = some (.int .i64 k2) ∧ w'.cell? ⟨w.heap.size + 1, 1, none⟩ = some (.int .i64 n2) ∧ w'.cell? ⟨w.heap.size + 1, 2, none⟩ = some (.string t2))
          (first
            | go_keep
            | (refine held_on ?_ hbv; assumption))
          (first
            | (go_at_call_of 19 (Value.int IntKind.i64 2); refine (test_is 2 k1 n1 t1 k2 n2 t2 _ _ X2.out).mono ?_; rintro e wv ⟨rfl, hbv⟩; have HD := Lib.hid (by first | exact HD.out.trans (hbv.mono HD.out.size) | exact HD.out.drew.trans (hbv.mono HD.out.size) : Below wr.heap.size wr wv))
            | (go_at_call_of 19 (Value.int IntKind.i64 1); refine (test_is 1 k1 n1 t1 k2 n2 t2 _ _ X1.out).mono ?_; rintro e wv ⟨rfl, hbv⟩; have HD := Lib.hid (by first | exact HD.out.trans (hbv.mono HD.out.size) | exact HD.out.drew.trans (hbv.mono HD.out.size) : Below wr.heap.size wr wv))
            | (go_at_call_of 19 (Value.int IntKind.i64 4); refine (test_is 4 k1 n1 t1 k2 n2 t2 _ _ X4.out).mono ?_; rintro e wv ⟨rfl, hbv⟩; have HD := Lib.hid (by first | exact HD.out.trans (hbv.mono HD.out.size) | exact HD.out.drew.trans (hbv.mono HD.out.size) : Below wr.heap.size wr wv))
            | (go_at_call_of 19 (Value.int IntKind.i64 5); refine (test_is 5 k1 n1 t1 k2 n2 t2 _ _ X5.out).mono ?_; rintro e wv ⟨rfl, hbv⟩; have HD := Lib.hid (by first | exact HD.out.trans (hbv.mono HD.out.size) | exact HD.out.drew.trans (hbv.mono HD.out.size) : Below wr.heap.size wr wv))
            | (go_at_call_of 19 (Value.int IntKind.i64 6); refine (test_is 6 k1 n1 t1 k2 n2 t2 _ _ X6.out).mono ?_; rintro e wv ⟨rfl, hbv⟩; have HD := Lib.hid (by first | exact HD.out.trans (hbv.mono HD.out.size) | exact HD.out.drew.trans (hbv.mono HD.out.size) : Below wr.heap.size wr wv))
            | (go_at_call_of 19 (Value.int IntKind.i64 3); refine (test_is 3 k1 n1 t1 k2 n2 t2 _ _ X3.out).mono ?_; rintro e wv ⟨rfl, hbv⟩; have HD := Lib.hid (by first | exact HD.out.trans (hbv.mono HD.out.size) | exact HD.out.drew.trans (hbv.mono HD.out.size) : Below wr.heap.size wr wv))
            | (go_at_call_of 19 (Value.int IntKind.i64 8); refine (test_is 8 k1 n1 t1 k2 n2 t2 _ _ X8.out).mono ?_; rintro e wv ⟨rfl, hbv⟩; have HD := Lib.hid (by first | exact HD.out.trans (hbv.mono HD.out.size) | exact HD.out.drew.trans (hbv.mono HD.out.size) : Below wr.heap.size wr wv)))
          go_wp2_with fail
          go_ret
          exact ⟨ret_bool (by first | rfl | simp), HE.out.trans (HD.out.mono HE.out.size)⟩
        · obtain rfl : m = 1 := by rw [HM.out]; rfl
          clear HM
          go_wp2_with fail
          go_region_held3 (fun w' => w.heap.size + 1 < w'.heap.size ∧ w'.cell? ⟨w.heap.size, 0, none⟩ = some (.int .i64 k1) ∧ w'.cell? ⟨w.heap.size, 1, none⟩ = some (.int .i64 n1) ∧ w'.cell? ⟨w.heap.size, 2, none⟩ = some (.string t1) ∧
            w'.cell? ⟨w.heap.size + 1, 0, none⟩ = some (.int .i64 k2) ∧ w'.cell? ⟨w.heap.size + 1, 1, none⟩ = some (.int .i64 n2) ∧ w'.cell? ⟨w.heap.size + 1, 2, none⟩ = some (.string t2))
          (first
            | go_keep
            | (refine held_on ?_ hbv; assumption))
          (first
            | (go_at_call_of 19 (Value.int IntKind.i64 2); refine (test_is 2 k1 n1 t1 k2 n2 t2 _ _ X2.out).mono ?_; rintro e wv ⟨rfl, hbv⟩; have HD := Lib.hid (by first | exact HD.out.trans (hbv.mono HD.out.size) | exact HD.out.drew.trans (hbv.mono HD.out.size) : Below wr.heap.size wr wv))
            | (go_at_call_of 19 (Value.int IntKind.i64 1); refine (test_is 1 k1 n1 t1 k2 n2 t2 _ _ X1.out).mono ?_; rintro e wv ⟨rfl, hbv⟩; have HD := Lib.hid (by first | exact HD.out.trans (hbv.mono HD.out.size) | exact HD.out.drew.trans (hbv.mono HD.out.size) : Below wr.heap.size wr wv))
            | (go_at_call_of 19 (Value.int IntKind.i64 4); refine (test_is 4 k1 n1 t1 k2 n2 t2 _ _ X4.out).mono ?_; rintro e wv ⟨rfl, hbv⟩; have HD := Lib.hid (by first | exact HD.out.trans (hbv.mono HD.out.size) | exact HD.out.drew.trans (hbv.mono HD.out.size) : Below wr.heap.size wr wv))
            | (go_at_call_of 19 (Value.int IntKind.i64 5); refine (test_is 5 k1 n1 t1 k2 n2 t2 _ _ X5.out).mono ?_; rintro e wv ⟨rfl, hbv⟩; have HD := Lib.hid (by first | exact HD.out.trans (hbv.mono HD.out.size) | exact HD.out.drew.trans (hbv.mono HD.out.size) : Below wr.heap.size wr wv))
            | (go_at_call_of 19 (Value.int IntKind.i64 6); refine (test_is 6 k1 n1 t1 k2 n2 t2 _ _ X6.out).mono ?_; rintro e wv ⟨rfl, hbv⟩; have HD := Lib.hid (by first | exact HD.out.trans (hbv.mono HD.out.size) | exact HD.out.drew.trans (hbv.mono HD.out.size) : Below wr.heap.size wr wv))
            | (go_at_call_of 19 (Value.int IntKind.i64 3); refine (test_is 3 k1 n1 t1 k2 n2 t2 _ _ X3.out).mono ?_; rintro e wv ⟨rfl, hbv⟩; have HD := Lib.hid (by first | exact HD.out.trans (hbv.mono HD.out.size) | exact HD.out.drew.trans (hbv.mono HD.out.size) : Below wr.heap.size wr wv))
            | (go_at_call_of 19 (Value.int IntKind.i64 8); refine (test_is 8 k1 n1 t1 k2 n2 t2 _ _ X8.out).mono ?_; rintro e wv ⟨rfl, hbv⟩; have HD := Lib.hid (by first | exact HD.out.trans (hbv.mono HD.out.size) | exact HD.out.drew.trans (hbv.mono HD.out.size) : Below wr.heap.size wr wv)))
          go_wp2_with fail
          go_ret
          exact ⟨ret_bool (by first | rfl | simp), HE.out.trans (HD.out.mono HE.out.size)⟩

theorem valTests_walk (k1 n1 : Int) (s1 : ByteArray) (k2 n2 : Int) (s2 : ByteArray) (_lo1 : -9223372036854775808 ≤ n1) (_hi1 : n1 ≤ 9223372036854775807) (h1 : s1.size ≤ maxLen) (_lo2 : -9223372036854775808 ≤ n2) (_hi2 : n2 ≤ 9223372036854775807) (h2 : s2.size ≤ maxLen) (w : World) (ht : TabAt w) :
    Calls Tryd.prog 6 #[.agg #[.int .i64 k1, .int .i64 n1, .string s1], .agg #[.int .i64 k2, .int .i64 n2, .string s2]] w fun e w' => e = .returned (.bool true) ∧ Below w.heap.size w w' :=
  valTests_core k1 n1 s1 k2 n2 s2 h1 h2 w ht
end Go.Proofs.YtkgjfedpjbnjkaaDoor
