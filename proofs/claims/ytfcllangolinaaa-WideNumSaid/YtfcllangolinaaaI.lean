/- Contract of the reference's Big: Times. -/
import Derived.Test.YtfcllangolinaaaH
namespace Go.Proofs.Ytfcllangolinaaa
open Go Go.RowKit

/-- Eight cells of block g are stored anew. -/
def set8 (w : World) (g : Nat) (z : Int) : World := (((((((w.setCell ⟨g, 0, none⟩ (.int .u32 (dg (z) 0))).setCell ⟨g, 1, none⟩ (.int .u32 (dg (z) 1))).setCell ⟨g, 2, none⟩ (.int .u32 (dg (z) 2))).setCell ⟨g, 3, none⟩ (.int .u32 (dg (z) 3))).setCell ⟨g, 4, none⟩ (.int .u32 (dg (z) 4))).setCell ⟨g, 5, none⟩ (.int .u32 (dg (z) 5))).setCell ⟨g, 6, none⟩ (.int .u32 (dg (z) 6))).setCell ⟨g, 7, none⟩ (.int .u32 (dg (z) 7))
theorem set8_eq (w : World) (g : Nat) (z : Int) : (((((((w.setCell ⟨g, 0, none⟩ (.int .u32 (dg (z) 0))).setCell ⟨g, 1, none⟩ (.int .u32 (dg (z) 1))).setCell ⟨g, 2, none⟩ (.int .u32 (dg (z) 2))).setCell ⟨g, 3, none⟩ (.int .u32 (dg (z) 3))).setCell ⟨g, 4, none⟩ (.int .u32 (dg (z) 4))).setCell ⟨g, 5, none⟩ (.int .u32 (dg (z) 5))).setCell ⟨g, 6, none⟩ (.int .u32 (dg (z) 6))).setCell ⟨g, 7, none⟩ (.int .u32 (dg (z) 7)) = set8 w g z := rfl
theorem set8_size (w : World) (g : Nat) (z : Int) : (set8 w g z).heap.size = w.heap.size := by unfold set8; simp
theorem bbox_set8 {w : World} {g : Nat} {y : Int} (h : BBox w g y) (z : Int) : BBox (set8 w g z) g z := by
  have h' : w.rowIs g 30 8 (fun j => .int .u32 (dg y j)) := h
  refine ((((((((h'.set 0 _).set 1 _).set 2 _).set 3 _).set 4 _).set 5 _).set 6 _).set 7 _).congr ?_
  intro i hi
  rcases (by omega : i = 0 ∨ i = 1 ∨ i = 2 ∨ i = 3 ∨ i = 4 ∨ i = 5 ∨ i = 6 ∨ i = 7) with rfl | rfl | rfl | rfl | rfl | rfl | rfl | rfl <;> rfl
theorem row_far8 {w : World} {g b n : Nat} {t : TypeId} {f : Nat → Value} (h : w.rowIs b t n f) (hne : b ≠ g) (z : Int) : (set8 w g z).rowIs b t n f :=
  (((((((h.setOther (a := ⟨g, 0, none⟩) hne _).setOther (a := ⟨g, 1, none⟩) hne _).setOther (a := ⟨g, 2, none⟩) hne _).setOther (a := ⟨g, 3, none⟩) hne _).setOther (a := ⟨g, 4, none⟩) hne _).setOther (a := ⟨g, 5, none⟩) hne _).setOther (a := ⟨g, 6, none⟩) hne _).setOther (a := ⟨g, 7, none⟩) hne _
theorem bbox_far8 {w : World} {g b : Nat} {y : Int} (h : BBox w b y) (hne : b ≠ g) (z : Int) : BBox (set8 w g z) b y := row_far8 h hne z
theorem row8_far8 {w : World} {g b k : Nat} {y : Int} (h : Row8 w b y k) (hne : b ≠ g) (z : Int) : Row8 (set8 w g z) b y k := row_far8 h hne z
theorem below_set {B g : Nat} {w wr : World} (h : Below B w wr) (hg : B ≤ g) (z : Int) : Below B w (set8 wr g z) := below_set8 h hg _ _ _ _ _ _ _ _
theorem dg_zero (i : Nat) : dg 0 i = 0 := by unfold dg; simp
theorem row8_zero {w : World} {g : Nat} (h : Row8 w g 0 0) : BBox w g 0 := World.rowIs.congr h (fun i hi => by rw [if_neg (by omega), dg_zero])
theorem bbox_free {w : World} {g : Nat} {z : Int} (h : BBox w g z) : w.frozen? ⟨g, 0, none⟩ = false ∧ w.frozen? ⟨g, 1, none⟩ = false ∧ w.frozen? ⟨g, 2, none⟩ = false ∧ w.frozen? ⟨g, 3, none⟩ = false ∧ w.frozen? ⟨g, 4, none⟩ = false ∧ w.frozen? ⟨g, 5, none⟩ = false ∧ w.frozen? ⟨g, 6, none⟩ = false ∧ w.frozen? ⟨g, 7, none⟩ = false :=
  ⟨World.rowIs.frozen h _, World.rowIs.frozen h _, World.rowIs.frozen h _, World.rowIs.frozen h _, World.rowIs.frozen h _, World.rowIs.frozen h _, World.rowIs.frozen h _, World.rowIs.frozen h _⟩

theorem and1_u64 (a : Int) (h0 : 0 ≤ a) (h1 : a < 18446744073709551616) : bits .and .u64 a 1 = a % 2 := by
  rw [u64_and a 1 h0 h1 (by decide) (by decide)]
  rw [show (1 : Int).toNat = 2 ^ 1 - 1 from rfl, Nat.and_two_pow_sub_one_eq_mod]
  omega
theorem pow2_pos (i : Nat) : (0 : Int) < 2 ^ i := Int.pow_pos (by decide)
theorem half_step (u : Int) (m : Nat) : u / 2 ^ (m + 1) = u / 2 ^ m / 2 := by rw [Int.pow_succ, Int.ediv_ediv_of_nonneg (Int.le_of_lt (pow2_pos m))]
theorem half_bd (u : Int) (m : Nat) (h0 : 0 ≤ u) : 0 ≤ u / 2 ^ m ∧ u / 2 ^ m ≤ u := ⟨Int.ediv_nonneg h0 (Int.le_of_lt (pow2_pos m)), Int.ediv_le_self _ h0⟩
theorem bit_is (u : Int) (m : Nat) (h0 : 0 ≤ u) (h1 : u < 18446744073709551616) : bits .and .u64 (u / 2 ^ m) 1 = u / 2 ^ m % 2 := by
  have := half_bd u m h0
  exact and1_u64 _ this.1 (by omega)
theorem bit_no (x u : Int) (m : Nat) (h : u / 2 ^ m % 2 = 0) : x * (u / 2 ^ (m + 1)) + x * (u / 2 ^ (m + 1)) = x * (u / 2 ^ m) := by
  rw [half_step, ← Int.mul_add]
  generalize u / 2 ^ m = a at *
  rw [show a / 2 + a / 2 = a from by omega]
theorem bit_yes (x u : Int) (m : Nat) (h : u / 2 ^ m % 2 = 1) : x * (u / 2 ^ (m + 1)) + x * (u / 2 ^ (m + 1)) + x = x * (u / 2 ^ m) := by
  rw [half_step, ← Int.mul_add]
  generalize u / 2 ^ m = a at *
  have h2 := Int.mul_add x (a / 2 + a / 2) 1
  rw [Int.mul_one] at h2
  rw [← h2, show a / 2 + a / 2 + 1 = a from by omega]

theorem refNeg_ex (x : Int) (w : World) :
    Calls Try.prog 16 #[.agg #[.int .u32 (dg (x) 0), .int .u32 (dg (x) 1), .int .u32 (dg (x) 2), .int .u32 (dg (x) 3), .int .u32 (dg (x) 4), .int .u32 (dg (x) 5), .int .u32 (dg (x) 6), .int .u32 (dg (x) 7)]] w fun e w' => e = .returned (.agg #[.int .u32 (dg (-x) 0), .int .u32 (dg (-x) 1), .int .u32 (dg (-x) 2), .int .u32 (dg (-x) 3), .int .u32 (dg (-x) 4), .int .u32 (dg (-x) 5), .int .u32 (dg (-x) 6), .int .u32 (dg (-x) 7)]) ∧ Below w.heap.size w w' := refNeg_any x w
theorem times_end (x n u : Int) (h : u = n + 18446744073709551616) : x * u + -(x * 2 ^ 64) = x * n := by
  rw [h, Int.mul_add]; simp only [Int.reducePow]; omega

set_option maxRecDepth 10000 in
set_option maxHeartbeats 2000000 in
theorem refTimes_any (x n : Int) (w : World) (h0 : -9223372036854775808 ≤ n) (h1 : n ≤ 9223372036854775807) :
    Calls Try.prog 18 #[.agg (bigC x), .int .i64 n] w fun e w' => e = .returned (.agg (bigC (x * n))) ∧ Below w.heap.size w w' := by
  have b0 := bbox_new w x
  have b1 := row8_new (w.alloc (.cells (bigC x) 30)) 0
  have b2 := row8_new ((w.alloc (.cells (bigC x) 30)).alloc (.cells #[.int .u32 0, .int .u32 0, .int .u32 0, .int .u32 0, .int .u32 0, .int .u32 0, .int .u32 0, .int .u32 0] 30)) 0
  simp only [World.size_alloc] at b1 b2
  have B0 := Lib.hid (World.rowIs.alloc (World.rowIs.alloc b0 (.cells #[.int .u32 0, .int .u32 0, .int .u32 0, .int .u32 0, .int .u32 0, .int .u32 0, .int .u32 0, .int .u32 0] 30)) (.cells #[.int .u32 0, .int .u32 0, .int .u32 0, .int .u32 0, .int .u32 0, .int .u32 0, .int .u32 0, .int .u32 0] 30))
  have B1 := Lib.hid (World.rowIs.alloc b1 (.cells #[.int .u32 0, .int .u32 0, .int .u32 0, .int .u32 0, .int .u32 0, .int .u32 0, .int .u32 0, .int .u32 0] 30))
  have B2 := Lib.hid (row8_zero b2)
  have HB := Lib.hid (below_alloc3 w (.cells (bigC x) 30) (.cells #[.int .u32 0, .int .u32 0, .int .u32 0, .int .u32 0, .int .u32 0, .int .u32 0, .int .u32 0, .int .u32 0] 30) (.cells #[.int .u32 0, .int .u32 0, .int .u32 0, .int .u32 0, .int .u32 0, .int .u32 0, .int .u32 0, .int .u32 0] 30))
  have hu0 : 0 ≤ IntKind.u64.wrap n := by rw [IntKind.wrap_u64]; omega
  have hu1 : IntKind.u64.wrap n < 18446744073709551616 := by rw [IntKind.wrap_u64]; omega
  clear b0 b1 b2
  go_enter Try.func18, Try.ntmps18
  go_wp2
  go_loopw [7] (fun i wr => ∃ k : Int, -1 ≤ k ∧ k ≤ 63 ∧ i = .int .i64 k ∧ Hid (BBox wr w.heap.size x) ∧ Hid (Row8 wr (w.heap.size + 1) 0 0) ∧ Hid (BBox wr (w.heap.size + 1 + 1) (x * (IntKind.u64.wrap n / 2 ^ (k + 1).toNat))) ∧ Hid (Below w.heap.size w wr)) (fun i _ => (intOf i + 1).toNat)
  case atStart => 
    refine ⟨63, by omega, by omega, rfl, B0, B1, ?_, HB⟩
    have e : x * (IntKind.u64.wrap n / 2 ^ ((63 : Int) + 1).toNat) = 0 := by
      rw [show ((63 : Int) + 1).toNat = 64 from rfl]; simp only [Int.reducePow]
      rw [show IntKind.u64.wrap n / 18446744073709551616 = 0 from by omega, Int.mul_zero]
    rw [e]; exact B2
  case round =>
    obtain ⟨k, hk0, hk1, rfl, X, R, O, HW⟩ := hrel
    clear B0 B1 B2 HB
    by_cases hk : 0 ≤ k
    · obtain ⟨m, rfl⟩ := Int.eq_ofNat_of_zero_le hk
      rw [show ((m : Int) + 1).toNat = m + 1 from by omega] at O
      have hm : m < 64 := by omega
      obtain ⟨c0, c1, c2, c3, c4, c5, c6, c7⟩ := bbox_cells O.out
      have hbit := bit_is (IntKind.u64.wrap n) m hu0 hu1
      rcases (by omega : IntKind.u64.wrap n / 2 ^ m % 2 = 0 ∨ IntKind.u64.wrap n / 2 ^ m % 2 = 1) with hp | hp
      · have E := Lib.hid (bit_no x _ m hp)
        have ht : (bits .and .u64 (IntKind.u64.wrap n / 2 ^ m) 1 == 1) = false := by rw [hbit, hp]; rfl
        clear hbit hp
        generalize x * (IntKind.u64.wrap n / 2 ^ (m + 1)) = a at *
        go_wp2_with fail
        refine (refAdd_ex a a _).mono ?_
        rintro e w1 ⟨rfl, hb⟩
        have HB := Lib.hid hb
        clear hb c0 c1 c2 c3 c4 c5 c6 c7
        have O1 := Lib.hid (bbox_on O.out HB.out)
        obtain ⟨c0, c1, c2, c3, c4, c5, c6, c7⟩ := bbox_cells O1.out
        obtain ⟨f0, f1, f2, f3, f4, f5, f6, f7⟩ := bbox_free O1.out
        go_wp2
        refine ⟨⟨(m : Int) - 1, by omega, by omega, rfl, Lib.hid (bbox_far8 (bbox_on X.out HB.out) (by omega) (a + a)), Lib.hid (row8_far8 (row8_on R.out HB.out) (by omega) (a + a)), ?_, Lib.hid (below_set (HW.out.trans (HB.out.mono HW.out.size)) (by omega) (a + a))⟩, by simp [intOf]⟩
        rw [show ((m : Int) - 1 + 1).toNat = m from by omega, ← E.out]
        exact Lib.hid (bbox_set8 O1.out (a + a))
      · have E := Lib.hid (bit_yes x _ m hp)
        have ht : (bits .and .u64 (IntKind.u64.wrap n / 2 ^ m) 1 == 1) = true := by rw [hbit, hp]; rfl
        clear hbit hp
        generalize x * (IntKind.u64.wrap n / 2 ^ (m + 1)) = a at *
        go_wp2_with fail
        refine (refAdd_ex a a _).mono ?_
        rintro e w1 ⟨rfl, hb⟩
        have HB := Lib.hid hb
        clear hb c0 c1 c2 c3 c4 c5 c6 c7
        have O1 := Lib.hid (bbox_on O.out HB.out)
        have X1 := Lib.hid (bbox_on X.out HB.out)
        obtain ⟨c0, c1, c2, c3, c4, c5, c6, c7⟩ := bbox_cells O1.out
        obtain ⟨d0, d1, d2, d3, d4, d5, d6, d7⟩ := bbox_cells X1.out
        obtain ⟨f0, f1, f2, f3, f4, f5, f6, f7⟩ := bbox_free O1.out
        go_wp2_with fail
        refine (refAdd_ex (a + a) x _).mono ?_
        rintro e w2 ⟨rfl, hb⟩
        have HB2 : Hid (Below (set8 w1 (w.heap.size + 1 + 1) (a + a)).heap.size (set8 w1 (w.heap.size + 1 + 1) (a + a)) w2) := Lib.hid hb
        clear hb c0 c1 c2 c3 c4 c5 c6 c7 f0 f1 f2 f3 f4 f5 f6 f7 d0 d1 d2 d3 d4 d5 d6 d7
        have O2 := Lib.hid (bbox_on (bbox_set8 O1.out (a + a)) HB2.out)
        have X2 := Lib.hid (bbox_on (bbox_far8 (g := w.heap.size + 1 + 1) X1.out (by omega) (a + a)) HB2.out)
        have R2 := Lib.hid (row8_on (row8_far8 (g := w.heap.size + 1 + 1) (row8_on R.out HB.out) (by omega) (a + a)) HB2.out)
        have HW2 := Lib.hid (below_set (HW.out.trans (HB.out.mono HW.out.size)) (g := w.heap.size + 1 + 1) (by omega) (a + a))
        have HW3 := Lib.hid (HW2.out.trans (HB2.out.mono HW2.out.size))
        obtain ⟨c0, c1, c2, c3, c4, c5, c6, c7⟩ := bbox_cells O2.out
        obtain ⟨f0, f1, f2, f3, f4, f5, f6, f7⟩ := bbox_free O2.out
        go_wp2
        refine ⟨⟨(m : Int) - 1, by omega, by omega, rfl, Lib.hid (bbox_far8 X2.out (by omega) (a + a + x)), Lib.hid (row8_far8 R2.out (by omega) (a + a + x)), ?_, Lib.hid (below_set HW3.out (by omega) (a + a + x))⟩, by simp [intOf]⟩
        rw [show ((m : Int) - 1 + 1).toNat = m from by omega, ← E.out]
        exact Lib.hid (bbox_set8 O2.out (a + a + x))
    · have : k = -1 := by omega
      subst this
      clear hk0 hk1 hk
      rw [show IntKind.u64.wrap n / 2 ^ ((-1 : Int) + 1).toNat = IntKind.u64.wrap n from by simp] at O
      by_cases hn : n < 0
      · have hu : IntKind.u64.wrap n = n + 18446744073709551616 := by rw [IntKind.wrap_u64]; omega
        have HU := Lib.hid hu
        clear hu
        obtain ⟨wo, hwo⟩ : ∃ wo : World, wo = wr := ⟨_, rfl⟩
        subst hwo
        obtain ⟨c0, c1, c2, c3, c4, c5, c6, c7⟩ := bbox_cells X.out
        have hz : w.heap.size + 1 + 1 < wo.heap.size := World.rowIs.lt O.out
        go_wp2
        go_loopw [9] (fun i wr => ∃ k : Nat, k ≤ 64 ∧ i = .int .i64 k ∧ Hid (BBox wr (w.heap.size + 1 + 1) (x * IntKind.u64.wrap n)) ∧ Hid (Row8 wr (w.heap.size + 1) 0 0) ∧ Hid (BBox wr wo.heap.size (x * 2 ^ k)) ∧ Hid (Below w.heap.size w wr)) (fun i _ => 64 - (intOf i).toNat)
        case atStart =>
          refine ⟨0, by omega, rfl, Lib.hid (World.rowIs.alloc O.out _), Lib.hid (World.rowIs.alloc R.out _), ?_, Lib.hid (HW.out.alloc HW.out.size _)⟩
          rw [show x * 2 ^ 0 = x from by simp]
          exact Lib.hid (bbox_new wo x)
        case round =>
          obtain ⟨k, hk, rfl, O, R, B, HW⟩ := hrel
          clear c0 c1 c2 c3 c4 c5 c6 c7 X
          obtain ⟨c0, c1, c2, c3, c4, c5, c6, c7⟩ := bbox_cells B.out
          by_cases hlt : k < 64
          · have e2 : x * 2 ^ k + x * 2 ^ k = x * 2 ^ (k + 1) := by rw [Int.pow_succ, ← Int.mul_assoc]; omega
            have E := Lib.hid e2
            clear e2
            go_wp2_with fail
            refine (refAdd_to _ _ _ E.out _).mono ?_
            rintro e w1 ⟨rfl, hb⟩
            have HB := Lib.hid hb
            clear hb c0 c1 c2 c3 c4 c5 c6 c7
            have B1 := Lib.hid (bbox_on B.out HB.out)
            obtain ⟨c0, c1, c2, c3, c4, c5, c6, c7⟩ := bbox_cells B1.out
            obtain ⟨f0, f1, f2, f3, f4, f5, f6, f7⟩ := bbox_free B1.out
            go_wp2
            exact ⟨⟨k + 1, by omega, by go_num, Lib.hid (bbox_far8 (bbox_on O.out HB.out) (by omega) (x * 2 ^ (k + 1))), Lib.hid (row8_far8 (row8_on R.out HB.out) (by omega) (x * 2 ^ (k + 1))), Lib.hid (bbox_set8 B1.out (x * 2 ^ (k + 1))), Lib.hid (below_set (HW.out.trans (HB.out.mono HW.out.size)) (by omega) (x * 2 ^ (k + 1)))⟩, by simp [intOf]; omega⟩
          · obtain rfl : k = 64 := by omega
            have E := Lib.hid (times_end x n _ HU.out)
            clear hk hlt
            generalize x * 2 ^ 64 = y at *
            obtain ⟨o0, o1, o2, o3, o4, o5, o6, o7⟩ := bbox_cells O.out
            go_wp2_with fail
            go_region_with (first
              | (go_at_call 16; refine (refNeg_ex y _).mono ?_; rintro e w' ⟨rfl, hb⟩; have HB := Lib.hid (below_undrew hb); clear hb; obtain ⟨p0, p1, p2, p3, p4, p5, p6, p7⟩ := bbox_cells (bbox_on O.out HB.out))
              | (go_at_call 13; refine (refAdd_to _ _ _ E.out _).mono ?_; rintro e w'' ⟨rfl, hb'⟩; have HB' := Lib.hid hb'; clear hb'; obtain ⟨q0, q1, q2, q3, q4, q5, q6, q7⟩ := bbox_cells (bbox_on (bbox_on O.out HB.out) HB'.out); obtain ⟨f0, f1, f2, f3, f4, f5, f6, f7⟩ := bbox_free (bbox_on (bbox_on O.out HB.out) HB'.out)))
            all_goals
              obtain ⟨r0, r1, r2, r3, r4, r5, r6, r7⟩ := row8_cells (row8_on (row8_on R.out HB.out) HB'.out)
              obtain ⟨g0, g1, g2, g3, g4, g5, g6, g7⟩ := row8_free (row8_on (row8_on R.out HB.out) HB'.out)
              go_wp2
              refine bodyPost_ret (v := .agg (bigC (x * n))) (by simp [results, Try.results18, go_sem, r0, r1, r2, r3, r4, r5, r6, r7]) rfl ⟨rfl, ?_⟩
              have H1 := HW.out.trans (HB.out.mono HW.out.size)
              exact below_set (below_set (H1.trans (HB'.out.mono H1.size)) (by omega) (x * n)) (by omega) (x * n)
      · have hu : IntKind.u64.wrap n = n := by rw [IntKind.wrap_u64]; omega
        rw [hu] at O
        clear hu
        obtain ⟨o0, o1, o2, o3, o4, o5, o6, o7⟩ := bbox_cells O.out
        obtain ⟨r0, r1, r2, r3, r4, r5, r6, r7⟩ := row8_cells R.out
        obtain ⟨f0, f1, f2, f3, f4, f5, f6, f7⟩ := row8_free R.out
        go_wp2
        refine bodyPost_ret (v := .agg (bigC (x * n))) (by simp [results, Try.results18, go_sem, r0, r1, r2, r3, r4, r5, r6, r7]) rfl ⟨rfl, ?_⟩
        exact below_set HW.out (by omega) (x * n)
end Go.Proofs.Ytfcllangolinaaa
