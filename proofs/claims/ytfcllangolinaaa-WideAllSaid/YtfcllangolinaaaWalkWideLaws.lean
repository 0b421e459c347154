/- The walk of WideLaws. -/
import Derived.Test.YtfcllangolinaaaWalkWideParts
namespace Go.Proofs.Ytfcllangolinaaa
open Go Go.RowKit

theorem add_to (x y z : Int) (h : x + y = z) (w : World) :
    Calls Try.prog 11 #[.agg #[.int .i64 (hiOf x), .int .u64 (loOf x)], .agg #[.int .i64 (hiOf y), .int .u64 (loOf y)]] w fun e w' => e = .returned (.agg #[.int .i64 (hiOf z), .int .u64 (loOf z)]) ∧ Below w.heap.size w w' := by subst h; exact add_any x y w
theorem wfree_new (w : World) (h l : Int) : (w.alloc (.cells #[.int .i64 h, .int .u64 l] 27)).frozen? ⟨w.heap.size, 0, none⟩ = false ∧ (w.alloc (.cells #[.int .i64 h, .int .u64 l] 27)).frozen? ⟨w.heap.size, 1, none⟩ = false := by
  unfold World.frozen?; rw [heap_alloc_new]; exact ⟨rfl, rfl⟩
theorem wfree_on {w w' : World} {g : Nat} {h l : Int} (c : WAt w g h l) (f : w.frozen? ⟨g, 0, none⟩ = false ∧ w.frozen? ⟨g, 1, none⟩ = false) (hb : Below w.heap.size w w') : w'.frozen? ⟨g, 0, none⟩ = false ∧ w'.frozen? ⟨g, 1, none⟩ = false := by
  have hlt := World.block_lt_of_cell? _ _ c.1
  obtain ⟨_, hf⟩ := bcell hb
  exact ⟨(hf _ _ hlt).trans f.1, (hf _ _ hlt).trans f.2⟩
theorem wfree_set {w : World} {g : Nat} (f : w.frozen? ⟨g, 0, none⟩ = false ∧ w.frozen? ⟨g, 1, none⟩ = false) (u v : Value) : ((w.setCell ⟨g, 0, none⟩ u).setCell ⟨g, 1, none⟩ v).frozen? ⟨g, 0, none⟩ = false ∧ ((w.setCell ⟨g, 0, none⟩ u).setCell ⟨g, 1, none⟩ v).frozen? ⟨g, 1, none⟩ = false := by
  simpa using f
theorem wat_far {w : World} {g b : Nat} {h l : Int} (c : WAt w b h l) (hne : b ≠ g) (u v : Value) : WAt ((w.setCell ⟨g, 0, none⟩ u).setCell ⟨g, 1, none⟩ v) b h l := by
  have e0 : ∀ i, ((w.setCell ⟨g, 0, none⟩ u).setCell ⟨g, 1, none⟩ v).cell? ⟨b, i, none⟩ = w.cell? ⟨b, i, none⟩ := fun i => by
    rw [World.cell?_setCell_far _ _ _ _ (fun e => hne e.symm), World.cell?_setCell_far _ _ _ _ (fun e => hne e.symm)]
  exact ⟨(e0 0).trans c.1, (e0 1).trans c.2⟩
theorem wat_set {w : World} {g : Nat} {h l : Int} (c : WAt w g h l) (h' l' : Int) : WAt ((w.setCell ⟨g, 0, none⟩ (.int .i64 h')).setCell ⟨g, 1, none⟩ (.int .u64 l')) g h' l' := by
  obtain ⟨c0, c1⟩ := c
  unfold WAt
  constructor
  · go_simp
  · go_simp

set_option maxRecDepth 10000 in
set_option maxHeartbeats 8000000 in
theorem wideLaws_walk (a b c n : Int) (ha0 : -9223372036854775808 ≤ a) (ha1 : a ≤ 9223372036854775807) (hb0 : -9223372036854775808 ≤ b) (hb1 : b ≤ 9223372036854775807)
    (hc0 : -9223372036854775808 ≤ c) (hc1 : c ≤ 9223372036854775807) (_hn0 : -9223372036854775808 ≤ n) (_hn1 : n ≤ 9223372036854775807) (w : World) :
    Calls Try.prog 6 #[.int .i64 a, .int .i64 b, .int .i64 c, .int .i64 n] w fun e w' => e = .returned (.bool true) ∧ Below w.heap.size w w' := by
  have HB0 := Lib.hid (Below.refl w.heap.size w)
  go_enter Try.func6, Try.ntmps6
  go_wp2_with fail
  refine (begun_any _).mono ?_
  rintro e w1 ⟨rfl, hb⟩
  have HB1 := Lib.hid (HB0.out.trans (hb.mono HB0.out.size))
  clear hb
  go_wp2_with fail
  refine (of_any a _ ha0 ha1).mono ?_
  rintro e w2 ⟨rfl, hb⟩
  have HB2 := Lib.hid (HB1.out.trans (hb.mono HB1.out.size))
  clear hb
  go_wp2_with fail
  refine (of_any b _ hb0 hb1).mono ?_
  rintro e w3 ⟨rfl, hb⟩
  have HB3 := Lib.hid (HB2.out.trans (hb.mono HB2.out.size))
  clear hb
  go_wp2_with fail
  refine (of_any c _ hc0 hc1).mono ?_
  rintro e w4 ⟨rfl, hb⟩
  have HB4 := Lib.hid (HB3.out.trans (hb.mono HB3.out.size))
  clear hb
  have HR0 : Hid (P3 w (((w4.alloc (.cells #[.int .i64 (hiOf a), .int .u64 (loOf a)] 27)).alloc (.cells #[.int .i64 (hiOf b), .int .u64 (loOf b)] 27)).alloc (.cells #[.int .i64 (hiOf c), .int .u64 (loOf c)] 27)) w4.heap.size (w4.heap.size + 1) (w4.heap.size + 1 + 1) (hiOf a) (loOf a) (hiOf b) (loOf b) (hiOf c) (loOf c)) := by
    have k1 := wat_new w4 (hiOf a) (loOf a)
    have k2 := wat_new (w4.alloc (.cells #[.int .i64 (hiOf a), .int .u64 (loOf a)] 27)) (hiOf b) (loOf b)
    have k3 := wat_new ((w4.alloc (.cells #[.int .i64 (hiOf a), .int .u64 (loOf a)] 27)).alloc (.cells #[.int .i64 (hiOf b), .int .u64 (loOf b)] 27)) (hiOf c) (loOf c)
    simp only [World.size_alloc] at k2 k3
    exact Lib.hid ⟨wat_alloc (wat_alloc k1 _) _, wat_alloc k2 _, k3, ((HB4.out.alloc HB4.out.size (.cells #[.int .i64 (hiOf a), .int .u64 (loOf a)] 27)).alloc (by simp; have := HB4.out.size; omega) (.cells #[.int .i64 (hiOf b), .int .u64 (loOf b)] 27)).alloc (by simp; have := HB4.out.size; omega) (.cells #[.int .i64 (hiOf c), .int .u64 (loOf c)] 27)⟩
  have HC1 : Hid (Lib.compareInt (sm (a + b + c)) (sm (c + (b + a))) = 0) := Lib.hid (by rw [show c + (b + a) = a + b + c from by omega]; simp [Lib.compareInt])
  have HC2 : Hid (Lib.compareInt (sm (a + b + -b)) (sm a) = 0) := Lib.hid (by rw [show a + b + -b = a from by omega]; simp [Lib.compareInt])
  go_upto_region 5 with fail
  generalize ((w4.alloc (.cells #[.int .i64 (hiOf a), .int .u64 (loOf a)] 27)).alloc (.cells #[.int .i64 (hiOf b), .int .u64 (loOf b)] 27)).alloc (.cells #[.int .i64 (hiOf c), .int .u64 (loOf c)] 27) = wo at *
  generalize w4.heap.size = g at *
  refine wp_region_par 23 [.agg #[.int .i64 (hiOf (a)), .int .u64 (loOf (a))], .agg #[.int .i64 (hiOf (b)), .int .u64 (loOf (b))], .agg #[.int .i64 (hiOf (a + b)), .int .u64 (loOf (a + b))], .agg #[.int .i64 (hiOf (c)), .int .u64 (loOf (c))], .agg #[.int .i64 (hiOf (a + b + c)), .int .u64 (loOf (a + b + c))], .agg #[.int .i64 (hiOf (c)), .int .u64 (loOf (c))], .agg #[.int .i64 (hiOf (b)), .int .u64 (loOf (b))], .agg #[.int .i64 (hiOf (a)), .int .u64 (loOf (a))], .agg #[.int .i64 (hiOf (b + a)), .int .u64 (loOf (b + a))], .agg #[.int .i64 (hiOf (c + (b + a))), .int .u64 (loOf (c + (b + a)))], .int .i64 0, .bool false, .bool false, .agg #[.int .i64 (hiOf (a)), .int .u64 (loOf (a))], .agg #[.int .i64 (hiOf (b)), .int .u64 (loOf (b))], .agg #[.int .i64 (hiOf (a + b)), .int .u64 (loOf (a + b))], .agg #[.int .i64 (hiOf (b)), .int .u64 (loOf (b))], .agg #[.int .i64 (hiOf (-b)), .int .u64 (loOf (-b))], .agg #[.int .i64 (hiOf (a + b + -b)), .int .u64 (loOf (a + b + -b))], .agg #[.int .i64 (hiOf (a)), .int .u64 (loOf (a))], .int .i64 0, .bool false, .bool false] (fun w' => P3 w w' g (g + 1) (g + 1 + 1) (hiOf a) (loOf a) (hiOf b) (loOf b) (hiOf c) (loOf c)) ?A1 ?hm1 ?hB1 ?hA1 HR0.out.drew ?hop1 ?hT1
  case hm1 => kernel_rfl
  case hB1 => kernel_rfl
  case hA1 =>
    simp only [putA, dstAt, Act.put, List.getElem?_toArray, List.getElem?_cons_zero, List.getElem?_cons_succ, Option.bind_some, List.setIfInBounds_toArray, List.set_cons_zero, List.set_cons_succ, List.getD_cons_zero, List.getD_cons_succ]
    rfl
  case hop1 =>
    simp only [List.take_succ_cons, List.take_zero, GiveAll, and_true]
    refine ⟨fun w' hR => ?_, fun w' hR => ?_, fun w' hR => ?_, fun w' hR => ?_, fun w' hR => ?_, fun w' hR => ?_, fun w' hR => ?_, fun w' hR => ?_, fun w' hR => ?_, fun w' hR => ?_, fun w' hR => ?_, fun w' hR => ?_, fun w' hR => ?_, fun w' hR => ?_, fun w' hR => ?_, fun w' hR => ?_, fun w' hR => ?_, fun w' hR => ?_, fun w' hR => ?_, fun w' hR => ?_, fun w' hR => ?_, fun w' hR => ?_, fun w' hR => ?_⟩
    · have HR := Lib.hid hR
      obtain ⟨c0, c1⟩ := hR.a
      clear hR
      simp only [Gives]
      go_simp
      exact HR.out
    · have HR := Lib.hid hR
      obtain ⟨c0, c1⟩ := hR.b
      clear hR
      simp only [Gives]
      go_simp
      exact HR.out
    · have HR := Lib.hid hR
      clear hR
      simp only [Gives]
      go_simp
      exact (add_any a b w').mono (fun e w'' ⟨he, hb⟩ => ⟨he, HR.out.on hb⟩)
    · have HR := Lib.hid hR
      obtain ⟨c0, c1⟩ := hR.c
      clear hR
      simp only [Gives]
      go_simp
      exact HR.out
    · have HR := Lib.hid hR
      clear hR
      simp only [Gives]
      go_simp
      exact (add_any (a + b) c w').mono (fun e w'' ⟨he, hb⟩ => ⟨he, HR.out.on hb⟩)
    · have HR := Lib.hid hR
      obtain ⟨c0, c1⟩ := hR.c
      clear hR
      simp only [Gives]
      go_simp
      exact HR.out
    · have HR := Lib.hid hR
      obtain ⟨c0, c1⟩ := hR.b
      clear hR
      simp only [Gives]
      go_simp
      exact HR.out
    · have HR := Lib.hid hR
      obtain ⟨c0, c1⟩ := hR.a
      clear hR
      simp only [Gives]
      go_simp
      exact HR.out
    · have HR := Lib.hid hR
      clear hR
      simp only [Gives]
      go_simp
      exact (add_any b a w').mono (fun e w'' ⟨he, hb⟩ => ⟨he, HR.out.on hb⟩)
    · have HR := Lib.hid hR
      clear hR
      simp only [Gives]
      go_simp
      exact (add_any c (b + a) w').mono (fun e w'' ⟨he, hb⟩ => ⟨he, HR.out.on hb⟩)
    · have HR := Lib.hid hR
      clear hR
      simp only [Gives]
      go_simp
      exact (compare_lit (a + b + c) (c + (b + a)) 0 HC1.out w').mono (fun e w'' ⟨he, hb⟩ => ⟨he, HR.out.on hb⟩)
    · have HR := Lib.hid hR
      clear hR
      simp only [Gives]
      go_simp
      exact HR.out
    · have HR := Lib.hid hR
      clear hR
      simp only [Gives]
      go_simp
      exact HR.out
    · have HR := Lib.hid hR
      obtain ⟨c0, c1⟩ := hR.a
      clear hR
      simp only [Gives]
      go_simp
      exact HR.out
    · have HR := Lib.hid hR
      obtain ⟨c0, c1⟩ := hR.b
      clear hR
      simp only [Gives]
      go_simp
      exact HR.out
    · have HR := Lib.hid hR
      clear hR
      simp only [Gives]
      go_simp
      exact (add_any a b w').mono (fun e w'' ⟨he, hb⟩ => ⟨he, HR.out.on hb⟩)
    · have HR := Lib.hid hR
      obtain ⟨c0, c1⟩ := hR.b
      clear hR
      simp only [Gives]
      go_simp
      exact HR.out
    · have HR := Lib.hid hR
      clear hR
      simp only [Gives]
      go_simp
      exact (neg_any b w').mono (fun e w'' ⟨he, hb⟩ => ⟨he, HR.out.on hb⟩)
    · have HR := Lib.hid hR
      clear hR
      simp only [Gives]
      go_simp
      exact (add_any (a + b) (-b) w').mono (fun e w'' ⟨he, hb⟩ => ⟨he, HR.out.on hb⟩)
    · have HR := Lib.hid hR
      obtain ⟨c0, c1⟩ := hR.a
      clear hR
      simp only [Gives]
      go_simp
      exact HR.out
    · have HR := Lib.hid hR
      clear hR
      simp only [Gives]
      go_simp
      exact (compare_lit (a + b + -b) a 0 HC2.out w').mono (fun e w'' ⟨he, hb⟩ => ⟨he, HR.out.on hb⟩)
    · have HR := Lib.hid hR
      clear hR
      simp only [Gives]
      go_simp
      exact HR.out
    · have HR := Lib.hid hR
      clear hR
      simp only [Gives]
      go_simp
      exact HR.out
  case hT1 =>
    intro w' hR
    simp only [List.drop_succ_cons, List.drop_zero]
    have HX := Lib.hid hR.a
    have HF := Lib.hid hR.fr
    clear hR HC1 HC2 HR0
    generalize w' = wq at *
    rcases (by omega : n < 0 ∨ 50 < n ∨ (0 ≤ n ∧ n ≤ 50)) with hn | hn | ⟨hn, hn2⟩
    · have d1 : decide (n < 0) = true := decide_eq_true hn
      go_wp2
      go_ret
      exact ⟨rfl, HF.out⟩
    · have d1 : decide (n < 0) = false := decide_eq_false (by omega)
      have d2 : decide (50 < n) = true := decide_eq_true hn
      go_wp2
      go_ret
      exact ⟨rfl, HF.out⟩
    · obtain ⟨N, rfl⟩ := Int.eq_ofNat_of_zero_le hn
      have d1 : decide ((N : Int) < 0) = false := decide_eq_false (by omega)
      have d2 : decide (50 < (N : Int)) = false := decide_eq_false (by omega)
      have HX0 := Lib.hid (wat_alloc HX.out (.cells #[.int .i64 0, .int .u64 0] 27))
      have HS0 : Hid (WAt (wq.alloc (.cells #[.int .i64 0, .int .u64 0] 27)) wq.heap.size (hiOf (((0 : Nat) : Int) * a)) (loOf (((0 : Nat) : Int) * a))) := Lib.hid (by rw [show ((0 : Nat) : Int) * a = 0 from by simp]; exact wat_new wq 0 0)
      have HFR : Hid ((wq.alloc (.cells #[.int .i64 0, .int .u64 0] 27)).frozen? ⟨wq.heap.size, 0, none⟩ = false ∧ (wq.alloc (.cells #[.int .i64 0, .int .u64 0] 27)).frozen? ⟨wq.heap.size, 1, none⟩ = false) := Lib.hid (wfree_new wq 0 0)
      have HF0 := Lib.hid (HF.out.alloc HF.out.size (.cells #[.int .i64 0, .int .u64 0] 27))
      have hgs : g < wq.heap.size := World.block_lt_of_cell? _ _ HX.out.1
      have hws : w.heap.size ≤ wq.heap.size := HF.out.size
      go_wp2
      generalize wq.alloc (.cells #[.int .i64 0, .int .u64 0] 27) = ws at *
      generalize wq.heap.size = gs at *
      go_loopw [14] (fun i wr => ∃ k : Nat, k ≤ N ∧ i = .int .i64 k ∧ Hid (WAt wr g (hiOf a) (loOf a)) ∧ Hid (WAt wr gs (hiOf ((k : Int) * a)) (loOf ((k : Int) * a))) ∧ Hid (wr.frozen? ⟨gs, 0, none⟩ = false ∧ wr.frozen? ⟨gs, 1, none⟩ = false) ∧ Hid (Below w.heap.size w wr)) (fun i _ => N - (intOf i).toNat)
      case atStart => exact ⟨0, by omega, rfl, HX0, HS0, HFR, HF0⟩
      case round =>
        obtain ⟨k, hk, rfl, X, S, FR, HW⟩ := hrel
        obtain ⟨x0, x1⟩ := X.out
        obtain ⟨s0, s1⟩ := S.out
        by_cases hlt : k < N
        · have E : Hid ((k : Int) * a + a = ((k + 1 : Nat) : Int) * a) := Lib.hid (by rw [Int.natCast_add, Int.add_mul]; simp)
          go_wp2_with fail
          refine (add_to ((k : Int) * a) a _ E.out _).mono ?_
          rintro e w5 ⟨rfl, hb⟩
          have HW5 := Lib.hid (HW.out.trans (hb.mono HW.out.size))
          have X5 := Lib.hid (wat_on X.out hb)
          have S5 := Lib.hid (wat_on S.out hb)
          have FR5 := Lib.hid (wfree_on S.out FR.out hb)
          clear hb x0 x1 s0 s1
          obtain ⟨s0, s1⟩ := S5.out
          obtain ⟨f0, f1⟩ := FR5.out
          go_wp2
          exact ⟨⟨k + 1, by omega, by go_num, Lib.hid (wat_far X5.out (by omega) _ _), Lib.hid (wat_set S5.out _ _), Lib.hid (wfree_set FR5.out _ _), Lib.hid (((HW5.out.setCell (p := ⟨gs, 0, none⟩) hws _).setCell (p := ⟨gs, 1, none⟩) hws _))⟩, by simp [intOf]; omega⟩
        · obtain rfl : k = N := by omega
          have HC3 : Hid (Lib.compareInt (sm ((k : Int) * a)) (sm (a * (k : Int))) = 0) := Lib.hid (by rw [Int.mul_comm a]; simp [Lib.compareInt])
          have HC4 : Hid (Lib.compareInt (sm (-((k : Int) * a))) (sm (a * -(k : Int))) = 0) := Lib.hid (by rw [Int.mul_neg, Int.mul_comm a]; simp [Lib.compareInt])
          have hwr : IntKind.i64.wrap (-(k : Int)) = -(k : Int) := IntWalk.i64_in _ (by omega)
          have HR1 : Hid (P3 w wr g gs g (hiOf a) (loOf a) (hiOf ((k : Int) * a)) (loOf ((k : Int) * a)) (hiOf a) (loOf a)) := Lib.hid ⟨X.out, S.out, X.out, HW.out⟩
          clear x0 x1 s0 s1
          go_upto_region 14 with fail
          refine wp_region_par 17 [.agg #[.int .i64 (hiOf ((k : Int) * a)), .int .u64 (loOf ((k : Int) * a))], .agg #[.int .i64 (hiOf (a)), .int .u64 (loOf (a))], .int .i64 (k : Int), .agg #[.int .i64 (hiOf (a * (k : Int))), .int .u64 (loOf (a * (k : Int)))], .int .i64 0, .bool true, .bool true, .agg #[.int .i64 (hiOf ((k : Int) * a)), .int .u64 (loOf ((k : Int) * a))], .agg #[.int .i64 (hiOf (-((k : Int) * a))), .int .u64 (loOf (-((k : Int) * a)))], .agg #[.int .i64 (hiOf (a)), .int .u64 (loOf (a))], .int .i64 (k : Int), .int .i64 (-(k : Int)), .agg #[.int .i64 (hiOf (a * -(k : Int))), .int .u64 (loOf (a * -(k : Int)))], .int .i64 0, .bool true, .bool true, .bool true] (fun w' => P3 w w' g gs g (hiOf a) (loOf a) (hiOf ((k : Int) * a)) (loOf ((k : Int) * a)) (hiOf a) (loOf a)) ?A2 ?hm2 ?hB2 ?hA2 HR1.out.drew ?hop2 ?hT2
          case hm2 => kernel_rfl
          case hB2 => kernel_rfl
          case hA2 =>
            simp only [putA, dstAt, Act.put, List.getElem?_toArray, List.getElem?_cons_zero, List.getElem?_cons_succ, Option.bind_some, List.setIfInBounds_toArray, List.set_cons_zero, List.set_cons_succ, List.getD_cons_zero, List.getD_cons_succ]
            rfl
          case hop2 =>
            simp only [List.take_succ_cons, List.take_zero, GiveAll, and_true]
            refine ⟨fun w' hR => ?_, fun w' hR => ?_, fun w' hR => ?_, fun w' hR => ?_, fun w' hR => ?_, fun w' hR => ?_, fun w' hR => ?_, fun w' hR => ?_, fun w' hR => ?_, fun w' hR => ?_, fun w' hR => ?_, fun w' hR => ?_, fun w' hR => ?_, fun w' hR => ?_, fun w' hR => ?_, fun w' hR => ?_, fun w' hR => ?_⟩
            · have HR := Lib.hid hR
              obtain ⟨c0, c1⟩ := hR.b
              clear hR
              simp only [Gives]
              go_simp
              exact HR.out
            · have HR := Lib.hid hR
              obtain ⟨c0, c1⟩ := hR.a
              clear hR
              simp only [Gives]
              go_simp
              exact HR.out
            · have HR := Lib.hid hR
              clear hR
              simp only [Gives]
              go_simp
              exact HR.out
            · have HR := Lib.hid hR
              clear hR
              simp only [Gives]
              go_simp
              exact (times_any a (k : Int) w' (by omega) (by omega)).mono (fun e w'' ⟨he, hb⟩ => ⟨he, HR.out.on hb⟩)
            · have HR := Lib.hid hR
              clear hR
              simp only [Gives]
              go_simp
              exact (compare_lit ((k : Int) * a) (a * (k : Int)) 0 HC3.out w').mono (fun e w'' ⟨he, hb⟩ => ⟨he, HR.out.on hb⟩)
            · have HR := Lib.hid hR
              clear hR
              simp only [Gives]
              go_simp
              exact HR.out
            · have HR := Lib.hid hR
              clear hR
              simp only [Gives]
              go_simp
              exact HR.out
            · have HR := Lib.hid hR
              obtain ⟨c0, c1⟩ := hR.b
              clear hR
              simp only [Gives]
              go_simp
              exact HR.out
            · have HR := Lib.hid hR
              clear hR
              simp only [Gives]
              go_simp
              exact (neg_any ((k : Int) * a) w').mono (fun e w'' ⟨he, hb⟩ => ⟨he, HR.out.on hb⟩)
            · have HR := Lib.hid hR
              obtain ⟨c0, c1⟩ := hR.a
              clear hR
              simp only [Gives]
              go_simp
              exact HR.out
            · have HR := Lib.hid hR
              clear hR
              simp only [Gives]
              go_simp
              exact HR.out
            · have HR := Lib.hid hR
              clear hR
              simp only [Gives]
              go_simp
              exact HR.out
            · have HR := Lib.hid hR
              clear hR
              simp only [Gives]
              go_simp
              exact (times_any a (-(k : Int)) w' (by omega) (by omega)).mono (fun e w'' ⟨he, hb⟩ => ⟨he, HR.out.on hb⟩)
            · have HR := Lib.hid hR
              clear hR
              simp only [Gives]
              go_simp
              exact (compare_lit (-((k : Int) * a)) (a * -(k : Int)) 0 HC4.out w').mono (fun e w'' ⟨he, hb⟩ => ⟨he, HR.out.on hb⟩)
            · have HR := Lib.hid hR
              clear hR
              simp only [Gives]
              go_simp
              exact HR.out
            · have HR := Lib.hid hR
              clear hR
              simp only [Gives]
              go_simp
              exact HR.out
            · have HR := Lib.hid hR
              clear hR
              simp only [Gives]
              go_simp
              exact HR.out
          case hT2 =>
            intro w' hR
            simp only [List.drop_succ_cons, List.drop_zero]
            have HF := Lib.hid hR.fr
            clear hR
            go_wp2
            go_ret
            exact ⟨rfl, HF.out⟩
end Go.Proofs.Ytfcllangolinaaa
