/- Contracts of package wide's functions: Num, Parts, size, Compare. -/
import Derived.Test.YtfcllangolinaaaA
import Derived.Deep.RegionHeld3
import Derived.Laws.StructEq
namespace Go.Proofs.Ytfcllangolinaaa
open Go Go.RowKit

theorem below_drewN {B : Nat} {a w : World} (h : Below B a w) (n : Nat) : Below B a (w.drewN n) := ⟨h.os, h.tape, h.output, h.size, h.block⟩
theorem held2 {g : Nat} {u v : Value} {w w' : World} (h : g < w.heap.size ∧ w.cell? ⟨g, 0, none⟩ = some u ∧ w.cell? ⟨g, 1, none⟩ = some v) (hb : Below w.heap.size w w') :
    g < w'.heap.size ∧ w'.cell? ⟨g, 0, none⟩ = some u ∧ w'.cell? ⟨g, 1, none⟩ = some v :=
  ⟨Nat.lt_of_lt_of_le h.1 hb.size, (hb.cell (p := ⟨g, 0, none⟩) h.1).trans h.2.1, (hb.cell (p := ⟨g, 1, none⟩) h.1).trans h.2.2⟩

theorem neq27 (a b c d : Int) (w : World) : (binOp .neq 27 (.agg #[.int .i64 a, .int .u64 b]) (.agg #[.int .i64 c, .int .u64 d])).run Try.prog w = .ok (.bool (!(a == c && b == d))) w := by
  have hp : Try.prog.stoodInHeld 27 = false := by kernel_rfl
  have hf : Try.prog.underlying 27 = some (.struct (Try.prog.fieldsOf 27)) := by kernel_rfl
  have u2 := Try.underlying2
  have u25 := Try.underlying25
  rw [run_neq_struct, run_equalIn_agg w 9999 27 _ _ hf hp]
  simp [go_sem, Try.underlying27, Op.eqFields, u2, u25]
  by_cases h : a = c <;> by_cases h1 : b = d <;> simp [h, h1]

theorem ite_ok (a b : Int) (x : Bool) (w : World) : (if a = b then Result.ok x w else Result.ok false w) = Result.ok (a == b && x) w := by
  by_cases h : a = b <;> simp [h]
theorem eq30_step (a b : Int) (w : World) (d : Nat) : (Op.equalIn (d + 1) 28 (.int .u32 a) (.int .u32 b)).run Try.prog w = .ok (a == b) w := run_equalIn_int w d 28 .u32 .u32 a b Try.underlying28
theorem part28 (cs : Array Value) (i : Nat) (v : Value) (h : cs[i]? = some v) (w : World) : (part 28 cs i).run Try.prog w = .ok v w := by
  unfold part
  simp [Sem.run_bind, Try.isAgg28, h]
set_option maxHeartbeats 400000 in
theorem eq30 (d : Nat) (a0 a1 a2 a3 a4 a5 a6 a7 b0 b1 b2 b3 b4 b5 b6 b7 : Int) (w : World) :
    (Op.equalIn (d + 2) 30 (.agg #[.int .u32 a0, .int .u32 a1, .int .u32 a2, .int .u32 a3, .int .u32 a4, .int .u32 a5, .int .u32 a6, .int .u32 a7]) (.agg #[.int .u32 b0, .int .u32 b1, .int .u32 b2, .int .u32 b3, .int .u32 b4, .int .u32 b5, .int .u32 b6, .int .u32 b7])).run Try.prog w = .ok (a0 == b0 && (a1 == b1 && (a2 == b2 && (a3 == b3 && (a4 == b4 && (a5 == b5 && (a6 == b6 && a7 == b7))))))) w := by
  unfold Op.equalIn
  simp only [Sem.run_bind, run_underlying Try.underlying30, Result.andThen_ok, Try.sizeOf28, Nat.mul_one]
  simp [List.range', eq30_step, part28, Sem.run_ite]
  simp only [ite_ok, Bool.and_true]

theorem bcell {W w1 : World} (hb : Below W.heap.size W w1) : (∀ b o, b < W.heap.size → w1.cell? ⟨b, o, none⟩ = W.cell? ⟨b, o, none⟩) ∧ (∀ b o, b < W.heap.size → w1.frozen? ⟨b, o, none⟩ = W.frozen? ⟨b, o, none⟩) :=
  ⟨fun b o h => hb.cell (p := ⟨b, o, none⟩) h, fun b o h => hb.frozen (p := ⟨b, o, none⟩) h⟩
/-- What lies behind a box of a Wide. -/
def WBox (w : World) (g : Nat) (z : Int) : Prop := w.cell? ⟨g, 0, none⟩ = some (.int .i64 (hiOf z)) ∧ w.cell? ⟨g, 1, none⟩ = some (.int .u64 (loOf z))

set_option maxHeartbeats 400000 in
theorem parts_any (z : Int) (w : World) :
    Calls Try.prog 25 #[.agg #[.int .i64 (hiOf z), .int .u64 (loOf z)]] w fun e w' => e = .returned (.tuple #[.int .i64 (hiOf z), .int .u64 (loOf z)]) ∧ Below w.heap.size w w' := by
  go_enter Try.func25, Try.ntmps25
  go_wp2
  go_quiet (fail)
  go_wp2
  go_ret2
  exact ⟨rfl, below_drewN (below_alloc1 _ _) _⟩

set_option maxHeartbeats 400000 in
theorem num_any (z : Int) (w : World) :
    Calls Try.prog 24 #[.agg #[.int .i64 (hiOf z), .int .u64 (loOf z)]] w fun e w' => e = .returned (.tuple #[.int .i64 (numV z), .bool (numB z)]) ∧ Below w.heap.size w w' := by
  have hb := lo_bd z
  have hw0 : -9223372036854775808 ≤ wrap64 (loOf z) := by unfold wrap64; omega
  have hw1 : wrap64 (loOf z) ≤ 9223372036854775807 := by unfold wrap64; omega
  cases hn : numB z
  · obtain ⟨_, h2⟩ := num_no hn
    have h3 := num_hi_ne hn
    have hq : ∀ W : World, (binOp .neq 27 (.agg #[.int .i64 (hiOf (wrap64 (loOf z))), .int .u64 (loOf (wrap64 (loOf z)))]) (.agg #[.int .i64 (hiOf z), .int .u64 (loOf z)])).run Try.prog W = .ok (.bool true) W := by
      intro W
      rw [neq27, beq_eq_false_iff_ne.2 h3]; rfl
    rw [h2]
    clear h2 h3 hn hb
    go_enter Try.func24, Try.ntmps24
    go_wp2_with fail
    go_region_held3 (fun w' => w.heap.size < w'.heap.size ∧ w'.cell? ⟨w.heap.size, 0, none⟩ = some (.int .i64 (hiOf z)) ∧ w'.cell? ⟨w.heap.size, 1, none⟩ = some (.int .u64 (loOf z)))
      (first | go_keep | (refine held2 ?_ hb; assumption))
      (first
        | (go_at_call 12; refine (of_any _ _ hw0 hw1).mono ?_; rintro e w' ⟨rfl, hb⟩))
    go_wp2
    go_ret2
    exact ⟨rfl, (below_alloc1 w _).drew.trans (hb.mono (by simp))⟩
  · obtain ⟨h1, h2, h3⟩ := num_yes hn
    have hq : ∀ W : World, (binOp .neq 27 (.agg #[.int .i64 (hiOf (wrap64 (loOf z))), .int .u64 (loOf (wrap64 (loOf z)))]) (.agg #[.int .i64 (hiOf z), .int .u64 (loOf z)])).run Try.prog W = .ok (.bool false) W := by
      intro W
      rw [neq27, h1, h2]; simp
    rw [← h3]
    clear h1 h2 h3 hn hb
    go_enter Try.func24, Try.ntmps24
    go_wp2_with fail
    go_region_held3 (fun w' => w.heap.size < w'.heap.size ∧ w'.cell? ⟨w.heap.size, 0, none⟩ = some (.int .i64 (hiOf z)) ∧ w'.cell? ⟨w.heap.size, 1, none⟩ = some (.int .u64 (loOf z)))
      (first | go_keep | (refine held2 ?_ hb; assumption))
      (first
        | (go_at_call 12; refine (of_any _ _ hw0 hw1).mono ?_; rintro e w' ⟨rfl, hb⟩))
    go_wp2
    go_ret2
    exact ⟨rfl, (below_alloc1 w _).drew.trans (hb.mono (by simp))⟩

theorem ret_two {k l : IntKind} {a b c d : Int} (h : a = c) (h1 : b = d) : Ending.returned (.tuple #[.int k a, .int l b]) = .returned (.tuple #[.int k c, .int l d]) := by rw [h, h1]
theorem size_neg1 (z : Int) (h : sm z < 0) : IntKind.u64.wrap (hiOf (-z)) = ab z / 18446744073709551616 := by
  rw [IntKind.wrap_u64]; unfold ab; rw [if_pos h]; unfold sm at h ⊢; unfold hiOf; omega
theorem size_neg2 (z : Int) (h : sm z < 0) : loOf (-z) = ab z % 18446744073709551616 := by
  unfold ab; rw [if_pos h]; unfold sm at h ⊢; unfold loOf; omega
theorem size_pos1 (z : Int) (h : 0 ≤ sm z) : IntKind.u64.wrap (hiOf z) = ab z / 18446744073709551616 := by
  rw [IntKind.wrap_u64]; unfold ab; rw [if_neg (by omega)]; unfold sm at h ⊢; unfold hiOf; omega
theorem size_pos2 (z : Int) (h : 0 ≤ sm z) : loOf z = ab z % 18446744073709551616 := by
  unfold ab; rw [if_neg (by omega)]; unfold sm at h ⊢; unfold loOf; omega
set_option maxHeartbeats 400000 in
theorem size_any (z : Int) (w : World) :
    Calls Try.prog 31 #[.agg #[.int .i64 (hiOf z), .int .u64 (loOf z)]] w fun e w' => e = .returned (.tuple #[.int .u64 (ab z / 18446744073709551616), .int .u64 (ab z % 18446744073709551616)]) ∧ Below w.heap.size w w' := by
  by_cases h : sm z < 0
  · have h1 := (sm_neg_hi z).1 h
    go_enter Try.func31, Try.ntmps31
    go_wp2_with (go_at_call 15; refine (neg_any _ _).mono ?_; rintro e w' ⟨rfl, hb⟩; obtain ⟨hc, hf⟩ := bcell hb)
    go_quiet (fail)
    go_wp2
    go_ret2
    exact ⟨ret_two (size_neg1 z h) (size_neg2 z h), below_drewN (((below_alloc1 w _).trans (hb.mono (by simp))).setCell (by simp) _ |>.setCell (by simp) _) _⟩
  · have h1 : ¬ hiOf z < 0 := fun h1 => h ((sm_neg_hi z).2 h1)
    go_enter Try.func31, Try.ntmps31
    go_wp2
    go_quiet (fail)
    go_wp2
    go_ret2
    exact ⟨ret_two (size_pos1 z h) (size_pos2 z h), below_drewN (below_alloc1 _ _) _⟩
end Go.Proofs.Ytfcllangolinaaa
