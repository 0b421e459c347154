/- Contracts: cmp.Compare at int64 and uint64, cmp.Or of two, Compare. -/
import Derived.Test.YtfcllangolinaaaB
namespace Go.Proofs.Ytfcllangolinaaa
open Go Go.RowKit

theorem cmp64_any (x y : Int) (w : World) :
    Calls Try.prog 35 #[.int .i64 x, .int .i64 y] w fun e w' => e = .returned (.int .i64 (Lib.compareInt x y)) ∧ w = w' := by
  unfold Lib.compareInt
  rcases Int.lt_trichotomy x y with h | h | h
  · rw [if_pos h]
    go_enter Try.func35, Try.ntmps35
    go_wp2
    go_ret
    exact ⟨rfl, rfl⟩
  · subst h
    rw [if_neg (by omega), if_neg (by omega)]
    go_enter Try.func35, Try.ntmps35
    go_wp2
    go_ret
    exact ⟨rfl, rfl⟩
  · rw [if_neg (by omega), if_pos (by omega)]
    go_enter Try.func35, Try.ntmps35
    go_wp2
    go_ret
    exact ⟨rfl, rfl⟩
theorem cmpu_any (x y : Int) (w : World) :
    Calls Try.prog 36 #[.int .u64 x, .int .u64 y] w fun e w' => e = .returned (.int .i64 (Lib.compareInt x y)) ∧ w = w' := by
  unfold Lib.compareInt
  rcases Int.lt_trichotomy x y with h | h | h
  · rw [if_pos h]
    go_enter Try.func36, Try.ntmps36
    go_wp2
    go_ret
    exact ⟨rfl, rfl⟩
  · subst h
    rw [if_neg (by omega), if_neg (by omega)]
    go_enter Try.func36, Try.ntmps36
    go_wp2
    go_ret
    exact ⟨rfl, rfl⟩
  · rw [if_neg (by omega), if_pos (by omega)]
    go_enter Try.func36, Try.ntmps36
    go_wp2
    go_ret
    exact ⟨rfl, rfl⟩

def or2 (a b : Int) : Int := if a = 0 then b else a
theorem ret_int {k : IntKind} {a b : Int} (h : a = b) : Ending.returned (.int k a) = .returned (.int k b) := by rw [h]
set_option maxHeartbeats 400000 in
theorem or_any (a b : Int) (g : Nat) (w : World) (ca : w.cell? ⟨g, 0, none⟩ = some (.int .i64 a)) (cb : w.cell? ⟨g, 1, none⟩ = some (.int .i64 b)) :
    Calls Try.prog 34 #[.slice (some ⟨g, 0, none⟩) 2 2] w fun e w' => e = .returned (.int .i64 (or2 a b)) ∧ w = w' := by
  go_enter Try.func34, Try.ntmps34
  go_wp2
  go_loop [8] (fun i => ∃ k : Nat, k ≤ 2 ∧ i = .int .i64 k ∧ (0 < k → a = 0) ∧ (1 < k → b = 0)) (fun i => 2 - (intOf i).toNat)
  case atStart => exact ⟨0, by omega, rfl, by omega, by omega⟩
  case round =>
    obtain ⟨k, hk, rfl, h1, h2⟩ := hrel
    rcases (by omega : k = 0 ∨ k = 1 ∨ k = 2) with rfl | rfl | rfl
    · clear h1 h2
      by_cases ha : a = 0
      · subst ha
        go_wp2
        exact ⟨⟨1, by omega, rfl, fun _ => trivial, by omega⟩, by simp [intOf]⟩
      · have hb : (a == 0) = false := beq_eq_false_iff_ne.2 ha
        go_wp2
        go_ret
        exact ⟨ret_int (by simp [or2, ha]), rfl⟩
    · obtain rfl := h1 (by omega)
      clear h1 h2
      by_cases ha : b = 0
      · subst ha
        go_wp2
        exact ⟨⟨2, by omega, rfl, fun _ => trivial, fun _ => trivial⟩, by simp [intOf]⟩
      · have hb : (b == 0) = false := beq_eq_false_iff_ne.2 ha
        go_wp2
        go_ret
        exact ⟨ret_int (by simp [or2]), rfl⟩
    · obtain rfl := h1 (by omega)
      obtain rfl := h2 (by omega)
      clear h1 h2
      go_wp2
      go_ret
      exact ⟨ret_int (by simp [or2]), rfl⟩

theorem cmp_or (x y : Int) : or2 (Lib.compareInt (hiOf x) (hiOf y)) (Lib.compareInt (loOf x) (loOf y)) = Lib.compareInt (sm x) (sm y) := (cmp_hilo x y).symm
set_option maxHeartbeats 400000 in
theorem compare_any (x y : Int) (w : World) :
    Calls Try.prog 23 #[.agg #[.int .i64 (hiOf x), .int .u64 (loOf x)], .agg #[.int .i64 (hiOf y), .int .u64 (loOf y)]] w fun e w' => e = .returned (.int .i64 (Lib.compareInt (sm x) (sm y))) ∧ Below w.heap.size w w' := by
  rw [← cmp_or]
  go_enter Try.func23, Try.ntmps23
  go_wp2
  go_region_held3 (fun w' => w'.cell? ⟨w.heap.size, 0, none⟩ = some (.int .i64 (hiOf x)) ∧ w'.cell? ⟨w.heap.size, 1, none⟩ = some (.int .u64 (loOf x)) ∧
      w'.cell? ⟨w.heap.size + 1, 0, none⟩ = some (.int .i64 (hiOf y)) ∧ w'.cell? ⟨w.heap.size + 1, 1, none⟩ = some (.int .u64 (loOf y)))
    (go_keep)
    (first
      | (go_at_call 35; refine (cmp64_any _ _ _).mono ?_; rintro e w' ⟨rfl, rfl⟩)
      | (go_at_call 36; refine (cmpu_any _ _ _).mono ?_; rintro e w' ⟨rfl, rfl⟩)
      | (go_at_call 34; refine (or_any (Lib.compareInt (hiOf x) (hiOf y)) (Lib.compareInt (loOf x) (loOf y)) _ _ ?_ ?_).mono ?_; (go_simp); (go_simp); rintro e w' ⟨rfl, rfl⟩))
  go_wp2
  go_ret
  exact ⟨rfl, (below_alloc3 _ _ _ _).drew⟩
end Go.Proofs.Ytfcllangolinaaa
