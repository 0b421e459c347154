/- Contracts: cmp.Or over three, Compare, Eq. -/
import Derived.Test.YtkgjfedpjbnjkaaDoorC
import Derived.Test.YtkgjfedpjbnjkaaDoorM
import Derived.Deep.QuietTactic
import Derived.BigQuiet
import Derived.Deep.RegionHeld3
namespace Go.Proofs.YtkgjfedpjbnjkaaDoor
open Go Go.RowKit

theorem ret_int {k : IntKind} {a b : Int} (h : a = b) : Ending.returned (.int k a) = .returned (.int k b) := by rw [h]

set_option maxHeartbeats 400000 in
theorem or_any (a b c : Int) (g : Nat) (w : World) (ca : w.cell? ⟨g, 0, none⟩ = some (.int .i64 a)) (cb : w.cell? ⟨g, 1, none⟩ = some (.int .i64 b)) (cc : w.cell? ⟨g, 2, none⟩ = some (.int .i64 c)) :
    Calls Tryd.prog 32 #[.slice (some ⟨g, 0, none⟩) 3 3] w fun e w' => e = .returned (.int .i64 (or3 a b c)) ∧ w = w' := by
  go_enter Tryd.func32, Tryd.ntmps32
  go_wp2
  go_loop [8] (fun i => ∃ k : Nat, k ≤ 3 ∧ i = .int .i64 k ∧ (0 < k → a = 0) ∧ (1 < k → b = 0) ∧ (2 < k → c = 0)) (fun i => 3 - (intOf i).toNat)
  case atStart => exact ⟨0, by omega, rfl, by omega, by omega, by omega⟩
  case round =>
    obtain ⟨k, hk, rfl, h1, h2, h3⟩ := hrel
    rcases (by omega : k = 0 ∨ k = 1 ∨ k = 2 ∨ k = 3) with rfl | rfl | rfl | rfl
    · clear h1 h2 h3
      by_cases ha : a = 0
      · subst ha
        go_wp2
        exact ⟨⟨1, by omega, rfl, fun _ => trivial, by omega, by omega⟩, by simp [intOf]⟩
      · have hb : (a == 0) = false := beq_eq_false_iff_ne.2 ha
        go_wp2
        go_ret
        exact ⟨ret_int (by simp [or3, ha]), rfl⟩
    · obtain rfl := h1 (by omega)
      clear h1 h2 h3
      by_cases ha : b = 0
      · subst ha
        go_wp2
        exact ⟨⟨2, by omega, rfl, fun _ => trivial, fun _ => trivial, by omega⟩, by simp [intOf]⟩
      · have hb : (b == 0) = false := beq_eq_false_iff_ne.2 ha
        go_wp2
        go_ret
        exact ⟨ret_int (by simp [or3, ha]), rfl⟩
    · obtain rfl := h1 (by omega)
      obtain rfl := h2 (by omega)
      clear h1 h2 h3
      by_cases ha : c = 0
      · subst ha
        go_wp2
        exact ⟨⟨3, by omega, rfl, fun _ => trivial, fun _ => trivial, fun _ => trivial⟩, by simp [intOf]⟩
      · have hb : (c == 0) = false := beq_eq_false_iff_ne.2 ha
        go_wp2
        go_ret
        exact ⟨ret_int (by simp [or3]), rfl⟩
    · obtain rfl := h1 (by omega)
      obtain rfl := h2 (by omega)
      obtain rfl := h3 (by omega)
      clear h1 h2 h3
      go_wp2
      go_ret
      exact ⟨ret_int (by simp [or3]), rfl⟩

set_option maxHeartbeats 400000 in
theorem compare_any (k1 n1 : Int) (s1 : ByteArray) (k2 n2 : Int) (s2 : ByteArray) (w : World) :
    Calls Tryd.prog 15 #[.agg #[.int .i64 k1, .int .i64 n1, .string s1], .agg #[.int .i64 k2, .int .i64 n2, .string s2]] w fun e w' => e = .returned (.int .i64 (cmpV k1 n1 s1.data.toList k2 n2 s2.data.toList)) ∧ Below w.heap.size w w' := by
  go_enter Tryd.func15, Tryd.ntmps15
  go_wp2
  go_region_held3 (fun w' => w'.cell? ⟨w.heap.size, 0, none⟩ = some (.int .i64 k1) ∧ w'.cell? ⟨w.heap.size, 1, none⟩ = some (.int .i64 n1) ∧ w'.cell? ⟨w.heap.size, 2, none⟩ = some (.string s1) ∧
      w'.cell? ⟨w.heap.size + 1, 0, none⟩ = some (.int .i64 k2) ∧ w'.cell? ⟨w.heap.size + 1, 1, none⟩ = some (.int .i64 n2) ∧ w'.cell? ⟨w.heap.size + 1, 2, none⟩ = some (.string s2))
    (go_keep)
    (first
      | (go_at_call 33; refine (Tryd.cmp_Compare_int _ _ _).mono ?_; rintro e w' ⟨rfl, rfl⟩)
      | (go_at_call 34; refine (cmp64_any _ _ _).mono ?_; rintro e w' ⟨rfl, rfl⟩)
      | (go_at_call 35; refine (Tryd.strings_Compare _ _ _).mono ?_; rintro e w' ⟨rfl, rfl⟩)
      | (go_at_call 32; refine (or_any (Lib.compareInt k1 k2) (Lib.compareInt n1 n2) (Lib.compareBytes s1.data.toList s2.data.toList) _ _ ?_ ?_ ?_).mono ?_; (go_simp); (go_simp); (go_simp); rintro e w' ⟨rfl, rfl⟩))
  go_wp2
  go_ret
  exact ⟨rfl, (((below_alloc1 _ _).alloc (by simp) _).alloc (by simp; omega) _).drew⟩
end Go.Proofs.YtkgjfedpjbnjkaaDoor
