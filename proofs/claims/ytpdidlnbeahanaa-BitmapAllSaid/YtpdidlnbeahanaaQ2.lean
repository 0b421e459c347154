/- The reference's Has; append of a whole list; mix. -/
import Derived.Test.YtpdidlnbeahanaaQ1
namespace Go.Proofs.Ytpdidlnbeahanaa
open Go Go.RowKit Go.Shelf Go.Proofs

set_option maxRecDepth 100000 in
set_option maxHeartbeats 1000000 in
theorem sethas_any (xs : List Int) (p : Option Addr) (n cap : Nat) (W : World) (hn : xs.length = n) (h1000 : n ≤ 1000000) (hP : Rd W p xs) (i : Int) (b : Bool) (hb : b = true ↔ i ∈ xs) : Calls Try.prog 15 #[.slice p n cap, (Value.int .i64 (i))] W fun e w' => e = .returned (.bool b) ∧ w' = W := by
  have HN := Lib.hid (And.intro hn hb)
  clear hb
  go_enter Try.func15, Try.ntmps15
  go_wp2_with fail
  go_loopg [5] (n + 1) (fun gh jv w => ∃ j : Nat, jv = .int .i64 (j : Int) ∧ j ≤ n ∧ n + 1 ≤ j + gh ∧ (∀ k (_ : k < xs.length), k < j → xs[k] ≠ i) ∧ w = W)
  case atStart => exact ⟨0, rfl, Nat.zero_le _, by omega, fun k _ h => absurd h (Nat.not_lt_zero k), rfl⟩
  case round =>
    obtain ⟨j, rfl, hj, hg, hno, rfl⟩ := hrel
    by_cases hlt : j < n
    · have hjx : j < xs.length := by omega
      obtain ⟨bk, off, rfl, hbW, c0⟩ := hP j hjx
      obtain ⟨x, hx⟩ : ∃ x, xs[j] = x := ⟨_, rfl⟩
      rw [hx] at c0
      have HX := Lib.hid (And.intro hx hno)
      clear hx hno hP
      by_cases he : x = i
      · subst he
        go_wp2_with fail
        go_ret
        exact ⟨ret_bool (by symm; exact HN.out.2.2 (by rw [← HX.out.1]; exact List.getElem_mem _)), rfl⟩
      · have hb : (x == i) = false := beq_eq_false_iff_ne.2 he
        go_wp2_with fail
        go_roundg (n - j)
        case measure => omega
        case rel => exact ⟨j + 1, by go_num, by omega, by omega, fun k hk hkj => by
          by_cases e : k = j
          · subst e; rw [HX.out.1]; exact he
          · exact HX.out.2 k hk (by omega), rfl⟩
    · have HH := Lib.hid hno
      clear hno hP
      go_wp2_with fail
      go_ret
      refine ⟨ret_bool ?_, rfl⟩
      symm
      rw [Bool.eq_false_iff]
      intro h
      obtain ⟨k, hk, e⟩ := List.mem_iff_getElem.1 (HN.out.2.1 h)
      exact HH.out k hk (by rw [HN.out.1] at hk; omega) e

/-! ### append of a list to one's own -/
theorem append_types {P : Program} {w : World} {t u e e' ty : TypeId} {p q : Option Addr} {n c m d : Nat} (ht : P.underlying t = some (.slice e)) (hu : P.underlying u = some (.slice e')) : (Builtin.append_ #[t, u] ty #[.slice p n c, .slice q m d]).run P w = (Builtin.append_ #[t, t] ty #[.slice p n c, .slice q m d]).run P w := by
  unfold Builtin.append_
  simp [run_underlying ht, run_underlying hu]
theorem append_zero {P : Program} {w : World} {t e ty : TypeId} {i : TypeInfo} {p q : Option Addr} {n c d : Nat} (ht : P.underlying t = some (.slice e)) (hi : P.info? e = some i) (hn : n ≤ c) : (Builtin.append_ #[t, t] ty #[.slice p n c, .slice q 0 d]).run P w = .ok (.slice p n c) w := by
  cases p <;> cases q <;> simp [Builtin.append_, run_underlying ht, Builtin.lenOf, Builtin.firstCells, sizeOf, typeInfo, hi, hn, loadCells, loadCellsFrom, storeCells]
end Go.Proofs.Ytpdidlnbeahanaa
