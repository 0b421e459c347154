/- At where there is none; Append. -/
import Derived.Test.YtglfmbpcapendaaO3
import Derived.Deep.AppendLies
namespace Go.Proofs.Ytglfmbpcapendaa.S
open Go Go.RowKit Go.Shelf Go.Proofs Go.Proofs.Ytglfmbpcapendaa
section
variable {cb : Nat} {kind n : Int} {v : Value} {L : List (K 12 × Int)} {W0 W W' : World}

set_option maxRecDepth 100000 in
theorem at_out {m : Nat} {xs : List Value} {base : Nat} (h : Cm cb kind v n L W0 W) (hr : HRow W base 28 3 v m xs) (i : Int) (hi : i < 0 ∨ (m : Int) ≤ i) : Calls Try.prog 12 #[(Value.pointer (some ⟨cb, 0, none⟩)), (Value.int .i64 (i))] W fun e w' => e = .returned (.tuple #[(Value.agg #[Value.int .i64 (0), Value.int .i64 (0), Value.string (⟨#[]⟩)]), .bool false]) ∧ Below W.heap.size W w' := by
  have hlen := fun y (hy : Below W.heap.size W y) => clen_any (h.later hy) (hr.later hy)
  have b0 := hlen _ (below_alloc W (.cells #[.int .i64 0, .int .i64 0, .string ⟨#[]⟩] 28))
  clear hlen hr h
  by_cases h0 : i < 0
  · go_enter Try.func12, Try.ntmps12
    go_wp2
    refine bodyPost_ret (v := .tuple #[(Value.agg #[Value.int .i64 (0), Value.int .i64 (0), Value.string (⟨#[]⟩)]), .bool false]) (by simp [results, Try.results12, go_sem]) rfl ?_
    exact ⟨rfl, below_alloc W _⟩
  · have d0 : decide (i < 0) = false := decide_eq_false h0
    have d1 : (m : Int) ≤ i := by omega
    have d1 : decide ((m : Int) ≤ i) = true := decide_eq_true (by omega)
    go_enter Try.func12, Try.ntmps12
    go_wp2_with (go_at_call 14; (with_reducible refine b0.mono ?_); rintro e w' ⟨rfl, hw⟩; subst w')
    refine bodyPost_ret (v := .tuple #[(Value.agg #[Value.int .i64 (0), Value.int .i64 (0), Value.string (⟨#[]⟩)]), .bool false]) (by simp [results, Try.results12, go_sem]) rfl ?_
    exact ⟨rfl, below_alloc W _⟩

theorem info28 : (Try.prog.info? 28).map (fun i => (i.zero, i.size, i.bytes)) = some (some (.agg #[.int .i64 0, .int .i64 0, .string ⟨#[]⟩]), 3, 32) := by kernel_rfl

/-- append of one value. -/
theorem app_one (y : World) (base : Nat) {v : Value} {m : Nat} {xs : List Value} (hr : HRow y base 28 3 v m xs) (hm : m + 1 ≤ 1000000) (hb : base ≤ y.heap.size) (k n1 : Int) (s : ByteArray) :
    ∃ g cap w', (Builtin.append_ #[26, 26] 26 #[v, .slice (some ⟨y.heap.size, 0, none⟩) 1 1]).run Try.prog (y.alloc (.cells #[.int .i64 k, .int .i64 n1, .string s] 28)) = .ok (.slice (some ⟨g, 0, none⟩) (m + 1) cap) w' ∧
      HRow w' base 28 3 (.slice (some ⟨g, 0, none⟩) (m + 1) cap) (m + 1) (xs ++ [.int .i64 k, .int .i64 n1, .string s]) ∧ (y.alloc (.cells #[.int .i64 k, .int .i64 n1, .string s] 28)).grownBy w' v.ownBlock ∧ (v.ownBlock = some g ∨ y.heap.size ≤ g) := by
  obtain ⟨i0, hi0, hz0, hz1, hz2⟩ := info_parts info28
  have hh := heap_alloc_new y (.cells #[.int .i64 k, .int .i64 n1, .string s] 28)
  obtain ⟨g, cap, w', h1, h2, h3, h4⟩ := run_append_has (P := Try.prog) (y.alloc (.cells #[.int .i64 k, .int .i64 n1, .string s] 28)) base 26 26 28 i0 _ 3 32 Try.underlying26 hi0 hz0 hz1 hz2 rfl (by decide) (hr.later (below_alloc y _)) ⟨y.heap.size, 0, none⟩ 1 1 [.int .i64 k, .int .i64 n1, .string s] rfl
    (by exact World.news_of_block hh) (by simp [Value.oneCell']) (by decide) (by unfold maxLen; omega) (by omega) (by rw [World.size_alloc]; omega)
  exact ⟨g, cap, w', h1, h2, h3, h4.imp id (fun h => by rw [World.size_alloc] at h; omega)⟩
end
end Go.Proofs.Ytglfmbpcapendaa.S
