import Derived.Test.YtieohdlmighmkaaLI
namespace Go.Proofs.Ytieohdlmighmkaa.I
open Go Go.RowKit Go.Shelf Go.Proofs Go.Proofs.Ytieohdlmighmkaa

theorem compare_any (a b : Int) (W : World) : Calls Try.prog 8 #[(Value.int .i64 (a)), (Value.int .i64 (b))] W fun e w' => e = .returned (Value.int .i64 (cmp3 a b)) ∧ w' = W := by
  unfold cmp3
  by_cases h1 : a < b
  · go_enter Try.func8, Try.ntmps8
    go_wp2
    go_ret
    exact ⟨by simp, rfl⟩
  · by_cases h2 : b < a
    · go_enter Try.func8, Try.ntmps8
      go_wp2
      go_ret
      exact ⟨by simp, rfl⟩
    · go_enter Try.func8, Try.ntmps8
      go_wp2
      go_ret
      exact ⟨by simp, rfl⟩
theorem cmp8 (D : Nat) (W0 : World) : Cmp D W0 8 #[] (fun x => x) :=
  ⟨enters_of Try.func8 (by kernel_rfl) rfl, fun w a b _ => (compare_any a b w).mono (fun _ _ h => ⟨h.1, 0, h.2⟩)⟩
theorem Mp.chg {D : Nat} {W0 : World} {g : Nat} {lb : Array Value} {key : Int → Int} {mb : Nat} {L : List (Int × Int)} {W W' : World} {n : Nat} (h : Mp D W0 g lb key mb L W) (hb : Below n W W') (hn : W.heap.size ≤ n) : Mp D W0 g lb key mb L W' := h.later (hb.mono hn)
end Go.Proofs.Ytieohdlmighmkaa.I
