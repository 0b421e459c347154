import Derived.Test.YtieohdlmighmkaaN
import Derived.Test.YtieohdlmighmkaaMI
namespace Go.Proofs.Ytieohdlmighmkaa.I
open Go Go.RowKit Go.Shelf Go.Proofs Go.Proofs.Ytieohdlmighmkaa
attribute [local go_sem] eql26n eql26f

def red (x : Int) : Int := (wrap64 (x.tmod 1000 + 1000)).tmod 1000
def dv (n x : Int) : Int := wrap64 (x.tdiv n)
theorem red_range (x : Int) : 0 ≤ red x ∧ red x < 1000 := by
  have h1 := Int.tmod_lt_of_pos x (show (0 : Int) < 1000 by omega)
  have h2 : -1000 < x.tmod 1000 := by have := Int.lt_tmod_of_pos x (show (0 : Int) < 1000 by omega); omega
  unfold red
  rw [Go.IntWalk.wrap64_in _ (by omega)]
  exact ⟨Int.tmod_nonneg 1000 (by omega), Int.tmod_lt_of_pos _ (by omega)⟩
theorem cmp3_swap (x y : Int) : cmp3 (-y) (-x) = cmp3 x y := by
  unfold cmp3
  by_cases h1 : x < y <;> by_cases h2 : y < x <;> simp [h1, h2] <;> omega

set_option maxHeartbeats 1000000 in
theorem f13_any (NB : Nat) (n a b : Int) (hn : 1 ≤ n) (W : World) (hc : W.cell? ⟨NB, 0, none⟩ = some (Value.int .i64 (n))) :
    Calls Try.prog 13 #[(Value.int .i64 (a)), (Value.int .i64 (b)), (Value.pointer (some ⟨NB, 0, none⟩))] W fun e w' => e = .returned (Value.int .i64 (cmp3 (dv n b) (dv n a))) ∧ ∃ q, w' = W.drewN q := by
  have hcm := fun q => compare_any (dv n b) (dv n a) (W.drewN q)
  have hn0 : ¬ n = 0 := by omega
  have hcl : NB < W.heap.size := World.block_lt_of_cell? W ⟨NB, 0, none⟩ hc
  unfold dv at hcm ⊢
  go_enter Try.func13, Try.ntmps13
  go_wp2_with fail
  go_quiet ((go_at_call 8; (with_reducible refine (hcm _).mono ?_); rintro e w ⟨he, hw⟩; exact ⟨he, _, hw⟩))
  go_wp2_with fail
  go_ret
  exact ⟨rfl, _, rfl⟩
theorem cmp13 {D : Nat} {W0 : World} {NB : Nat} {n : Int} (hn : 1 ≤ n) (hNB : NB < D) (hc : W0.cell? ⟨NB, 0, none⟩ = some (Value.int .i64 (n))) : Cmp D W0 13 #[(Value.pointer (some ⟨NB, 0, none⟩))] (fun a => - dv n a) :=
  ⟨enters_of Try.func13 (by kernel_rfl) rfl, fun w a b hb => (f13_any NB n a b hn w ((hb.cell (p := ⟨NB, 0, none⟩) hNB).trans hc)).mono (fun _ _ h => ⟨by rw [h.1, cmp3_swap], h.2⟩)⟩
end Go.Proofs.Ytieohdlmighmkaa.I
