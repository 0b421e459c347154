/- lex: the laws' first check. -/
import Derived.Test.YtfbgbmkffippgaaDoorLE
namespace Go.Proofs.YtfbgbmkffippgaaDoor
open Go Go.RowKit
attribute [local go_sem] Oper.semAt_some
abbrev bS1 : ByteArray := ⟨#[97, 60, 61, 45, 53, 32, 39, 120, 32, 121, 39, 10, 45, 62]⟩
abbrev bS2 : ByteArray := ⟨#[97, 32, 39, 98]⟩
theorem bS1_p : scanP bS1.data.toList = (some [(1, ⟨#[97]⟩, 0), (4, ⟨#[60, 61]⟩, 1), (2, ⟨#[45, 53]⟩, 3), (3, ⟨#[39, 120, 32, 121, 39]⟩, 6), (4, ⟨#[45, 62]⟩, 12), (5, ⟨#[]⟩, 14)], -1) := by kernel_rfl
theorem bS2_p : scanP bS2.data.toList = (none, 2) := by kernel_rfl
set_option maxRecDepth 100000 in
set_option maxHeartbeats 4000000 in
theorem begun_any {W : World} (hE : Env W) : Calls Tryd.prog 4 #[] W fun e w' => e = .returned (.bool true) ∧ Below W.heap.size W w' := by
  have h1 : Calls Tryd.prog 5 #[.string bS1] W fun e w' => ∃ g cap, e = .returned (.tuple #[.slice (some ⟨g, 0, none⟩) 6 cap, .int .i64 (-1)]) ∧ HRow w' W.heap.size 29 3 (.slice (some ⟨g, 0, none⟩) 6 cap) 6 (cellsK [(1, ⟨#[97]⟩, 0), (4, ⟨#[60, 61]⟩, 1), (2, ⟨#[45, 53]⟩, 3), (3, ⟨#[39, 120, 32, 121, 39]⟩, 6), (4, ⟨#[45, 62]⟩, 12), (5, ⟨#[]⟩, 14)]) ∧ 6 ≤ cap ∧ cap ≤ maxLen ∧ Below W.heap.size W w' := (scan_any hE bS1 (by decide)).mono (fun e w' h => by
    rw [bS1_p] at h
    obtain ⟨tv, rfl, h1, _, h3⟩ := h
    have h4 := h1 _ rfl
    obtain ⟨g, cap, rfl, a1, a2⟩ := h4.slice (by decide)
    exact ⟨g, cap, rfl, h4, a1, a2, h3⟩)
  have h2 := fun (w : World) (hb : Below W.heap.size W w) => (scan_any (hE.later hb) bS2 (by decide)).mono (R' := fun e w' => e = .returned (.tuple #[.slice none 0 0, .int .i64 2]) ∧ Below w.heap.size w w') (fun e w' h => by
    rw [bS2_p] at h
    obtain ⟨tv, rfl, _, h2, h3⟩ := h
    rw [h2 rfl]
    exact ⟨rfl, h3⟩)
  clear hE
  go_enter Tryd.func4, Tryd.ntmps4
  go_upto_region 2 with (go_at_call 5; (with_reducible refine h1.mono ?_); rintro e w1 ⟨g, cap, rfl, hr, hc1, hc2, hb⟩; have h2 := h2 w1 hb; have H1 := Lib.hid (And.intro hr hb); clear h1 hr hb)
  go_upto_region 3 with (go_at_call 5; (with_reducible refine h2.mono ?_); rintro e w2 ⟨rfl, hb⟩; have H2 := Lib.hid (And.intro (H1.out.1.later hb) (below_on H1.out.2 hb)); clear h2 hb)
  have c4 := H2.out.1.cell (j := 4) rfl
  have c6 := H2.out.1.cell (j := 6) rfl
  have c7 := H2.out.1.cell (j := 7) rfl
  have c9 := H2.out.1.cell (j := 9) rfl
  have c13 := H2.out.1.cell (j := 13) rfl
  have c15 := H2.out.1.cell (j := 15) rfl
  have c17 := H2.out.1.cell (j := 17) rfl
  go_wp2_with fail
  go_ret
  exact ⟨rfl, H2.out.2⟩
end Go.Proofs.YtfbgbmkffippgaaDoor
