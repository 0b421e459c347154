/- Ways that came in, opened. -/
import Derived.Test.YtcgceigcegddlaaTU
namespace Go.Proofs.Ytcgceigcegddlaa
open Go Go.Deep Go.ChangeShapes Go.WideShapes Go.ChangeAt Go.RowKit

section
variable {H : Type} {enc : TypeId × Value → H} {W : World}
theorem open_ways {fuel : Nat} {cs : List Value} {x : DataW H × List MemPlace} (h : DataW.trod enc Try.prog W 0 (fun _ => true) true fuel 24 cs = some x) : ∃ v l, cs = [v] ∧ InS W v l := by
  obtain ⟨v, rfl, L, h1, h2⟩ := open_row (α := ByteArray) (P := fun s cs' => cs' = [.string s]) Try.underlying24 c9 (by decide) h (fun n cs' y _ hy => by
    obtain ⟨s, e, _⟩ := DataW.trod_string Try.underlying9 hy
    exact ⟨s, e⟩)
  refine ⟨v, L.map (·.1), rfl, ?_⟩
  unfold InS
  rw [cellsS_flat, ← flat_congr L (fun x hx => (h1 x hx).1), List.length_map]
  exact h2
theorem open_way {v : Value} {d : DataW H} {p : List MemPlace} (h : DataW.Trod enc Try.prog W 0 (fun _ => true) true 24 v d p) (hv : ∃ a l c, v = .slice a l c) : ∃ l, InS W v l := by
  obtain ⟨a0, len, cap, rfl⟩ := hv
  obtain ⟨fuel, hf⟩ := h
  obtain ⟨v, l, e, hl⟩ := open_ways hf
  simp [Value.cells] at e
  exact ⟨l, by rw [e]; exact hl⟩
end
end Go.Proofs.Ytcgceigcegddlaa
