import Derived.Test.YtjlnfeableleeaaR
import Derived.Test.YtjlnfeableleeaaRows
import Derived.WalkKit
import Derived.Below
import Derived.ProofKit
import Derived.OpenShut
import Derived.ChangeOld
import Derived.ChangeSlices
import Derived.Stop.Joined
import Derived.Lib.SmallJoins
namespace Go.Proofs.Ytjlnfeableleeaa
open Go Go.ChangeShapes Go.WideShapes Go.ChangeAt Go.RowKit

theorem own : ownKnob Try.prog.godebug = none := by kernel_rfl
theorem laidOut : laidOutB Try.prog = true := by kernel_rfl

theorem open_par {H : Type} {enc : TypeId × Value → H} {W : World} {v : Value} {d : DataW H} {p : List MemPlace} {b0 : Nat}
    (hv : Value.okWide Try.prog W .any b0 22 v) (h : DataW.Trod enc Try.prog W 0 (fun _ => true) true 22 v d p) : ∃ xs, Par W v xs := by
  have hv' := hv
  obtain ⟨a0, len0, cap0, rfl⟩ := okWide_slice Try.underlying22 hv
  obtain ⟨fuel, hf⟩ := h
  rcases open_ints Try.underlying22 Try.underlying3 (by kernel_rfl) hf with ⟨hcs, _⟩ | ⟨a, len, cap, zs, hcs, _, hl, hm, hz, _, hc, hw⟩
  · simp [Value.cells] at hcs
    obtain ⟨rfl, rfl, rfl⟩ := hcs
    exact ⟨[], .inl ⟨rfl, rfl⟩⟩
  · simp [Value.cells] at hcs
    obtain ⟨rfl, rfl, rfl⟩ := hcs
    simp only [if_true] at hz
    simp only [Value.okWide, Try.underlying22, Cell.okWide, Cell.ok, World.has] at hv'
    obtain ⟨_, _, _, hsp, row, cells, hshape, _⟩ := hv'
    obtain ⟨b, off, spot⟩ := a
    obtain rfl : spot = none := hsp
    have hb : b < W.heap.size := by
      simp only [World.shape?] at hshape
      rcases Nat.lt_or_ge b W.heap.size with h | h
      · exact h
      · rw [Array.getElem?_eq_none h] at hshape; cases hshape
    have hlen : (zs.take len0).length = len0 := by rw [List.length_take]; omega
    refine ⟨zs.take len0, .inr ⟨b, off, cap0, by rw [hlen], hb, by omega, hm, fun j hj => ?_⟩⟩
    have := hc j (by omega)
    rw [hlen] at hj
    rw [List.getElem?_take_of_lt hj, ← List.getD_eq_getElem?_getD]
    have e : (⟨b, off, none⟩ : Addr).add j = ⟨b, off + j, none⟩ := by
      unfold Addr.add
      split
      · rename_i h; subst h; rfl
      · rfl
    rw [e] at this
    exact this
end Go.Proofs.Ytjlnfeableleeaa
