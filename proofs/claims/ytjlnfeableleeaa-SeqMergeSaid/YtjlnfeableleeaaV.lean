import Derived.Test.YtjlnfeableleeaaZ
import Derived.Test.YtjlnfeableleeaaU
import Derived.Deep.Matrix
namespace Go.Proofs.Ytjlnfeableleeaa
open Go Go.ChangeShapes Go.WideShapes Go.ChangeAt Go.RowKit

theorem cell_lt {w : World} {a : Addr} {v : Value} (h : w.cell? a = some v) : a.block < w.heap.size := by
  rcases Nat.lt_or_ge a.block w.heap.size with h' | h'
  · exact h'
  · exfalso
    simp [World.cell?, Array.getElem?_eq_none h'] at h
theorem add_none (b off k : Nat) : (⟨b, off, none⟩ : Addr).add k = ⟨b, off + k, none⟩ := by
  unfold Addr.add
  split
  · rename_i h; subst h; rfl
  · rfl

theorem open_rows {H : Type} {enc : TypeId × Value → H} {W : World} {v : Value} {d : DataW H} {p : List MemPlace}
    (h : DataW.Trod enc Try.prog W 0 (fun _ => true) true 40 v d p) (hv : ∃ a l c, v = .slice a l c) : ∃ q xs len cap, v = .slice q len cap ∧ xs.length = len ∧ Pars W q xs := by
  obtain ⟨a0, l0, c0, rfl⟩ := hv
  obtain ⟨fuel, hf⟩ := h
  rcases Go.Deep.open_int_rows Try.underlying40 Try.underlying22 Try.underlying3 (by kernel_rfl) (by kernel_rfl) hf with ⟨hcs, _⟩ | ⟨a, len, cap, A, L, C, Z, hcs, _, hl, hm, _, hr⟩
  · simp [Value.cells] at hcs
    obtain ⟨rfl, rfl, rfl⟩ := hcs
    exact ⟨none, [], 0, 0, rfl, rfl, fun r hr => by simp at hr⟩
  · simp [Value.cells] at hcs
    obtain ⟨rfl, rfl, rfl⟩ := hcs
    refine ⟨some a, (List.range l0).map (fun r => (Z r).take (L r)), l0, c0, rfl, by simp, fun r hr' => ?_⟩
    have hr' : r < l0 := by simpa using hr'
    obtain ⟨h1, h2, h3, h4, _, h6, h7⟩ := hr r (by omega)
    have hs := World.cell?_spot (hr 0 (by omega)).1
    have hs : a.spot = none := by simpa [Addr.add] using hs
    obtain ⟨b, off, spot⟩ := a
    obtain rfl : spot = none := hs
    rw [add_none] at h1
    have hx : ((List.range l0).map (fun r => (Z r).take (L r)))[r]'(by simpa using hr') = (Z r).take (L r) := by simp
    refine ⟨b, off, A r, L r, C r, rfl, cell_lt h1, h1, by rw [hx, List.length_take]; omega, fun k hk => ?_⟩
    have hk' : k < L r := by rw [hx, List.length_take] at hk; omega
    cases hA : A r with
    | none => have := h6 hA; omega
    | some a' =>
      obtain ⟨_, hc⟩ := h7 a' hA
      have hs := World.cell?_spot (hc 0 (by omega))
      have hs : a'.spot = none := by simpa [Addr.add] using hs
      obtain ⟨b', off', spot⟩ := a'
      obtain rfl : spot = none := hs
      have hck := hc k (by omega)
      rw [add_none] at hck
      refine ⟨b', off', rfl, cell_lt hck, ?_⟩
      rw [hck]
      simp only [hx]
      congr 2
      rw [List.getElem_take, List.getD_eq_getElem?_getD, List.getElem?_eq_getElem (by omega)]
      rfl
end Go.Proofs.Ytjlnfeableleeaa
