import Derived.Test.YthkggkndglbdkaaU
import Derived.Test.YthkggkndglbdkaaS4a
import Derived.ChangeSame
namespace Go.Proofs.Ythkggkndglbdkaa
open Go Go.Deep Go.ChangeShapes Go.WideShapes Go.ChangeAt Go.RowKit
open Go.ChangeMaps (open_string shut_string)

theorem cells2_of {w : World} {base : Nat} {a : Addr} {cs : List Value} (h : w.cells? base a 2 = some cs) : ∃ c0 c1, cs = [c0, c1] ∧ w.cell? (a.add 0) = some c0 ∧ w.cell? (a.add 1) = some c1 := by
  unfold World.cells? at h
  split at h
  · simp only [List.range, List.range.loop, List.mapM_cons, List.mapM_nil, Option.bind_eq_bind, Option.bind_eq_some_iff, Option.pure_def, Option.some.injEq] at h
    obtain ⟨c0, h0, r0, ⟨c1, h1, r1, e2, rfl⟩, rfl⟩ := h
    subst e2
    exact ⟨c0, c1, rfl, h0, h1⟩
  · cases h
theorem open_ops {H : Type} {enc : TypeId × Value → H} {W : World} {v : Value} {d : DataW H} {p : List MemPlace}
    (h : DataW.Trod enc Try.prog W 0 (fun _ => true) true 22 v d p) (hv : ∃ a l c, v = .slice a l c) : ∃ q xs len cap, v = .slice q len cap ∧ xs.length = len ∧ S.ParP W q xs := by
  obtain ⟨a0, len, cap, rfl⟩ := hv
  obtain ⟨fuel, hf⟩ := h
  have c34 : Try.prog.cellsOf 34 = 2 := by kernel_rfl
  rcases Go.Deep.open_slice Try.underlying22 hf with ⟨hcs, _⟩ | ⟨a, l, c, m, n, D, Pl, hcs, hb, hl, hm, hmm, hx, hel⟩
  · simp [Value.cells] at hcs
    obtain ⟨rfl, rfl, rfl⟩ := hcs
    exact ⟨none, [], 0, 0, rfl, rfl, fun r hr => by simp at hr⟩
  · simp [Value.cells] at hcs
    obtain ⟨rfl, rfl, rfl⟩ := hcs
    by_cases h0 : len = 0
    · subst h0
      exact ⟨some a, [], 0, cap, rfl, rfl, fun r hr => by simp at hr⟩
    · have hlm : len ≤ m := by rw [hmm]; simpa using hl
      obtain ⟨b, off, spot⟩ := a
      have each : ∀ i, i < len → ∃ x : S.Op2, W.cell? (((⟨b, off, spot⟩ : Addr).add (i * 2)).add 0) = some (.int .i64 x.1) ∧ W.cell? (((⟨b, off, spot⟩ : Addr).add (i * 2)).add 1) = some (.string x.2) := by
        intro i hi
        obtain ⟨cs', e1, e2⟩ := hel i (by omega)
        rw [c34] at e1
        obtain ⟨x0, x1, rfl, g0, g1⟩ := cells2_of e1
        obtain ⟨y0, y1, q, _, _, t0, t1⟩ := trod_struct2 Try.underlying34 e2
        have u0 : Try.prog.cellsOf 3 = 1 := by kernel_rfl
        have u1 : Try.prog.cellsOf 9 = 1 := by kernel_rfl
        simp only [u0, u1, List.drop_zero, List.drop_succ_cons, List.take_succ_cons, List.take_zero] at t0 t1
        obtain ⟨k, e3, _, _⟩ := DataW.trod_int Try.underlying3 t0
        obtain ⟨s, e4, _, _⟩ := DataW.trod_string Try.underlying9 t1
        simp only [List.cons.injEq, and_true] at e3 e4
        subst e3 e4
        exact ⟨(k, s), g0, g1⟩
      obtain ⟨xs, hxl, hxs⟩ := list_of len each
      have z0 := (hxs 0 (by omega)).1
      have hspot : spot = none := by simpa [Addr.add] using World.cell?_spot z0
      subst hspot
      refine ⟨some ⟨b, off, none⟩, xs, len, cap, rfl, hxl, fun i hi => ⟨b, off, rfl, ?_, ?_⟩⟩
      · have := World.block_lt_of_cell? _ _ z0
        simpa [Addr.add] using this
      · have := hxs i hi
        rw [add_none, add_none, add_none] at this
        exact this
end Go.Proofs.Ythkggkndglbdkaa
