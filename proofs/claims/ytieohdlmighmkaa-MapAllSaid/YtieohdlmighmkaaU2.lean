import Derived.Test.YtieohdlmighmkaaU
import Derived.Deep.Slices
namespace Go.Proofs.Ytieohdlmighmkaa
open Go Go.Deep Go.ChangeShapes Go.WideShapes Go.ChangeAt Go.RowKit

abbrev Op3 := Int × Int × Int
/-- Operations that came in: kind, key, value. -/
def I.ParO (W : World) (p : Option Addr) (xs : List Op3) : Prop := ∀ j (hj : j < xs.length), ∃ b off, p = some ⟨b, off, none⟩ ∧ b < W.heap.size ∧
  W.cell? ⟨b, off + j * 3, none⟩ = some (.int .i64 xs[j].1) ∧ W.cell? ⟨b, off + j * 3 + 1, none⟩ = some (.int .i64 xs[j].2.1) ∧ W.cell? ⟨b, off + j * 3 + 2, none⟩ = some (.int .i64 xs[j].2.2)
theorem list_of {α : Type} {P : Nat → α → Prop} : ∀ n : Nat, (∀ i, i < n → ∃ x, P i x) → ∃ xs : List α, xs.length = n ∧ ∀ i (h : i < xs.length), P i xs[i]
  | 0, _ => ⟨[], rfl, fun i h => absurd h (Nat.not_lt_zero i)⟩
  | n + 1, h => by
    obtain ⟨xs, hl, hx⟩ := list_of n (fun i hi => h i (by omega))
    obtain ⟨x, hn⟩ := h n (by omega)
    refine ⟨xs ++ [x], by simp [hl], fun i hi => ?_⟩
    by_cases e : i < xs.length
    · rw [List.getElem_append_left e]; exact hx i e
    · have e2 : i = n := by simp at hi; omega
      subst e2
      have e3 : (xs ++ [x])[i] = x := by simp [List.getElem_append_right, hl]
      rw [e3]; exact hn
theorem cells3 {w : World} {base : Nat} {a : Addr} {cs : List Value} (h : w.cells? base a 3 = some cs) : ∃ c0 c1 c2, cs = [c0, c1, c2] ∧ w.cell? (a.add 0) = some c0 ∧ w.cell? (a.add 1) = some c1 ∧ w.cell? (a.add 2) = some c2 := by
  unfold World.cells? at h
  split at h
  · simp only [List.range, List.range.loop, List.mapM_cons, List.mapM_nil, Option.bind_eq_bind, Option.bind_eq_some_iff, Option.pure_def, Option.some.injEq] at h
    obtain ⟨c0, h0, r0, ⟨c1, h1, r1, ⟨c2, h2, r2, e2, rfl⟩, rfl⟩, rfl⟩ := h
    subst e2
    exact ⟨c0, c1, c2, rfl, h0, h1, h2⟩
  · cases h
theorem open_ops {H : Type} {enc : TypeId × Value → H} {W : World} {v : Value} {d : DataW H} {p : List MemPlace}
    (h : DataW.Trod enc Try.prog W 0 (fun _ => true) true 22 v d p) (hv : ∃ a l c, v = .slice a l c) : ∃ q xs len cap, v = .slice q len cap ∧ xs.length = len ∧ I.ParO W q xs := by
  obtain ⟨a0, len, cap, rfl⟩ := hv
  obtain ⟨fuel, hf⟩ := h
  have c29 : Try.prog.cellsOf 29 = 3 := by kernel_rfl
  rcases Go.Deep.open_slice Try.underlying22 hf with ⟨hcs, _⟩ | ⟨a, l, c, m, n, D, Pl, hcs, hb, hl, hm, hmm, hx, hel⟩
  · simp [Value.cells] at hcs
    obtain ⟨rfl, rfl, rfl⟩ := hcs
    exact ⟨none, [], 0, 0, rfl, rfl, fun r hr => by simp at hr⟩
  · simp [Value.cells] at hcs
    obtain ⟨rfl, rfl, rfl⟩ := hcs
    by_cases h0 : len = 0
    · subst h0
      exact ⟨some a, [], 0, cap, rfl, rfl, fun r hr => by simp at hr⟩
    · have hlm : len ≤ m := by rw [hmm]; simpa using hl
      obtain ⟨b, off, spot⟩ := a
      have each : ∀ i, i < len → ∃ x : Op3, W.cell? (((⟨b, off, spot⟩ : Addr).add (i * 3)).add 0) = some (.int .i64 x.1) ∧ W.cell? (((⟨b, off, spot⟩ : Addr).add (i * 3)).add 1) = some (.int .i64 x.2.1) ∧ W.cell? (((⟨b, off, spot⟩ : Addr).add (i * 3)).add 2) = some (.int .i64 x.2.2) := by
        intro i hi
        obtain ⟨cs', e1, e2⟩ := hel i (by omega)
        rw [c29] at e1
        obtain ⟨x0, x1, x2, rfl, g0, g1, g2⟩ := cells3 e1
        obtain ⟨y0, y1, y2, q, _, _, t0, t1, t2⟩ := trod_struct3 Try.underlying29 e2
        have u0 : Try.prog.cellsOf 3 = 1 := by kernel_rfl
        simp only [u0, List.drop_zero, List.drop_succ_cons, List.take_succ_cons, List.take_zero] at t0 t1 t2
        obtain ⟨k, e3, _, _⟩ := DataW.trod_int Try.underlying3 t0
        obtain ⟨z, e4, _, _⟩ := DataW.trod_int Try.underlying3 t1
        obtain ⟨s, e5, _, _⟩ := DataW.trod_int Try.underlying3 t2
        simp only [List.cons.injEq, and_true] at e3 e4 e5
        subst e3 e4 e5
        exact ⟨(k, z, s), g0, g1, g2⟩
      obtain ⟨xs, hxl, hxs⟩ := list_of len each
      have z0 := (hxs 0 (by omega)).1
      have hspot : spot = none := by simpa [Addr.add] using World.cell?_spot z0
      subst hspot
      refine ⟨some ⟨b, off, none⟩, xs, len, cap, rfl, hxl, fun i hi => ⟨b, off, rfl, ?_, ?_⟩⟩
      · have := World.block_lt_of_cell? _ _ z0
        simpa [Addr.add] using this
      · have := hxs i hi
        rw [add_none, add_none, add_none, add_none] at this
        exact this
end Go.Proofs.Ytieohdlmighmkaa
