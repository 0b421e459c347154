/- A row that came in: from its reading. -/
import Derived.Test.YtkgjfedpjbnjkaaDoorP
import Derived.Test.YtkgjfedpjbnjkaaDoorV
import Derived.Deep.Slices
import Derived.Deep.Strs
namespace Go.Proofs.YtkgjfedpjbnjkaaDoor
open Go Go.Deep Go.ChangeShapes Go.WideShapes Go.ChangeAt Go.RowKit

theorem list_of {α : Type} {P : Nat → α → Prop} : ∀ n : Nat, (∀ i, i < n → ∃ x, P i x) → ∃ xs : List α, xs.length = n ∧ ∀ i (h : i < xs.length), P i xs[i]
  | 0, _ => ⟨[], rfl, fun i h => absurd h (Nat.not_lt_zero i)⟩
  | n + 1, h => by
    obtain ⟨xs, hl, hx⟩ := list_of n (fun i hi => h i (by omega))
    obtain ⟨x, hn⟩ := h n (by omega)
    refine ⟨xs ++ [x], by simp [hl], fun i hi => ?_⟩
    by_cases e : i < xs.length
    · rw [List.getElem_append_left e]; exact hx i e
    · have e2 : i = n := by simp at hi; omega
      subst e2
      have e3 : (xs ++ [x])[i] = x := by simp [List.getElem_append_right, hl]
      rw [e3]; exact hn

theorem add_plain (b off j : Nat) : (⟨b, off, none⟩ : Addr).add j = ⟨b, off + j, none⟩ := by
  unfold Addr.add; split <;> simp_all
theorem cells3 {w : World} {base : Nat} {a : Addr} {cs : List Value} (h : w.cells? base a 3 = some cs) : ∃ c0 c1 c2, cs = [c0, c1, c2] ∧ w.cell? (a.add 0) = some c0 ∧ w.cell? (a.add 1) = some c1 ∧ w.cell? (a.add 2) = some c2 := by
  unfold World.cells? at h
  split at h
  · simp only [List.range, List.range.loop, List.mapM_cons, List.mapM_nil, Option.bind_eq_bind, Option.bind_eq_some_iff, Option.pure_def, Option.some.injEq] at h
    obtain ⟨c0, h0, r0, ⟨c1, h1, r1, ⟨c2, h2, r2, e2, rfl⟩, rfl⟩, rfl⟩ := h
    subst e2
    exact ⟨c0, c1, c2, rfl, h0, h1, h2⟩
  · cases h

theorem open_rows {H : Type} {enc : TypeId × Value → H} {W : World} {v : Value} {d : DataW H} {p : List MemPlace} {b0 : Nat}
    (hv : Value.okWide Tryd.prog W .any b0 33 v) (h : DataW.Trod enc Tryd.prog W 0 (fun _ => true) true 33 v d p) : ∃ xs, RowIn W v xs := by
  obtain ⟨a0, len, cap, rfl⟩ := okWide_slice Tryd.underlying33 hv
  obtain ⟨fuel, hf⟩ := h
  have c23 : Tryd.prog.cellsOf 23 = 3 := by kernel_rfl
  rcases Go.Deep.open_slice Tryd.underlying33 hf with ⟨hcs, _⟩ | ⟨a, l, c, m, n, D, Pl, hcs, hb, hl, hm, hmm, hx, hel⟩
  · simp [Value.cells] at hcs
    obtain ⟨rfl, rfl, rfl⟩ := hcs
    exact ⟨[], .inl (.inl ⟨rfl, rfl⟩)⟩
  · simp [Value.cells] at hcs
    obtain ⟨rfl, rfl, rfl⟩ := hcs
    by_cases h0 : len = 0
    · subst h0
      exact ⟨[], .inl (.inr ⟨a, cap, rfl, rfl⟩)⟩
    · have hlm : len ≤ m := by rw [hmm]; simpa using hl
      obtain ⟨b, off, spot⟩ := a
      have each : ∀ i, i < len → ∃ x : T3, (W.cell? (((⟨b, off, spot⟩ : Addr).add (i * 3)).add 0) = some (.int .i64 x.1) ∧ W.cell? (((⟨b, off, spot⟩ : Addr).add (i * 3)).add 1) = some (.int .i64 x.2.1) ∧ W.cell? (((⟨b, off, spot⟩ : Addr).add (i * 3)).add 2) = some (.string x.2.2)) ∧ x.2.2.size ≤ maxLen := by
        intro i hi
        obtain ⟨cs', e1, e2⟩ := hel i (by omega)
        rw [c23] at e1
        obtain ⟨x0, x1, x2, rfl, g0, g1, g2⟩ := cells3 e1
        obtain ⟨y0, y1, y2, q, _, _, t0, t1, t2⟩ := trod_struct3 Tryd.underlying23 e2
        have u0 : Tryd.prog.cellsOf 3 = 1 := by kernel_rfl
        have u1 : Tryd.prog.cellsOf 2 = 1 := by kernel_rfl
        have u2 : Tryd.prog.cellsOf 9 = 1 := by kernel_rfl
        simp only [u0, u1, u2, List.drop_zero, List.drop_succ_cons, List.take_succ_cons, List.take_zero] at t0 t1 t2
        obtain ⟨k, e3, _, _⟩ := DataW.trod_int Tryd.underlying3 t0
        obtain ⟨z, e4, _, _⟩ := DataW.trod_int Tryd.underlying2 t1
        obtain ⟨s, e5, _, hs⟩ := DataW.trod_string Tryd.underlying9 t2
        simp only [List.cons.injEq, and_true] at e3 e4 e5
        subst e3 e4 e5
        exact ⟨(k, z, s), ⟨g0, g1, g2⟩, hs⟩
      obtain ⟨xs, hxl, hxs⟩ := list_of len each
      have z0 := (hxs 0 (by omega)).1.1
      have hspot : spot = none := by simpa [Addr.add] using World.cell?_spot z0
      subst hspot
      refine ⟨xs, .inr ⟨b, off, cap, by rw [hxl], ?_, by rw [hxl]; omega, fun i hi => ?_⟩⟩
      · have := World.block_lt_of_cell? _ _ z0
        simpa [Addr.add] using this
      · have := hxs i hi
        rw [add_plain, add_plain, add_plain, add_plain] at this
        exact this
end Go.Proofs.YtkgjfedpjbnjkaaDoor
