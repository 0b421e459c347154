/- What came in. -/
import Derived.Test.YtpdidlnbeahanaaRows
import Derived.Test.YtpdidlnbeahanaaJ
import Derived.WalkKit
import Derived.Below
import Derived.ProofKit
import Derived.OpenShut
import Derived.ChangeOld
import Derived.ChangeSlices
import Derived.ChangeMaps
import Derived.ChangeSame
import Derived.Stop.Joined
import Derived.Lib.SmallJoins
import Derived.Deep.Slices
namespace Go.Proofs.Ytpdidlnbeahanaa
open Go Go.Deep Go.ChangeShapes Go.WideShapes Go.ChangeAt Go.RowKit
open Go.ChangeMaps (open_string shut_string)

theorem own : ownKnob Try.prog.godebug = none := by kernel_rfl
theorem laidOut : laidOutB Try.prog = true := by kernel_rfl
theorem cell_lt {w : World} {a : Addr} {v : Value} (h : w.cell? a = some v) : a.block < w.heap.size := by
  rcases Nat.lt_or_ge a.block w.heap.size with h' | h'
  · exact h'
  · exfalso
    simp [World.cell?, Array.getElem?_eq_none h'] at h
theorem add_none (b off k : Nat) : (⟨b, off, none⟩ : Addr).add k = ⟨b, off + k, none⟩ := by
  unfold Addr.add
  split
  · rename_i h; subst h; rfl
  · rfl
theorem list_of {α : Type} {P : Nat → α → Prop} : ∀ n : Nat, (∀ i, i < n → ∃ x, P i x) → ∃ xs : List α, xs.length = n ∧ ∀ i (h : i < xs.length), P i xs[i]
  | 0, _ => ⟨[], rfl, fun i h => absurd h (Nat.not_lt_zero i)⟩
  | n + 1, h => by
    obtain ⟨xs, hl, hx⟩ := list_of n (fun i hi => h i (by omega))
    obtain ⟨x, hn⟩ := h n (by omega)
    refine ⟨xs ++ [x], by simp [hl], fun i hi => ?_⟩
    by_cases e : i < xs.length
    · rw [List.getElem_append_left e]; exact hx i e
    · have e2 : i = n := by simp at hi; omega
      subst e2
      have e3 : (xs ++ [x])[i] = x := by simp [List.getElem_append_right, hl]
      rw [e3]; exact hn
/-- Numbers that came in. -/
theorem open_nums {H : Type} {enc : TypeId × Value → H} {W : World} {v : Value} {d : DataW H} {p : List MemPlace}
    (h : DataW.Trod enc Try.prog W 0 (fun _ => true) true 22 v d p) (hv : ∃ a l c, v = .slice a l c) : ∃ q xs len cap, v = .slice q len cap ∧ xs.length = len ∧ (len ≤ cap ∧ cap ≤ maxLen) ∧ Rd W q xs := by
  obtain ⟨a0, l0, c0, rfl⟩ := hv
  obtain ⟨fuel, hf⟩ := h
  rcases open_ints Try.underlying22 Try.underlying3 (by kernel_rfl) hf with ⟨hcs, _⟩ | ⟨a, len, cap, zs, hcs, _, hl, hm, hz, _, hc, _⟩
  · simp [Value.cells] at hcs
    obtain ⟨rfl, rfl, rfl⟩ := hcs
    exact ⟨none, [], 0, 0, rfl, rfl, ⟨Nat.le_refl _, Nat.zero_le _⟩, fun r hr => by simp at hr⟩
  · simp [Value.cells] at hcs
    obtain ⟨rfl, rfl, rfl⟩ := hcs
    simp only [if_true] at hz
    refine ⟨some a, zs.take l0, l0, c0, rfl, by rw [List.length_take]; omega, ⟨hl, hm⟩, fun j hj => ?_⟩
    have hj' : j < l0 := by rw [List.length_take] at hj; omega
    have hs := World.cell?_spot (hc 0 (by omega))
    have hs : a.spot = none := by simpa [Addr.add] using hs
    obtain ⟨b, off, spot⟩ := a
    obtain rfl : spot = none := hs
    have hcj := hc j (by omega)
    rw [add_none] at hcj
    refine ⟨b, off, rfl, cell_lt hcj, ?_⟩
    rw [hcj]
    congr 2
    rw [List.getElem_take, List.getD_eq_getElem?_getD, List.getElem?_eq_getElem (by omega)]
    rfl
theorem cells2_of {w : World} {base : Nat} {a : Addr} {cs : List Value} (h : w.cells? base a 2 = some cs) : ∃ c0 c1, cs = [c0, c1] ∧ w.cell? (a.add 0) = some c0 ∧ w.cell? (a.add 1) = some c1 := by
  unfold World.cells? at h
  split at h
  · simp only [List.range, List.range.loop, List.mapM_cons, List.mapM_nil, Option.bind_eq_bind, Option.bind_eq_some_iff, Option.pure_def, Option.some.injEq] at h
    obtain ⟨c0, h0, r0, ⟨c1, h1, r1, e2, rfl⟩, rfl⟩ := h
    subst e2
    exact ⟨c0, c1, rfl, h0, h1⟩
  · cases h
/-- Pairs that lie somewhere, to be read. -/
def Rd2 (W : World) (p : Option Addr) (xs : List (Int × Int)) : Prop := ∀ j (_ : j < xs.length), ∃ b off, p = some ⟨b, off, none⟩ ∧ b < W.heap.size ∧ W.cell? ⟨b, off + j * 2, none⟩ = some (Value.int .i64 (xs[j].1)) ∧ W.cell? ⟨b, off + j * 2 + 1, none⟩ = some (Value.int .i64 (xs[j].2))
theorem open_pairs {H : Type} {enc : TypeId × Value → H} {W : World} {v : Value} {d : DataW H} {p : List MemPlace}
    (h : DataW.Trod enc Try.prog W 0 (fun _ => true) true 42 v d p) (hv : ∃ a l c, v = .slice a l c) : ∃ q xs len cap, v = .slice q len cap ∧ xs.length = len ∧ (len ≤ cap ∧ cap ≤ maxLen) ∧ Rd2 W q xs := by
  obtain ⟨a0, len, cap, rfl⟩ := hv
  obtain ⟨fuel, hf⟩ := h
  have c43 : Try.prog.cellsOf 43 = 2 := by kernel_rfl
  have c3 : Try.prog.cellsOf 3 = 1 := by kernel_rfl
  rcases Go.Deep.open_slice Try.underlying42 hf with ⟨hcs, _⟩ | ⟨a, l, c, m, n, D, Pl, hcs, hb, hl, hm, hmm, hx, hel⟩
  · simp [Value.cells] at hcs
    obtain ⟨rfl, rfl, rfl⟩ := hcs
    exact ⟨none, [], 0, 0, rfl, rfl, ⟨Nat.le_refl _, Nat.zero_le _⟩, fun r hr => by simp at hr⟩
  · simp [Value.cells] at hcs
    obtain ⟨rfl, rfl, rfl⟩ := hcs
    by_cases h0 : len = 0
    · subst h0
      exact ⟨some a, [], 0, cap, rfl, rfl, ⟨hl, hm⟩, fun r hr => by simp at hr⟩
    · have hlm : len ≤ m := by rw [hmm]; simpa using hl
      obtain ⟨b, off, spot⟩ := a
      have each : ∀ i, i < len → ∃ x : Int × Int, W.cell? (((⟨b, off, spot⟩ : Addr).add (i * 2)).add 0) = some (.int .i64 x.1) ∧ W.cell? (((⟨b, off, spot⟩ : Addr).add (i * 2)).add 1) = some (.int .i64 x.2) := by
        intro i hi
        obtain ⟨cs', e1, e2⟩ := hel i (by omega)
        rw [c43] at e1
        obtain ⟨x0, x1, rfl, g0, g1⟩ := cells2_of e1
        obtain ⟨ys, m', _, _, _, hys, hxx⟩ := DataW.trod_array Try.underlying43 e2
        have t0 := hxx 0 (by omega)
        have t1 := hxx 1 (by omega)
        simp only [c3, Nat.zero_mul, Nat.one_mul, List.drop_zero, List.drop_succ_cons, List.take_succ_cons, List.take_zero] at t0 t1
        rw [List.getElem?_eq_getElem (by omega)] at t0 t1
        obtain ⟨k, e3, _, _⟩ := DataW.trod_int Try.underlying3 t0
        obtain ⟨i', e4, _, _⟩ := DataW.trod_int Try.underlying3 t1
        simp only [List.cons.injEq, and_true] at e3 e4
        subst e3 e4
        exact ⟨(k, i'), g0, g1⟩
      obtain ⟨xs, hxl, hxs⟩ := list_of len each
      have z0 := (hxs 0 (by omega)).1
      have hspot : spot = none := by simpa [Addr.add] using World.cell?_spot z0
      subst hspot
      refine ⟨some ⟨b, off, none⟩, xs, len, cap, rfl, hxl, ⟨hl, hm⟩, fun i hi => ⟨b, off, rfl, ?_, ?_⟩⟩
      · have := World.block_lt_of_cell? _ _ z0
        simpa [Addr.add] using this
      · have := hxs i hi
        rw [add_none, add_none, add_none] at this
        exact this
end Go.Proofs.Ytpdidlnbeahanaa
