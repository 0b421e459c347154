import Derived.Test.YtglfmbpcapendaaRows
import Derived.WalkKit
import Derived.Below
import Derived.ProofKit
import Derived.OpenShut
import Derived.ChangeOld
import Derived.ChangeSlices
import Derived.ChangeMaps
import Derived.ChangeSame
import Derived.Stop.Joined
import Derived.Lib.SmallJoins
import Derived.Deep.Slices
import Derived.Deep.Strs
namespace Go.Proofs.Ytglfmbpcapendaa
open Go Go.Deep Go.ChangeShapes Go.WideShapes Go.ChangeAt Go.RowKit
open Go.ChangeMaps (open_string shut_string)

theorem own : ownKnob Try.prog.godebug = none := by kernel_rfl
theorem laidOut : laidOutB Try.prog = true := by kernel_rfl
theorem cell_lt {w : World} {a : Addr} {v : Value} (h : w.cell? a = some v) : a.block < w.heap.size := by
  rcases Nat.lt_or_ge a.block w.heap.size with h' | h'
  · exact h'
  · exfalso
    simp [World.cell?, Array.getElem?_eq_none h'] at h
theorem add_none (b off k : Nat) : (⟨b, off, none⟩ : Addr).add k = ⟨b, off + k, none⟩ := by
  unfold Addr.add
  split
  · rename_i h; subst h; rfl
  · rfl
theorem list_of {α : Type} {P : Nat → α → Prop} : ∀ n : Nat, (∀ i, i < n → ∃ x, P i x) → ∃ xs : List α, xs.length = n ∧ ∀ i (h : i < xs.length), P i xs[i]
  | 0, _ => ⟨[], rfl, fun i h => absurd h (Nat.not_lt_zero i)⟩
  | n + 1, h => by
    obtain ⟨xs, hl, hx⟩ := list_of n (fun i hi => h i (by omega))
    obtain ⟨x, hn⟩ := h n (by omega)
    refine ⟨xs ++ [x], by simp [hl], fun i hi => ?_⟩
    by_cases e : i < xs.length
    · rw [List.getElem_append_left e]; exact hx i e
    · have e2 : i = n := by simp at hi; omega
      subst e2
      have e3 : (xs ++ [x])[i] = x := by simp [List.getElem_append_right, hl]
      rw [e3]; exact hn
theorem cells5_of {w : World} {base : Nat} {a : Addr} {cs : List Value} (h : w.cells? base a 5 = some cs) : ∃ c0 c1 c2 c3 c4, cs = [c0, c1, c2, c3, c4] ∧ w.cell? (a.add 0) = some c0 ∧ w.cell? (a.add 1) = some c1 ∧ w.cell? (a.add 2) = some c2 ∧ w.cell? (a.add 3) = some c3 ∧ w.cell? (a.add 4) = some c4 := by
  unfold World.cells? at h
  split at h
  · simp only [List.range, List.range.loop, List.mapM_cons, List.mapM_nil, Option.bind_eq_bind, Option.bind_eq_some_iff, Option.pure_def, Option.some.injEq] at h
    obtain ⟨c0, h0, r0, ⟨c1, h1, r1, ⟨c2, h2, r2, ⟨c3, h3, r3, ⟨c4, h4, r4, e2, rfl⟩, rfl⟩, rfl⟩, rfl⟩, rfl⟩ := h
    subst e2
    exact ⟨c0, c1, c2, c3, c4, rfl, h0, h1, h2, h3, h4⟩
  · cases h
/-- Numbers that came in. -/
def S.ParK (W : World) (p : Option Addr) (xs : List Int) : Prop := ∀ j (hj : j < xs.length), ∃ b off, p = some ⟨b, off, none⟩ ∧ b < W.heap.size ∧ W.cell? ⟨b, off + j, none⟩ = some (Value.int .i64 (xs[j]))
theorem open_park {H : Type} {enc : TypeId × Value → H} {W : World} {v : Value} {d : DataW H} {p : List MemPlace}
    (h : DataW.Trod enc Try.prog W 0 (fun _ => true) true 39 v d p) (hv : ∃ a l c, v = .slice a l c) : ∃ q xs len cap, v = .slice q len cap ∧ xs.length = len ∧ S.ParK W q xs := by
  obtain ⟨a0, l0, c0, rfl⟩ := hv
  obtain ⟨fuel, hf⟩ := h
  rcases open_ints Try.underlying39 Try.underlying3 (by kernel_rfl) hf with ⟨hcs, _⟩ | ⟨a, len, cap, zs, hcs, _, hl, hm, hz, _, hc, _⟩
  · simp [Value.cells] at hcs
    obtain ⟨rfl, rfl, rfl⟩ := hcs
    exact ⟨none, [], 0, 0, rfl, rfl, fun r hr => by simp at hr⟩
  · simp [Value.cells] at hcs
    obtain ⟨rfl, rfl, rfl⟩ := hcs
    simp only [if_true] at hz
    refine ⟨some a, zs.take l0, l0, c0, rfl, by rw [List.length_take]; omega, fun j hj => ?_⟩
    have hj' : j < l0 := by rw [List.length_take] at hj; omega
    have hs := World.cell?_spot (hc 0 (by omega))
    have hs : a.spot = none := by simpa [Addr.add] using hs
    obtain ⟨b, off, spot⟩ := a
    obtain rfl : spot = none := hs
    have hcj := hc j (by omega)
    rw [add_none] at hcj
    refine ⟨b, off, rfl, cell_lt hcj, ?_⟩
    rw [hcj]
    congr 2
    rw [List.getElem_take, List.getD_eq_getElem?_getD, List.getElem?_eq_getElem (by omega)]
    rfl
/-- Operations that came in. -/
abbrev S.Op5 := Int × Int × (Int × Int × ByteArray)
def S.ParO (W : World) (p : Option Addr) (xs : List S.Op5) : Prop := ∀ j (hj : j < xs.length), ∃ b off, p = some ⟨b, off, none⟩ ∧ b < W.heap.size ∧ W.cell? ⟨b, off + j * 5, none⟩ = some (Value.int .i64 ((xs[j]).1)) ∧ W.cell? ⟨b, off + j * 5 + 1, none⟩ = some (Value.int .i64 ((xs[j]).2.1)) ∧
  W.cell? ⟨b, off + j * 5 + 2, none⟩ = some (Value.int .i64 ((xs[j]).2.2.1)) ∧ W.cell? ⟨b, off + j * 5 + 3, none⟩ = some (Value.int .i64 ((xs[j]).2.2.2.1)) ∧ W.cell? ⟨b, off + j * 5 + 4, none⟩ = some (.string (xs[j]).2.2.2.2) ∧ (xs[j]).2.2.2.2.size ≤ maxLen
theorem open_ops {H : Type} {enc : TypeId × Value → H} {W : World} {v : Value} {d : DataW H} {p : List MemPlace}
    (h : DataW.Trod enc Try.prog W 0 (fun _ => true) true 22 v d p) (hv : ∃ a l c, v = .slice a l c) : ∃ q xs len cap, v = .slice q len cap ∧ xs.length = len ∧ S.ParO W q xs := by
  obtain ⟨a0, len, cap, rfl⟩ := hv
  obtain ⟨fuel, hf⟩ := h
  have c31 : Try.prog.cellsOf 31 = 5 := by kernel_rfl
  rcases Go.Deep.open_slice Try.underlying22 hf with ⟨hcs, _⟩ | ⟨a, l, c, m, n, D, Pl, hcs, hb, hl, hm, hmm, hx, hel⟩
  · simp [Value.cells] at hcs
    obtain ⟨rfl, rfl, rfl⟩ := hcs
    exact ⟨none, [], 0, 0, rfl, rfl, fun r hr => by simp at hr⟩
  · simp [Value.cells] at hcs
    obtain ⟨rfl, rfl, rfl⟩ := hcs
    by_cases h0 : len = 0
    · subst h0
      exact ⟨some a, [], 0, cap, rfl, rfl, fun r hr => by simp at hr⟩
    · have hlm : len ≤ m := by rw [hmm]; simpa using hl
      obtain ⟨b, off, spot⟩ := a
      have each : ∀ i, i < len → ∃ x : S.Op5, W.cell? (((⟨b, off, spot⟩ : Addr).add (i * 5)).add 0) = some (.int .i64 x.1) ∧ W.cell? (((⟨b, off, spot⟩ : Addr).add (i * 5)).add 1) = some (.int .i64 x.2.1) ∧
          W.cell? (((⟨b, off, spot⟩ : Addr).add (i * 5)).add 2) = some (.int .i64 x.2.2.1) ∧ W.cell? (((⟨b, off, spot⟩ : Addr).add (i * 5)).add 3) = some (.int .i64 x.2.2.2.1) ∧ W.cell? (((⟨b, off, spot⟩ : Addr).add (i * 5)).add 4) = some (.string x.2.2.2.2) ∧ x.2.2.2.2.size ≤ maxLen := by
        intro i hi
        obtain ⟨cs', e1, e2⟩ := hel i (by omega)
        rw [c31] at e1
        obtain ⟨x0, x1, x2, x3, x4, rfl, g0, g1, g2, g3, g4⟩ := cells5_of e1
        obtain ⟨y0, y1, y2, q, _, _, t0, t1, t2⟩ := trod_struct3 Try.underlying31 e2
        have u0 : Try.prog.cellsOf 3 = 1 := by kernel_rfl
        have u1 : Try.prog.cellsOf 2 = 1 := by kernel_rfl
        have u2 : Try.prog.cellsOf 9 = 1 := by kernel_rfl
        have u3 : Try.prog.cellsOf 28 = 3 := by kernel_rfl
        simp only [u0, u3, List.drop_zero, List.drop_succ_cons, List.take_succ_cons, List.take_zero] at t0 t1 t2
        obtain ⟨z0, z1, z2, q', _, _, s0, s1, s2⟩ := trod_struct3 Try.underlying28 t2
        simp only [u0, u1, u2, List.drop_zero, List.drop_succ_cons, List.take_succ_cons, List.take_zero] at s0 s1 s2
        obtain ⟨k, e3, _, _⟩ := DataW.trod_int Try.underlying3 t0
        obtain ⟨i', e4, _, _⟩ := DataW.trod_int Try.underlying3 t1
        obtain ⟨vk, e5, _, _⟩ := DataW.trod_int Try.underlying3 s0
        obtain ⟨vn, e6, _, _⟩ := DataW.trod_int Try.underlying2 s1
        obtain ⟨vs, e7, _, hs⟩ := DataW.trod_string Try.underlying9 s2
        simp only [List.cons.injEq, and_true] at e3 e4 e5 e6 e7
        subst e3 e4 e5 e6 e7
        exact ⟨(k, i', (vk, vn, vs)), g0, g1, g2, g3, g4, hs⟩
      obtain ⟨xs, hxl, hxs⟩ := list_of len each
      have z0 := (hxs 0 (by omega)).1
      have hspot : spot = none := by simpa [Addr.add] using World.cell?_spot z0
      subst hspot
      refine ⟨some ⟨b, off, none⟩, xs, len, cap, rfl, hxl, fun i hi => ⟨b, off, rfl, ?_, ?_⟩⟩
      · have := World.block_lt_of_cell? _ _ z0
        simpa [Addr.add] using this
      · have := hxs i hi
        rw [add_none, add_none, add_none, add_none, add_none, add_none] at this
        exact this
end Go.Proofs.Ytglfmbpcapendaa
