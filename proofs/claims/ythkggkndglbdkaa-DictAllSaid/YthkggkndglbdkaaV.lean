import Derived.Test.YthkggkndglbdkaaW
import Derived.Test.YthkggkndglbdkaaY3
import Derived.Deep.CutBlock
import Derived.Deep.CutRange
import Derived.Deep.LoopGhost
import Derived.Sort.BigQuietIn
namespace Go.Proofs.Ythkggkndglbdkaa.S
open Go Go.RowKit Go.Shelf Go.Proofs Go.Proofs.Ythkggkndglbdkaa
variable {M : Nat}

/-- Words that lie in a row. -/
def Strs (W : World) (p : Option Addr) (xs : List (K M)) : Prop := ∀ j (hj : j < xs.length), ∃ b off, p = some ⟨b, off, none⟩ ∧ b < W.heap.size ∧ W.cell? ⟨b, off + j, none⟩ = some (.string xs[j].1)
theorem Strs.later {W W' : World} {p : Option Addr} {xs : List (K M)} (h : Strs W p xs) (hb : Below W.heap.size W W') : Strs W' p xs := fun j hj => by
  obtain ⟨b, off, h1, h2, h3⟩ := h j hj
  exact ⟨b, off, h1, Nat.lt_of_lt_of_le h2 hb.size, (World.cell?_of_block (w := W) (hb.block b h2)).trans h3⟩
abbrev sv (s : K M) : Value := .string s.1
theorem hr_strs {w : World} {base n : Nat} {p : Option Addr} {c : Nat} {xs : List (K M)} (h : HRow w base 9 1 (.slice p n c) n (xs.map sv)) (hn : xs.length = n) : Strs w p xs := fun j hj => by
  obtain ⟨g, c', he, _⟩ := h.slice (by omega)
  cases he
  refine ⟨g, 0, rfl, (h.lt g rfl).2, ?_⟩
  rw [Nat.zero_add]
  exact h.cell (by rw [List.getElem?_map, List.getElem?_eq_getElem hj]; rfl)
theorem info9 : (Try.prog.info? 9).map (fun i => (i.zero, i.size, i.bytes)) = some (some (.string ⟨#[]⟩), 1, 16) := by kernel_rfl
theorem size9 : (Try.prog.info? 9).map (·.size) = some 1 := by kernel_rfl
theorem row_moved {w : World} {base n g cap a : Nat} {xs : List Value} {z : Value} (hn : xs.length = n) (ha : a ≤ n) (cur : Array Value) (h : HRow w base 9 1 (.slice (some ⟨g, 0, none⟩) (n + 1) cap) (n + 1) (xs ++ [z])) (hg : w.heap[g]? = some (.cells cur 9 (0, 0))) (x : Value) :
    ∃ M : List Value, M.length = n + 1 ∧ M.set a x = xs.take a ++ x :: xs.drop a ∧
    HRow (w.setRow g (cur.toList.take (a + 1) ++ xs.drop a ++ cur.toList.drop (a + 1 + (xs.drop a).length)).toArray) base 9 1 (.slice (some ⟨g, 0, none⟩) (n + 1) cap) (n + 1) M := by
  have hm : (xs.drop a).length = n - a := by rw [List.length_drop, hn]
  have hs := h.spliced cur hg (a + 1) (xs.drop a) (by rw [hm]; omega)
  refine ⟨(xs ++ [z]).take (a + 1) ++ xs.drop a, by simp; omega, ?_, ?_⟩
  · have e : (xs ++ [z]).take (a + 1) = (xs ++ [z]).take a ++ [(xs ++ [z])[a]'(by simp; omega)] := List.take_succ_eq_append_getElem _
    rw [e, List.take_append_of_le_length (by omega)]
    have hl : (xs.take a).length = a := by simp; omega
    generalize (xs ++ [z])[a]'_ = y
    rw [List.append_assoc, List.set_append_right _ _ (by omega), hl]
    simp
  · have hz : (xs ++ [z]).drop (a + 1 + (xs.drop a).length) = [] := List.drop_eq_nil_of_le (by rw [hm]; simp; omega)
    rw [hz, List.append_nil] at hs
    exact hs
theorem row_src {w : World} {base n g cap : Nat} {xs : List Value} {z : Value} (h : HRow w base 9 1 (.slice (some ⟨g, 0, none⟩) (n + 1) cap) (n + 1) (xs ++ [z])) (a : Nat) :
    ∀ j u, (xs.drop a)[j]? = some u → w.cell? ((⟨g, a, none⟩ : Addr).add j) = some u := fun j u hj => by
  rw [Addr.add_lit]
  refine h.cell ?_
  rw [List.getElem?_drop] at hj
  rw [List.getElem?_append_left (List.getElem?_eq_some_iff.1 hj).1]
  exact hj
theorem grown_setRow (w : World) (g : Nat) (cs : Array Value) : w.grownBy (w.drew.setRow g cs) (some g) :=
  ⟨rfl, rfl, rfl, by simp, fun k _ hk => setRow_other w.drew g k cs (fun e => hk (by rw [e]))⟩
theorem grown_below {B : Nat} {w w' : World} {o : Option Nat} (h : w.grownBy w' o) (ho : ∀ q, o = some q → B ≤ q) (hB : B ≤ w.heap.size) : Below B w w' :=
  ⟨h.os, h.tape, h.output, h.size, fun b hb => h.block b (by omega) (fun e => by have := ho b e.symm; omega)⟩
/-- A new word among the others. -/
theorem SrtK.put {out : List (K M)} (hs : SrtK out) {x : K M} {a : Nat} (ha : a ≤ out.length) (hl : ∀ h : 0 < a, keyOf (out[a - 1]'(by omega)) < keyOf x) (hr : ∀ j (h : j < out.length), a ≤ j → keyOf x < keyOf out[j]) :
    SrtK (out.take a ++ x :: out.drop a) := by
  unfold SrtK at hs ⊢
  rw [List.pairwise_append, List.pairwise_cons]
  have hs' := hs
  rw [← List.take_append_drop a out, List.pairwise_append] at hs'
  have hlt : ∀ y ∈ out.take a, keyOf y < keyOf x := by
    intro y hy
    obtain ⟨j, hj, e⟩ := List.getElem_of_mem hy
    rw [List.length_take] at hj
    rw [List.getElem_take] at e
    have h0 := hl (by omega)
    by_cases hja : j = a - 1
    · subst hja; rw [← e]; exact h0
    · have := List.pairwise_iff_getElem.1 hs j (a - 1) (by omega) (by omega) (by omega)
      rw [← e]; omega
  have hrt : ∀ y ∈ out.drop a, keyOf x < keyOf y := by
    intro y hy
    obtain ⟨j, hj, e⟩ := List.getElem_of_mem hy
    rw [List.length_drop] at hj
    rw [List.getElem_drop] at e
    rw [← e]
    exact hr (a + j) (by omega) (by omega)
  refine ⟨hs'.1, ⟨hrt, hs'.2.1⟩, fun y hy z hz => ?_⟩
  rcases List.mem_cons.1 hz with rfl | hz
  · exact hlt y hy
  · exact hs'.2.2 y hy z hz
theorem mem_put {out : List (K M)} {x s : K M} {a : Nat} : s ∈ out.take a ++ x :: out.drop a ↔ s = x ∨ s ∈ out := by
  rw [List.mem_append, List.mem_cons]
  conv => rhs; rw [← List.take_append_drop a out, List.mem_append]
  constructor
  · rintro (h | h | h)
    · exact .inr (.inl h)
    · exact .inl h
    · exact .inr (.inr h)
  · rintro (h | h | h)
    · exact .inr (.inl h)
    · exact .inl h
    · exact .inr (.inr h)
end Go.Proofs.Ythkggkndglbdkaa.S
