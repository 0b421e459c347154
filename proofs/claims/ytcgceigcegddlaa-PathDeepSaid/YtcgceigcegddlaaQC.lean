/- A row of ways, moved up; a way put among others. -/
import Derived.Test.YtcgceigcegddlaaQB
import Derived.Laws.CopyOwn
import Derived.Sort.BigQuietIn
namespace Go.Proofs.Ytcgceigcegddlaa
open Go Go.RowKit Go.Proofs

section
variable {P : Program}
/-- copy of elements of any size: the row behind it. -/
theorem run_copy_sized (w : World) (dT sT ty elem : TypeId) (size g o dLen dCap : Nat) (a : Addr) (sLen sCap : Nat) (cur : Array Value) (t : TypeId) (cs : List Value)
    (hu : P.underlying dT = some (.slice elem)) (hs : (P.info? elem).map (·.size) = some size)
    (hg : w.heap[g]? = some (.cells cur t (0, 0))) (hn : cs.length = Nat.min sLen dLen * size)
    (hsrc : ∀ j v, cs[j]? = some v → w.cell? (a.add j) = some v) (hfit : o + cs.length ≤ cur.size) (h1 : ∀ v ∈ cs, v.oneCell' = true) :
    (Builtin.copy_ #[dT, sT] ty #[.slice (some ⟨g, o, none⟩) dLen dCap, .slice (some a) sLen sCap]).run P w =
      .ok (goInt (Nat.min sLen dLen)) (w.setRow g (cur.toList.take o ++ cs ++ cur.toList.drop (o + cs.length)).toArray) := by
  have hl := run_loadCells_list (P := P) w a cs hsrc
  have hst := run_storeCells_at P g o t cs 0 cur w hg (by simpa using hfit) h1
  cases hq : P.info? elem with
  | none => simp [hq] at hs
  | some i =>
    have hi : i.size = size := by simpa [hq] using hs
    simp [Builtin.copy_, run_underlying hu, Builtin.lenOf, Builtin.firstCells, sizeOf, typeInfo, hq, hi, ← hn, hl, hst]
/-- copy, as one step of a region that draws. -/
theorem step_copy_sized {ops : Array Oper} {o : Oper} {a : Act} {w : World} {K : Act → World → Prop} {Q : Exit → Act → World → Prop} {E : Prop} (hgd : o.guard = none) (d s : Operand) (dT sT : TypeId)
    (ho : o.op = .call { callee := .builtin .copy, args := #[d, s], argTypes := #[dT, sT] }) (elem : TypeId) (size : Nat) (hu : P.underlying dT = some (.slice elem)) (hsz : (P.info? elem).map (·.size) = some size)
    (dLen dCap sLen sCap : Nat) (g off : Nat) (ad : Addr) (hd : a.eval d = .slice (some ⟨g, off, none⟩) dLen dCap) (hs : a.eval s = .slice (some ad) sLen sCap)
    (cur : Array Value) (t : TypeId) (hg : w.heap[g]? = some (.cells cur t (0, 0))) (cs : List Value) (hn : cs.length = Nat.min sLen dLen * size)
    (hsrc : ∀ j v, cs[j]? = some v → w.cell? (ad.add j) = some v) (hfit : off + cs.length ≤ cur.size) (h1 : ∀ v ∈ cs, v.oneCell' = true)
    (h : K (a.put o.dst (goInt (Nat.min sLen dLen))) (w.setRow g (cur.toList.take off ++ cs ++ cur.toList.drop (off + cs.length)).toArray)) :
    if Region.wanted o (yielded ops a.tmps) = true then Oper.wp P o a w K Q else E := by
  have hw : Region.wanted o (yielded ops a.tmps) = true := by simp [Region.wanted, hgd]
  rw [if_pos hw]
  have hrun := run_copy_sized (P := P) w dT sT o.type elem size g off dLen dCap ad sLen sCap cur t cs hu hsz hg hn hsrc hfit h1
  unfold Oper.wp
  simp only [execOp, ho, resolve, invoke, builtin, Sem.run_bind, Sem.run_pure, Result.andThen_ok, List.map_toArray, List.map_cons, List.map_nil, hd, hs, hrun]
  exact h
end
theorem size24 : (Try.prog.info? 24).map (·.size) = some 1 := by kernel_rfl
theorem row_moved {w : World} {base n g cap a : Nat} {xs : List Value} {z : Value} (hn : xs.length = n) (ha : a ≤ n) (cur : Array Value) (h : HRow w base 24 1 (.slice (some ⟨g, 0, none⟩) (n + 1) cap) (n + 1) (xs ++ [z])) (hg : w.heap[g]? = some (.cells cur 24 (0, 0))) (x : Value) :
    ∃ M : List Value, M.length = n + 1 ∧ M.set a x = xs.take a ++ x :: xs.drop a ∧
    HRow (w.setRow g (cur.toList.take (a + 1) ++ xs.drop a ++ cur.toList.drop (a + 1 + (xs.drop a).length)).toArray) base 24 1 (.slice (some ⟨g, 0, none⟩) (n + 1) cap) (n + 1) M := by
  have hm : (xs.drop a).length = n - a := by rw [List.length_drop, hn]
  have hs := h.spliced cur hg (a + 1) (xs.drop a) (by rw [hm]; omega)
  refine ⟨(xs ++ [z]).take (a + 1) ++ xs.drop a, by simp; omega, ?_, ?_⟩
  · have e : (xs ++ [z]).take (a + 1) = (xs ++ [z]).take a ++ [(xs ++ [z])[a]'(by simp; omega)] := List.take_succ_eq_append_getElem _
    rw [e, List.take_append_of_le_length (by omega)]
    have hl : (xs.take a).length = a := by simp; omega
    generalize (xs ++ [z])[a]'_ = y
    rw [List.append_assoc, List.set_append_right _ _ (by omega), hl]
    simp
  · have hz : (xs ++ [z]).drop (a + 1 + (xs.drop a).length) = [] := List.drop_eq_nil_of_le (by rw [hm]; simp; omega)
    rw [hz, List.append_nil] at hs
    exact hs
theorem row_src {w : World} {base n g cap : Nat} {xs : List Value} {z : Value} (h : HRow w base 24 1 (.slice (some ⟨g, 0, none⟩) (n + 1) cap) (n + 1) (xs ++ [z])) (a : Nat) :
    ∀ j u, (xs.drop a)[j]? = some u → w.cell? ((⟨g, a, none⟩ : Addr).add j) = some u := fun j u hj => by
  rw [Addr.add_lit]
  refine h.cell ?_
  rw [List.getElem?_drop] at hj
  rw [List.getElem?_append_left (List.getElem?_eq_some_iff.1 hj).1]
  exact hj
theorem grown_setRow (w : World) (g : Nat) (cs : Array Value) : w.grownBy (w.drew.setRow g cs) (some g) :=
  ⟨rfl, rfl, rfl, by simp, fun k _ hk => setRow_other w.drew g k cs (fun e => hk (by rw [e]))⟩
theorem grown_below {B : Nat} {w w' : World} {o : Option Nat} (h : w.grownBy w' o) (ho : ∀ q, o = some q → B ≤ q) (hB : B ≤ w.heap.size) : Below B w w' :=
  ⟨h.os, h.tape, h.output, h.size, fun b hb => h.block b (by omega) (fun e => by have := ho b e.symm; omega)⟩
theorem Kn.one {w w' : World} {g : Nat} {cur : Array Value} {m : Nat × Nat} (h : w.grownBy w' (some g)) (hg : w.heap[g]? = some (.cells cur 24 m)) : Kn w w' := by
  intro q cu e me hq he
  refine (h.block q (lt_of_heap hq) (fun eq => ?_)).trans hq
  cases eq
  rw [hg] at hq
  cases hq
  exact he rfl
/-- A new way among the others. -/
theorem wsrt_put {out : List (List ByteArray)} (hs : out.Pairwise (fun a b => cmpP a b < 0)) {x : List ByteArray} {a : Nat} (ha : a ≤ out.length) (hl : ∀ h : 0 < a, cmpP (out[a - 1]'(by omega)) x < 0) (hr : ∀ j (h : j < out.length), a ≤ j → 0 < cmpP out[j] x) :
    (out.take a ++ x :: out.drop a).Pairwise (fun a b => cmpP a b < 0) := by
  rw [List.pairwise_append, List.pairwise_cons]
  have hs' := hs
  rw [← List.take_append_drop a out, List.pairwise_append] at hs'
  have hlt : ∀ y ∈ out.take a, cmpP y x < 0 := by
    intro y hy
    obtain ⟨j, hj, e⟩ := List.getElem_of_mem hy
    rw [List.length_take] at hj
    rw [List.getElem_take] at e
    have h0 := hl (by omega)
    by_cases hja : j = a - 1
    · subst hja; rw [← e]; exact h0
    · have h1 := List.pairwise_iff_getElem.1 hs j (a - 1) (by omega) (by omega) (by omega)
      rw [← e]
      have h2 := cmpP_trans (a := out[j]) (b := out[a - 1]) (c := x) (by omega) (by omega)
      rcases Int.lt_or_eq_of_le h2 with h3 | h3
      · exact h3
      · rw [cmpP_zero] at h3
        rw [h3] at h1
        have := cmpP_swap x out[a - 1]
        omega
  have hrt : ∀ y ∈ out.drop a, cmpP x y < 0 := by
    intro y hy
    obtain ⟨j, hj, e⟩ := List.getElem_of_mem hy
    rw [List.length_drop] at hj
    rw [List.getElem_drop] at e
    rw [← e]
    have := hr (a + j) (by omega) (by omega)
    have h2 := cmpP_swap x out[a + j]
    omega
  refine ⟨hs'.1, ⟨hrt, hs'.2.1⟩, fun y hy z hz => ?_⟩
  rcases List.mem_cons.1 hz with rfl | hz
  · exact hlt y hy
  · exact hs'.2.2 y hy z hz
theorem wperm_put {out : List (List ByteArray)} {x : List ByteArray} {a : Nat} : (out.take a ++ x :: out.drop a).Perm (x :: out) := by
  have := List.perm_middle (a := x) (l₁ := out.take a) (l₂ := out.drop a)
  rwa [List.take_append_drop] at this
end Go.Proofs.Ytcgceigcegddlaa
