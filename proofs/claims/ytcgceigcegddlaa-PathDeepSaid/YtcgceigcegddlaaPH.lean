/- All ways, one by one. -/
import Derived.Test.YtcgceigcegddlaaPG
import Derived.Test.YtcgceigcegddlaaPE
namespace Go.Proofs.Ytcgceigcegddlaa
open Go Go.RowKit Go.Proofs

theorem info24 : (Try.prog.info? 24).map (fun i => (i.zero, i.size, i.bytes)) = some (some (.slice none 0 0), 1, 24) := by kernel_rfl
/-- A row of ways, the call's own; each way lies in a block of words. -/
structure PR (base : Nat) (v : Value) (vs : List Value) (ps : List (List ByteArray)) (w : World) : Prop where
  row : HRow w base 24 1 v ps.length vs
  each : ∀ j (h : j < vs.length) (h' : j < ps.length), Wd w vs[j] ps[j]
section
variable {base : Nat} {v : Value} {vs us : List Value} {ps qs : List (List ByteArray)} {w w' : World}
theorem PR.n (h : PR base v vs ps w) : vs.length = ps.length := by have := h.row.1; omega
theorem PR.on (h : PR base v vs ps w) (hb : Below w.heap.size w w') : PR base v vs ps w' := ⟨h.row.later hb, fun j a b => (h.each j a b).later hb⟩
theorem PR.mono (h : PR base v vs ps w) {b : Nat} (hb : b ≤ base) : PR b v vs ps w := ⟨h.row.mono hb, h.each⟩
theorem PR.nil (base : Nat) (w : World) : PR base (.slice none 0 0) [] [] w := ⟨HRow.nil, fun j a => absurd a (Nat.not_lt_zero j)⟩
theorem PR.one (h : PR base v vs ps w) : ∀ u ∈ vs, u.oneCell' = true := fun u hu => by
  obtain ⟨j, hj, rfl⟩ := List.getElem_of_mem hu
  obtain ⟨p, c, e, _⟩ := (h.each j hj (by rw [← h.n]; exact hj)).slice
  rw [e]; rfl
/-- What is turned: rows of ways alone. -/
def Kn (w w' : World) : Prop := ∀ (b : Nat) (cur : Array Value) (e : TypeId) (m : Nat × Nat), w.heap[b]? = some (Obj.cells cur e m) → e ≠ 24 → w'.heap[b]? = some (Obj.cells cur e m)
theorem Kn.refl (w : World) : Kn w w := fun _ _ _ _ h _ => h
theorem Kn.kp9 (h : Kn w w') : Kp9 w w' := fun b cur m x => h b cur 9 m x (by decide)
theorem Kn.below (h : Below w.heap.size w w') : Kn w w' := fun b _ _ _ x _ => (h.block b (lt_of_heap x)).trans x
theorem Kn.trans {w'' : World} (h : Kn w w') (k : Kn w' w'') : Kn w w'' := fun b cur e m x y => k b cur e m (h b cur e m x y) y
theorem Kn.grown {n sz : Nat} {xs : List Value} (hr : HRow w base 24 sz v n xs) (hg : w.grownBy w' v.ownBlock) : Kn w w' := by
  intro q cur e m hq he
  refine (hg.block q (lt_of_heap hq) (fun eq => ?_)).trans hq
  obtain ⟨_, c, hb⟩ := hr.block q eq.symm
  rw [hb] at hq
  cases hq
  exact he rfl
/-- append of one way. -/
theorem PR.snoc (h : PR base v vs ps w) {u : Value} {a : List ByteArray} (hu : Wd w u a) (hl : ps.length ≤ 1000000 - 1) (hb : base ≤ w.heap.size) {m ty : Nat} (hm : ps.length + 1 = m) :
    ∃ g cap w', (Builtin.append_ #[42, 42] ty #[v, .slice (some ⟨w.heap.size, 0, none⟩) 1 1]).run Try.prog (w.alloc (.cells #[u] 24)) = .ok (.slice (some ⟨g, 0, none⟩) m cap) w' ∧
      PR base (.slice (some ⟨g, 0, none⟩) m cap) (vs ++ [u]) (ps ++ [a]) w' ∧ Below base w w' ∧ Kn w w' := by
  subst hm
  obtain ⟨p, c, e, _⟩ := hu.slice
  obtain ⟨g, cap, w', h1, h2, h3, _⟩ := app_one (ty := ty) Try.underlying42 info24 (by kernel_rfl) (by decide) (by decide) w base h.row (by omega) hb #[u] rfl (by
    intro x hx
    simp only [List.mem_cons, List.not_mem_nil, or_false] at hx
    subst hx
    rw [e]; rfl)
  have hk := Kp9.grown h.row (by decide) h3
  refine ⟨g, cap, w', h1, ⟨by rw [List.length_append]; exact h2, fun j x y => ?_⟩, below_row h.row h3 (Nat.le_refl _) hb, Kn.grown h.row h3⟩
  by_cases e : j < vs.length
  · have e2 : j < ps.length := by rw [← h.n]; exact e
    rw [List.getElem_append_left e, List.getElem_append_left e2]
    exact (h.each j e e2).kp hk
  · have hn := h.n
    have e2 : j = vs.length := by simp at x; omega
    subst e2
    have e3 : (vs ++ [u])[vs.length] = u := by simp
    have e4 : (ps ++ [a])[vs.length] = a := by simp [hn]
    rw [e3, e4]
    exact hu.kp hk
/-- append of a row of ways. -/
theorem PR.app (h : PR base v vs ps w) {u : Value} {b2 : Nat} (k : PR b2 u us qs w) (hl : ps.length + qs.length ≤ 1000000) (hb : base ≤ w.heap.size) {m ty : Nat} (hm : ps.length + qs.length = m) :
    ∃ p cap w', (Builtin.append_ #[42, 42] ty #[v, u]).run Try.prog w = .ok (.slice p m cap) w' ∧
      PR base (.slice p m cap) (vs ++ us) (ps ++ qs) w' ∧ Below base w w' ∧ Kn w w' := by
  subst hm
  obtain ⟨i0, hi0, hz0, hz1, hz2⟩ := info_parts info24
  obtain ⟨p, c, rfl, hpc, _⟩ := h.row.isslice
  have hn := h.n
  have hkn := k.n
  rcases Nat.eq_zero_or_pos qs.length with h0 | h0
  · have hq : qs = [] := List.eq_nil_of_length_eq_zero h0
    subst hq
    have hus : us = [] := List.eq_nil_of_length_eq_zero hkn
    subst hus
    obtain ⟨q, d, rfl, _, _⟩ := k.row.isslice
    rw [List.append_nil, List.append_nil]
    exact ⟨p, c, w, append_zero Try.underlying42 hi0 hpc, h, Below.refl _ _, Kn.refl _⟩
  · obtain ⟨g2, d, rfl, _, _⟩ := k.row.slice h0
    obtain ⟨g, cap, w', h1, h2, h3, _⟩ := run_append_has (P := Try.prog) w base 42 ty 24 i0 _ 1 24 Try.underlying42 hi0 hz0 hz1 hz2 rfl (by decide) h.row ⟨g2, 0, none⟩ qs.length d us k.row.1
      (fun j x hj => by
        rw [Addr.add_lit, Nat.zero_add]
        exact k.row.cell hj) k.one h0 (by unfold maxLen; omega) (by omega) hb
    have hk := Kp9.grown h.row (by decide) h3
    refine ⟨_, cap, w', h1, ⟨by rw [List.length_append]; exact h2, fun j x y => ?_⟩, below_row h.row h3 (Nat.le_refl _) hb, Kn.grown h.row h3⟩
    by_cases e : j < vs.length
    · have e2 : j < ps.length := by rw [← hn]; exact e
      rw [List.getElem_append_left e, List.getElem_append_left e2]
      exact (h.each j e e2).kp hk
    · have e2 : ¬ j < ps.length := by rw [← hn]; exact e
      rw [List.getElem_append_right (by omega), List.getElem_append_right (by omega)]
      have e5 : j - vs.length = j - ps.length := by omega
      have hjx : j - vs.length < us.length := by rw [List.length_append] at x; omega
      have hjy : j - vs.length < qs.length := by omega
      have := (k.each _ hjx hjy).kp hk
      simp only [← e5]
      exact this
end
theorem concat_is {a l : List ByteArray} {x : ByteArray} {b m : Nat} {va vb : Value} {W : World} (hb : W.heap[b]? = some (.cells #[va, vb] 24)) (ha : Wd W va a) (hx : Wd W vb [x]) (hl : a.length ≤ 4) (he : a ++ [x] = l) (hm : l.length = m) : Calls Try.prog 52 #[.slice (some ⟨b, 0, none⟩) 2 2] W fun e w' => ∃ p c, e = .returned (.slice p m c) ∧ Wd w' (.slice p m c) l ∧ Below W.heap.size W w' := by
  subst hm he
  exact (concat_any hb ha hx hl).mono fun e w' ⟨p, c, h1, h2, h3⟩ => ⟨p, c, h1, h2.wd, h3⟩
/-- One name, in a block of its own. -/
theorem Wd.lit {W : World} {b : Nat} {x : ByteArray} {m : Nat × Nat} (h : W.heap[b]? = some (.cells #[.string x] 9 m)) : Wd W (.slice (some ⟨b, 0, none⟩) 1 1) [x] :=
  ⟨_, 1, rfl, Nat.le_refl _, by decide, fun a h => (by cases h; rfl), fun _ => ⟨b, 0, _, m, rfl, h, fun j hj => by
    have : j = 0 := by simp at hj; omega
    subst this; rfl⟩⟩
def kids (ts : List T) (k : Nat) (a : List ByteArray) (c : C) : List (List ByteArray) := (a ++ [c.nm]) :: waysP ts k c.tgt (a ++ [c.nm])
def part (ts : List T) (k : Nat) (tb : ByteArray) (a : List ByteArray) (j : Nat) : List (List ByteArray) := ((colsAt ts tb).take j).flatMap (kids ts k a)
theorem part_zero (ts : List T) (k : Nat) (tb : ByteArray) (a : List ByteArray) : part ts k tb a 0 = [] := rfl
theorem part_all (ts : List T) (k : Nat) (tb : ByteArray) (a : List ByteArray) : part ts k tb a (colsAt ts tb).length = waysP ts (k + 1) tb a := by
  unfold part
  rw [List.take_length]; rfl
theorem part_succ (ts : List T) (k : Nat) (tb : ByteArray) (a : List ByteArray) {j : Nat} (h : j < (colsAt ts tb).length) : part ts k tb a (j + 1) = (part ts k tb a j ++ [a ++ [(colsAt ts tb)[j].nm]]) ++ waysP ts k (colsAt ts tb)[j].tgt (a ++ [(colsAt ts tb)[j].nm]) := by
  unfold part
  rw [List.take_succ_eq_append_getElem h, List.flatMap_append]
  simp [kids]
theorem part_len (ts : List T) (k : Nat) (tb : ByteArray) (a : List ByteArray) (j : Nat) : (part ts k tb a j).length ≤ (waysP ts (k + 1) tb a).length := by
  rw [← part_all]
  unfold part
  rw [List.take_length]
  conv => rhs; rw [← List.take_append_drop j (colsAt ts tb)]
  rw [List.flatMap_append, List.length_append]
  omega
theorem manyW_le : ∀ n, n ≤ 4 → manyW n ≤ 1554 := by decide
end Go.Proofs.Ytcgceigcegddlaa
