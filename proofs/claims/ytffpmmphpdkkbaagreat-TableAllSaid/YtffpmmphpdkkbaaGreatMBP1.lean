/- Plain facts about sets of numbers, for the laws. cut; a variable that holds a Map. -/
import Derived.Test.YtffpmmphpdkkbaaGreatMBA
import Derived.Test.YtffpmmphpdkkbaaGreatMBL
namespace Go.Proofs.YtffpmmphpdkkbaaGreat

theorem under_at {xs : List Int} (h : xs.Pairwise (· < ·)) {k : Nat} (hk : k < xs.length) : under xs xs[k] = k := by
  unfold under
  have e : xs = xs.take k ++ xs[k] :: xs.drop (k + 1) := by rw [List.getElem_cons_drop, List.take_append_drop]
  have h' := h
  rw [e] at h'
  have hp := List.pairwise_append.1 h'
  have h1 : (xs.take k).filter (fun x => decide (x < xs[k])) = xs.take k := filter_all (fun x hx => decide_eq_true (hp.2.2 x hx xs[k] List.mem_cons_self))
  have h2 : (xs[k] :: xs.drop (k + 1)).filter (fun x => decide (x < xs[k])) = [] := filter_none (fun x hx => by
    rcases List.mem_cons.1 hx with rfl | hx
    · exact decide_eq_false (Int.lt_irrefl _)
    · have := (List.pairwise_cons.1 hp.2.1).1 x hx
      exact decide_eq_false (by omega))
  have h3 : xs.filter (fun x => decide (x < xs[k])) = xs.take k := by
    have := congrArg (fun l => List.filter (fun x => decide (x < xs[k])) l) e
    simp only [List.filter_append, h1, h2, List.append_nil] at this
    exact this
  rw [h3, List.length_take]
  omega
theorem filter_both (L : List Int) (P Q : Int → Bool) : (L.filter (fun x => P x || Q x)).length + (L.filter (fun x => P x && Q x)).length = (L.filter P).length + (L.filter Q).length := by
  induction L with
  | nil => rfl
  | cons a r ih =>
    simp only [List.filter_cons]
    cases P a <;> cases Q a <;> simp <;> omega
theorem elems_both (P Q : Int → Bool) : (elems (fun x => P x || Q x)).length + (elems (fun x => P x && Q x)).length = (elems P).length + (elems Q).length := filter_both _ P Q
theorem filter_under (L : List Int) (h0 : ∀ x ∈ L, 0 ≤ x ∧ x < 65536) (P : Int → Bool) (i : Int) : (L.filter (fun x => P x && decide (0 ≤ x ∧ x < 65536 ∧ 0 ≤ x ∧ x < i))).length = under (L.filter P) i := by
  unfold under
  rw [List.filter_filter]
  congr 1
  apply List.filter_congr
  intro x hx
  have := h0 x hx
  rw [Bool.and_comm]
  congr 1
  rw [Bool.eq_iff_iff, decide_eq_true_eq, decide_eq_true_eq]
  omega
theorem elems_under (P : Int → Bool) (i : Int) : (elems (fun x => P x && decide (0 ≤ x ∧ x < 65536 ∧ 0 ≤ x ∧ x < i))).length = under (elems P) i := filter_under _ (fun _ hx => mem_rng.1 hx) P i
theorem under_succ {xs : List Int} (h : xs.Pairwise (· < ·)) (i : Int) : under xs (i + 1) = under xs i + if i ∈ xs then 1 else 0 := by
  induction xs with
  | nil => rfl
  | cons a r ih =>
    have hp := List.pairwise_cons.1 h
    have ih := ih hp.2
    have e : ∀ j, under (a :: r) j = (if a < j then 1 else 0) + under r j := fun j => by
      unfold under
      rw [List.filter_cons]
      by_cases h : a < j
      · simp [h]; omega
      · simp [h]
    rw [e, e, ih]
    by_cases h1 : i = a
    · subst h1
      have : i ∉ r := fun h => Int.lt_irrefl _ (hp.1 i h)
      have h2 : i < i + 1 := by omega
      simp [this, h2]
      omega
    · have e1 : (a < i + 1) = (a < i) := by rw [eq_iff_iff]; omega
      have e2 : (i ∈ a :: r) = (i ∈ r) := by simp [h1]
      simp only [e1, e2]
      omega
end Go.Proofs.YtffpmmphpdkkbaaGreat
namespace Go.Proofs.YtffpmmphpdkkbaaGreat
open Go Go.RowKit Go.Shelf Go.Proofs

theorem Rd.cut {W : World} {p : Option Addr} {xs : List Int} (h : Rd W p xs) : Rd W p (xs.take 60) := fun j hj => by
  rw [List.length_take] at hj
  have := h j (by omega)
  rw [List.getElem_take]
  exact this

/-- The variable b holds a Map of the set P. -/
def Bm (w : World) (b : Nat) (v : Value) (P : Int → Bool) : Prop := ∃ l, w.heap[b]? = some (.cells #[v] 70) ∧ Mv w v l ∧ Nrm l ∧ Is l P
theorem Bm.later {w w' : World} {b : Nat} {v : Value} {P : Int → Bool} (h : Bm w b v P) (hb : Below w.heap.size w w') : Bm w' b v P := by
  obtain ⟨l, h1, h2, h3, h4⟩ := h
  exact ⟨l, heap_below hb h1, h2.later hb, h3, h4⟩
theorem Bm.cell {w : World} {b : Nat} {v : Value} {P : Int → Bool} (h : Bm w b v P) : w.cell? ⟨b, 0, none⟩ = some v := by
  obtain ⟨l, h1, _⟩ := h
  exact nd_cell h1 0
theorem Bm.lt {w : World} {b : Nat} {v : Value} {P : Int → Bool} (h : Bm w b v P) : b < w.heap.size := by
  obtain ⟨l, h1, _⟩ := h
  exact lt_of_heap h1
/-- The value v is a Map of the set P. -/
def Vm (w : World) (v : Value) (P : Int → Bool) : Prop := ∃ l, Mv w v l ∧ Nrm l ∧ Is l P
theorem Vm.later {w w' : World} {v : Value} {P : Int → Bool} (h : Vm w v P) (hb : Below w.heap.size w w') : Vm w' v P := by
  obtain ⟨l, h2, h3, h4⟩ := h
  exact ⟨l, h2.later hb, h3, h4⟩
theorem Bm.vm {w : World} {b : Nat} {v : Value} {P : Int → Bool} (h : Bm w b v P) : Vm w v P := by
  obtain ⟨l, _, h⟩ := h
  exact ⟨l, h⟩
theorem Vm.bm {w : World} {b : Nat} {v : Value} {P : Int → Bool} (h : Vm w v P) (hb : w.heap[b]? = some (.cells #[v] 70)) : Bm w b v P := by
  obtain ⟨l, h⟩ := h
  exact ⟨l, hb, h⟩
theorem Vm.slc {w : World} {v : Value} {P : Int → Bool} (h : Vm w v P) : ∃ p n c, v = .slice p n c := by
  obtain ⟨l, h, _⟩ := h
  obtain ⟨p, c, e, _⟩ := h.slice
  exact ⟨p, _, c, e⟩
/-- The answer is a Map of the set P. -/
def IsV (P : Int → Bool) (W : World) (e : Ending) (w' : World) : Prop := ∃ p n c, e = .returned (.agg #[.slice p n c]) ∧ Vm w' (.slice p n c) P ∧ Below W.heap.size W w'
theorem IsMap.v {P : Int → Bool} {W : World} {e : Ending} {w' : World} (h : IsMap P W e w') : IsV P W e w' := by
  obtain ⟨v, l, he, hm, hn, hi, hb⟩ := h
  obtain ⟨p, c, e2, _⟩ := hm.slice
  subst e2
  exact ⟨p, _, c, he, ⟨l, hm, hn, hi⟩, hb⟩
section
variable {W : World} {va vb : Value} {P Q : Int → Bool}
theorem vor (ha : Vm W va P) (hb : Vm W vb Q) : Calls Tryz.prog 63 #[.agg #[va], .agg #[vb]] W (IsV (fun x => P x || Q x) W) := by
  obtain ⟨la, h1, h2, h3⟩ := ha
  obtain ⟨lb, k1, k2, k3⟩ := hb
  exact (or_any h2 k2 h1 k1 h3 k3).mono fun _ _ h => h.v
theorem vnot (ha : Vm W va P) (n : Int) : Calls Tryz.prog 56 #[.agg #[va], (Value.int .i64 (n))] W (IsV (notP P n) W) := by
  obtain ⟨la, h1, h2, h3⟩ := ha
  exact (not_any h2 h1 h3 n).mono fun _ _ h => h.v
theorem vof {p : Option Addr} {xs : List Int} {n c : Nat} (hn : xs.length = n) (hl : n ≤ 100000) (hr : Rd W p xs) : Calls Tryz.prog 64 #[.slice p n c] W (IsV (ofP xs) W) := (of_any hn hl hr).mono fun _ _ h => h.v
theorem vcount (ha : Vm W va P) : Calls Tryz.prog 29 #[.agg #[va]] W fun e w' => e = .returned (Value.int .i64 (((elems P).length : Int))) ∧ Below W.heap.size W w' := by
  obtain ⟨la, h1, h2, h3⟩ := ha
  rw [← h3.els h2]
  exact count_any h2 h1
theorem vhas (ha : Vm W va P) (i : Int) : Calls Tryz.prog 75 #[.agg #[va], (Value.int .i64 (i))] W fun e w' => e = .returned (.bool (P i)) ∧ Below W.heap.size W w' := by
  obtain ⟨la, h1, h2, h3⟩ := ha
  exact has_any h2 h1 i (P i) (h3 i).symm
theorem vrank (ha : Vm W va P) (i : Int) (hi : -9223372036854775808 ≤ i ∧ i ≤ 9223372036854775807) : Calls Tryz.prog 74 #[.agg #[va], (Value.int .i64 (i))] W fun e w' => e = .returned (Value.int .i64 ((under (elems P) i : Int))) ∧ Below W.heap.size W w' := by
  obtain ⟨la, h1, h2, h3⟩ := ha
  rw [← h3.els h2]
  exact rank_any h2 h1 i hi
theorem vsel (ha : Vm W va P) (i : Int) (hi : -9223372036854775808 ≤ i ∧ i ≤ 9223372036854775807) : Calls Tryz.prog 73 #[.agg #[va], (Value.int .i64 (i))] W fun e w' => e = .returned (Value.int .i64 (sel (elems P) i)) ∧ Below W.heap.size W w' := by
  obtain ⟨la, h1, h2, h3⟩ := ha
  rw [← h3.els h2]
  exact select_any h2 h1 i hi
end
end Go.Proofs.YtffpmmphpdkkbaaGreat
