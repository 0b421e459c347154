/- Plain facts about sets of numbers, for the laws. -/
import Derived.Test.YtpdidlnbeahanaaA2
namespace Go.Proofs.Ytpdidlnbeahanaa

theorem under_at {xs : List Int} (h : xs.Pairwise (· < ·)) {k : Nat} (hk : k < xs.length) : under xs xs[k] = k := by
  unfold under
  have e : xs = xs.take k ++ xs[k] :: xs.drop (k + 1) := by rw [List.getElem_cons_drop, List.take_append_drop]
  have h' := h
  rw [e] at h'
  have hp := List.pairwise_append.1 h'
  have h1 : (xs.take k).filter (fun x => decide (x < xs[k])) = xs.take k := filter_all (fun x hx => decide_eq_true (hp.2.2 x hx xs[k] List.mem_cons_self))
  have h2 : (xs[k] :: xs.drop (k + 1)).filter (fun x => decide (x < xs[k])) = [] := filter_none (fun x hx => by
    rcases List.mem_cons.1 hx with rfl | hx
    · exact decide_eq_false (Int.lt_irrefl _)
    · have := (List.pairwise_cons.1 hp.2.1).1 x hx
      exact decide_eq_false (by omega))
  have h3 : xs.filter (fun x => decide (x < xs[k])) = xs.take k := by
    have := congrArg (fun l => List.filter (fun x => decide (x < xs[k])) l) e
    simp only [List.filter_append, h1, h2, List.append_nil] at this
    exact this
  rw [h3, List.length_take]
  omega
theorem filter_both (L : List Int) (P Q : Int → Bool) : (L.filter (fun x => P x || Q x)).length + (L.filter (fun x => P x && Q x)).length = (L.filter P).length + (L.filter Q).length := by
  induction L with
  | nil => rfl
  | cons a r ih =>
    simp only [List.filter_cons]
    cases P a <;> cases Q a <;> simp <;> omega
theorem elems_both (P Q : Int → Bool) : (elems (fun x => P x || Q x)).length + (elems (fun x => P x && Q x)).length = (elems P).length + (elems Q).length := filter_both _ P Q
theorem filter_under (L : List Int) (h0 : ∀ x ∈ L, 0 ≤ x ∧ x < 65536) (P : Int → Bool) (i : Int) : (L.filter (fun x => P x && decide (0 ≤ x ∧ x < 65536 ∧ 0 ≤ x ∧ x < i))).length = under (L.filter P) i := by
  unfold under
  rw [List.filter_filter]
  congr 1
  apply List.filter_congr
  intro x hx
  have := h0 x hx
  rw [Bool.and_comm]
  congr 1
  rw [Bool.eq_iff_iff, decide_eq_true_eq, decide_eq_true_eq]
  omega
theorem elems_under (P : Int → Bool) (i : Int) : (elems (fun x => P x && decide (0 ≤ x ∧ x < 65536 ∧ 0 ≤ x ∧ x < i))).length = under (elems P) i := filter_under _ (fun _ hx => mem_rng.1 hx) P i
theorem under_succ {xs : List Int} (h : xs.Pairwise (· < ·)) (i : Int) : under xs (i + 1) = under xs i + if i ∈ xs then 1 else 0 := by
  induction xs with
  | nil => rfl
  | cons a r ih =>
    have hp := List.pairwise_cons.1 h
    have ih := ih hp.2
    have e : ∀ j, under (a :: r) j = (if a < j then 1 else 0) + under r j := fun j => by
      unfold under
      rw [List.filter_cons]
      by_cases h : a < j
      · simp [h]; omega
      · simp [h]
    rw [e, e, ih]
    by_cases h1 : i = a
    · subst h1
      have : i ∉ r := fun h => Int.lt_irrefl _ (hp.1 i h)
      have h2 : i < i + 1 := by omega
      simp [this, h2]
      omega
    · have e1 : (a < i + 1) = (a < i) := by rw [eq_iff_iff]; omega
      have e2 : (i ∈ a :: r) = (i ∈ r) := by simp [h1]
      simp only [e1, e2]
      omega
end Go.Proofs.Ytpdidlnbeahanaa
