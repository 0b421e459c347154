/- cut; a variable that holds a Map. -/
import Derived.Test.YtpdidlnbeahanaaL
import Derived.Test.YtpdidlnbeahanaaP1
namespace Go.Proofs.Ytpdidlnbeahanaa
open Go Go.RowKit Go.Shelf Go.Proofs

theorem cut_any (p : Option Addr) (n c : Nat) (hn : n ≤ c) (hc : c ≤ maxLen) (W : World) : Calls Try.prog 10 #[.slice p n c] W fun e w' => e = .returned (.slice p (min n 60) c) ∧ w' = W := by
  unfold maxLen at hc
  by_cases h : n ≤ 60
  · have e : min n 60 = n := by omega
    have h' : ¬ (60 : Int) < (n : Int) := by omega
    rw [e]
    clear e
    go_enter Try.func10, Try.ntmps10
    go_wp2
    go_ret
    exact ⟨rfl, rfl⟩
  · have e : min n 60 = 60 := by omega
    have h' : (60 : Int) < (n : Int) := by omega
    have h2 : 60 ≤ c := by omega
    have h3 : (60 : Int) ≤ (c : Int) := by omega
    rw [e]
    clear e h
    go_enter Try.func10, Try.ntmps10
    go_wp2
    go_ret
    exact ⟨rfl, rfl⟩
theorem Rd.cut {W : World} {p : Option Addr} {xs : List Int} (h : Rd W p xs) : Rd W p (xs.take 60) := fun j hj => by
  rw [List.length_take] at hj
  have := h j (by omega)
  rw [List.getElem_take]
  exact this

/-- The variable b holds a Map of the set P. -/
def Bm (w : World) (b : Nat) (v : Value) (P : Int → Bool) : Prop := ∃ l, w.heap[b]? = some (.cells #[v] 27) ∧ Mv w v l ∧ Nrm l ∧ Is l P
theorem Bm.later {w w' : World} {b : Nat} {v : Value} {P : Int → Bool} (h : Bm w b v P) (hb : Below w.heap.size w w') : Bm w' b v P := by
  obtain ⟨l, h1, h2, h3, h4⟩ := h
  exact ⟨l, heap_below hb h1, h2.later hb, h3, h4⟩
theorem Bm.cell {w : World} {b : Nat} {v : Value} {P : Int → Bool} (h : Bm w b v P) : w.cell? ⟨b, 0, none⟩ = some v := by
  obtain ⟨l, h1, _⟩ := h
  exact nd_cell h1 0
theorem Bm.lt {w : World} {b : Nat} {v : Value} {P : Int → Bool} (h : Bm w b v P) : b < w.heap.size := by
  obtain ⟨l, h1, _⟩ := h
  exact lt_of_heap h1
/-- The value v is a Map of the set P. -/
def Vm (w : World) (v : Value) (P : Int → Bool) : Prop := ∃ l, Mv w v l ∧ Nrm l ∧ Is l P
theorem Vm.later {w w' : World} {v : Value} {P : Int → Bool} (h : Vm w v P) (hb : Below w.heap.size w w') : Vm w' v P := by
  obtain ⟨l, h2, h3, h4⟩ := h
  exact ⟨l, h2.later hb, h3, h4⟩
theorem Bm.vm {w : World} {b : Nat} {v : Value} {P : Int → Bool} (h : Bm w b v P) : Vm w v P := by
  obtain ⟨l, _, h⟩ := h
  exact ⟨l, h⟩
theorem Vm.bm {w : World} {b : Nat} {v : Value} {P : Int → Bool} (h : Vm w v P) (hb : w.heap[b]? = some (.cells #[v] 27)) : Bm w b v P := by
  obtain ⟨l, h⟩ := h
  exact ⟨l, hb, h⟩
theorem Vm.slc {w : World} {v : Value} {P : Int → Bool} (h : Vm w v P) : ∃ p n c, v = .slice p n c := by
  obtain ⟨l, h, _⟩ := h
  obtain ⟨p, c, e, _⟩ := h.slice
  exact ⟨p, _, c, e⟩
/-- The answer is a Map of the set P. -/
def IsV (P : Int → Bool) (W : World) (e : Ending) (w' : World) : Prop := ∃ p n c, e = .returned (.agg #[.slice p n c]) ∧ Vm w' (.slice p n c) P ∧ Below W.heap.size W w'
theorem IsMap.v {P : Int → Bool} {W : World} {e : Ending} {w' : World} (h : IsMap P W e w') : IsV P W e w' := by
  obtain ⟨v, l, he, hm, hn, hi, hb⟩ := h
  obtain ⟨p, c, e2, _⟩ := hm.slice
  subst e2
  exact ⟨p, _, c, he, ⟨l, hm, hn, hi⟩, hb⟩
section
variable {W : World} {va vb : Value} {P Q : Int → Bool}
theorem vand (ha : Vm W va P) (hb : Vm W vb Q) : Calls Try.prog 22 #[.agg #[va], .agg #[vb]] W (IsV (fun x => P x && Q x) W) := by
  obtain ⟨la, h1, h2, h3⟩ := ha
  obtain ⟨lb, k1, k2, k3⟩ := hb
  exact (and_any h2 k2 h1 k1 h3 k3).mono fun _ _ h => h.v
theorem vor (ha : Vm W va P) (hb : Vm W vb Q) : Calls Try.prog 23 #[.agg #[va], .agg #[vb]] W (IsV (fun x => P x || Q x) W) := by
  obtain ⟨la, h1, h2, h3⟩ := ha
  obtain ⟨lb, k1, k2, k3⟩ := hb
  exact (or_any h2 k2 h1 k1 h3 k3).mono fun _ _ h => h.v
theorem vout (ha : Vm W va P) (hb : Vm W vb Q) : Calls Try.prog 24 #[.agg #[va], .agg #[vb]] W (IsV (outP P Q) W) := by
  obtain ⟨la, h1, h2, h3⟩ := ha
  obtain ⟨lb, k1, k2, k3⟩ := hb
  exact (without_any h2 k2 h1 k1 h3 k3).mono fun _ _ h => h.v
theorem vnot (ha : Vm W va P) (n : Int) : Calls Try.prog 26 #[.agg #[va], (Value.int .i64 (n))] W (IsV (notP P n) W) := by
  obtain ⟨la, h1, h2, h3⟩ := ha
  exact (not_any h2 h1 h3 n).mono fun _ _ h => h.v
theorem vspan (a b : Int) : Calls Try.prog 27 #[(Value.int .i64 (a)), (Value.int .i64 (b))] W (IsV (spanP a b) W) := (span_any a b W).mono fun _ _ h => h.v
theorem vof {p : Option Addr} {xs : List Int} {n c : Nat} (hn : xs.length = n) (hl : n ≤ 100000) (hr : Rd W p xs) : Calls Try.prog 11 #[.slice p n c] W (IsV (ofP xs) W) := (of_any hn hl hr).mono fun _ _ h => h.v
theorem vcount (ha : Vm W va P) : Calls Try.prog 28 #[.agg #[va]] W fun e w' => e = .returned (Value.int .i64 (((elems P).length : Int))) ∧ Below W.heap.size W w' := by
  obtain ⟨la, h1, h2, h3⟩ := ha
  rw [← h3.els h2]
  exact count_any h2 h1
theorem vhas (ha : Vm W va P) (i : Int) : Calls Try.prog 14 #[.agg #[va], (Value.int .i64 (i))] W fun e w' => e = .returned (.bool (P i)) ∧ Below W.heap.size W w' := by
  obtain ⟨la, h1, h2, h3⟩ := ha
  exact has_any h2 h1 i (P i) (h3 i).symm
theorem vrank (ha : Vm W va P) (i : Int) (hi : -9223372036854775808 ≤ i ∧ i ≤ 9223372036854775807) : Calls Try.prog 16 #[.agg #[va], (Value.int .i64 (i))] W fun e w' => e = .returned (Value.int .i64 ((under (elems P) i : Int))) ∧ Below W.heap.size W w' := by
  obtain ⟨la, h1, h2, h3⟩ := ha
  rw [← h3.els h2]
  exact rank_any h2 h1 i hi
theorem vsel (ha : Vm W va P) (i : Int) (hi : -9223372036854775808 ≤ i ∧ i ≤ 9223372036854775807) : Calls Try.prog 17 #[.agg #[va], (Value.int .i64 (i))] W fun e w' => e = .returned (Value.int .i64 (sel (elems P) i)) ∧ Below W.heap.size W w' := by
  obtain ⟨la, h1, h2, h3⟩ := ha
  rw [← h3.els h2]
  exact select_any h2 h1 i hi
theorem veq (ha : Vm W va P) (hb : Vm W vb Q) (b : Bool) (h : b = true ↔ ∀ x, P x = Q x) : Calls Try.prog 25 #[.agg #[va], .agg #[vb]] W fun e w' => e = .returned (.bool b) ∧ Below W.heap.size W w' := by
  obtain ⟨la, h1, h2, h3⟩ := ha
  obtain ⟨lb, k1, k2, k3⟩ := hb
  exact eq_any h2 k2 h1 k1 h3 k3 b h
end
end Go.Proofs.Ytpdidlnbeahanaa
