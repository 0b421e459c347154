/- Every input: LoadNumbers answers true and turns nothing that was there. Conditions: none. -/
import Derived.Test.YthlccadnojnkaaaGreatZm64
import Derived.Test.YthlccadnojnkaaaGreatZn52
import Derived.Test.YthlccadnojnkaaaGreatZn3
import Derived.ChangeSlices
import Derived.Deep.Grids
namespace Go.Proofs.YthlccadnojnkaaaGreat
open Go.Proofs.Tryz
open Go Go.RowKit Go.Proofs Co Co.S Par
section
variable {ts : List T}
theorem lnrun_app : ∀ {a b : List cx} {L : List PT} {k : Nat} {ids : List Int}, (dt ts L k ids a).err = 0 → dt ts L k ids (a ++ b) = dt ts (dt ts L k ids a).rows (k + a.length) (dt ts L k ids a).ids b
  | [], b, L, k, ids, _ => by rw [dt]; rfl
  | o :: a, b, L, k, ids, h => by
    rw [dt] at h
    rw [List.cons_append, dt, dt]
    by_cases he : (py ts L o).2 = 0
    · rw [if_pos he] at h ⊢
      rw [if_pos he, lnrun_app h, List.length_cons, show k + 1 + a.length = k + (a.length + 1) by omega]
    · rw [if_neg he] at h
      exact absurd h he
end
def lnP (x : Int) (m : Nat) : Nat := ((x.tmod m + m).tmod m).toNat
theorem lnP_is (x : Int) {m : Nat} (h : 0 < m) : (x.tmod m + m).tmod m = (lnP x m : Int) ∧ lnP x m < m ∧ -(m : Int) < x.tmod m ∧ x.tmod m < m := by
  have h0 : (0 : Int) < (m : Int) := by omega
  have h1 := Int.lt_tmod_of_pos x h0
  have h2 := Int.tmod_lt_of_pos x h0
  have h3 := Int.tmod_nonneg (m : Int) (a := x.tmod m + m) (by omega)
  have h4 := Int.tmod_lt_of_pos (x.tmod m + m) h0
  unfold lnP
  omega
/-- Rows by number and key. -/
def lnR (l : List (Int × Int)) : List R1 := l.map fun p => (p.1, ph p.2)
def lnL (nx : Nat) (l : List (Int × Int)) : List PT := [(nx, lnR l), (0, []), (0, []), (0, [])]
def lnN (nx k n : Nat) : List (Int × Int) := (List.range n).map fun j => (((nx + j : Nat) : Int), ((k + j : Nat) : Int))
def lnO (k n : Nat) : List cx := (List.range n).map fun j => Bf ((k + j : Nat) : Int)
def lnI (nx n : Nat) : List Int := (List.range n).map fun j => ((nx + j : Nat) : Int)
theorem lnO_succ (k n : Nat) : lnO k (n + 1) = lnO k n ++ [Bf ((k + n : Nat) : Int)] := by
  unfold lnO
  rw [List.range_succ, List.map_append]
  rfl
theorem lnO_len (k n : Nat) : (lnO k n).length = n := by unfold lnO; rw [List.length_map, List.length_range]
theorem lnN_succ (nx k n : Nat) : lnN nx k (n + 1) = lnN nx k n ++ [(((nx + n : Nat) : Int), ((k + n : Nat) : Int))] := by
  unfold lnN
  rw [List.range_succ, List.map_append]
  rfl
theorem lnI_succ (nx n : Nat) : lnI nx (n + 1) = lnI nx n ++ [((nx + n : Nat) : Int)] := by
  unfold lnI
  rw [List.range_succ, List.map_append]
  rfl
theorem lnI_len (nx n : Nat) : (lnI nx n).length = n := by unfold lnI; rw [List.length_map, List.length_range]
theorem ln_set (nx : Nat) (l : List (Int × Int)) (x : PT) : (lnL nx l).set 0 x = [x, (0, []), (0, []), (0, [])] := rfl
theorem lnR_snoc (l : List (Int × Int)) (a b : Int) : lnR (l ++ [(a, b)]) = lnR l ++ [(a, ph b)] := by
  unfold lnR
  rw [List.map_append]
  rfl
theorem ln_doE (nx : Nat) (l : List (Int × Int)) (v : Int) : py (pre 4) (lnL nx l) (Bf v) = ((nx : Int), 0) := by
  rw [D4 (j := 0) rfl (by kernel_rfl) (by decide) (by show 0 < 4; decide)]
  have h : (jx (pre 4)[0] (nx, lnR l) (ph v), dj (pre 4)[0] (ph v)) = ((nx : Int), 0) := by
    unfold jx
    rw [if_pos (G3 v), G3 v]
  exact h
theorem ln_do1 (nx : Nat) (l : List (Int × Int)) (v : Int) : sf (pre 4) (lnL nx l) (Bf v) = lnL (nx + 1) (l ++ [((nx : Int), v)]) := by
  unfold sf
  rw [if_pos (by rfl), dX (j := 0) (by kernel_rfl) (by decide) (by show 0 < 4; decide)]
  have h : (lnL nx l).set 0 (gj (pre 4)[0] (nx, lnR l) (ph v)) = lnL (nx + 1) (l ++ [((nx : Int), v)]) := by
    unfold gj
    rw [if_pos (G3 v), ln_set]
    unfold lnL
    rw [lnR_snoc]
  exact h
theorem ln_run (nx k : Nat) (l : List (Int × Int)) : ∀ n, dt (pre 4) (lnL nx l) 0 [] (lnO k n) = ⟨lnL (nx + n) (l ++ lnN nx k n), lnI nx n, 0, 0, e0⟩
  | 0 => by
    have h : lnO k 0 = [] := rfl
    rw [h, dt]
    have h2 : lnN nx k 0 = [] := rfl
    rw [h2, List.append_nil]
    rfl
  | n + 1 => by
    have ih := ln_run nx k l n
    rw [lnO_succ, lnrun_app (by rw [ih]), ih]
    dsimp only
    rw [dt, ln_doE, if_pos rfl, ln_do1, dt, lnN_succ, lnI_succ, List.append_assoc, Nat.add_assoc]
    rfl
theorem ln_apply (nx k : Nat) (l : List (Int × Int)) {n : Nat} (h0 : 0 < n) (h1 : n ≤ 40) : ak (pre 4) (lnL nx l) (lnO k n) = ⟨lnL (nx + n) (l ++ lnN nx k n), lnI nx n, 0, 0, e0⟩ := by
  unfold ak
  rw [lnO_len, if_neg (by omega), ln_run]
/-- Numbers below nx, keys below k, rising. -/
def LnI (nx k : Nat) (l : List (Int × Int)) : Prop := (∀ p ∈ l, p.1 < (nx : Int) ∧ p.2 < (k : Int)) ∧ l.Pairwise fun a b => a.2 < b.2
theorem lnN_mem {nx k n : Nat} {p : Int × Int} (h : p ∈ lnN nx k n) : ∃ j, j < n ∧ p = (((nx + j : Nat) : Int), ((k + j : Nat) : Int)) := by
  unfold lnN at h
  obtain ⟨j, hj, rfl⟩ := List.mem_map.1 h
  exact ⟨j, List.mem_range.1 hj, rfl⟩
theorem LnI.add {nx k : Nat} {l : List (Int × Int)} (h : LnI nx k l) : ∀ n, LnI (nx + n) (k + n) (l ++ lnN nx k n)
  | 0 => by
    have h2 : lnN nx k 0 = [] := rfl
    rw [h2, List.append_nil]
    exact h
  | n + 1 => by
    obtain ⟨h1, h2⟩ := h.add n
    rw [lnN_succ, ← List.append_assoc]
    refine ⟨fun p hp => ?_, ?_⟩
    · rcases List.mem_append.1 hp with hp | hp
      · obtain ⟨q1, q2⟩ := h1 p hp
        exact ⟨by omega, by omega⟩
      · obtain rfl := List.mem_singleton.1 hp
        exact ⟨by show ((nx + n : Nat) : Int) < _; omega, by show ((k + n : Nat) : Int) < _; omega⟩
    · refine List.pairwise_append.2 ⟨h2, List.pairwise_singleton _ _, fun a ha b hb => ?_⟩
      obtain rfl := List.mem_singleton.1 hb
      exact (h1 a ha).2
theorem LnI.filter {nx k : Nat} {l : List (Int × Int)} (h : LnI nx k l) (p : Int × Int → Bool) : LnI nx k (l.filter p) :=
  ⟨fun x hx => h.1 x (List.mem_filter.1 hx).1, h.2.sublist (List.filter_sublist)⟩
theorem ln_word (l : List (Int × Int)) (c : Nat) : fy (lnR l) c = 0 := by
  unfold fy
  rw [List.length_eq_zero_iff, List.filter_eq_nil_iff]
  intro i _
  unfold firstT
  have h : (((lnR l).map fun a => a.2.getD c z3).getD i z3).1 ≠ 2 := by
    rw [List.getD_eq_getElem?_getD]
    unfold lnR
    rw [List.map_map, List.getElem?_map]
    cases l[i]? with
    | none => show (0 : Int) ≠ 2; decide
    | some p =>
      show ((ph p.2).getD c z3).1 ≠ 2
      rcases c with _ | _ | c
      · show (1 : Int) ≠ 2; decide
      · show (0 : Int) ≠ 2; decide
      · show (0 : Int) ≠ 2; decide
  rw [decide_eq_false h, Bool.false_and]
  decide
theorem ln_at {l : List (Int × Int)} {m : Nat} (hm : m < l.length) : rowAt (lnR l) m = (l[m].1, ph l[m].2) := by
  unfold rowAt lnR
  rw [List.getD_eq_getElem?_getD, List.getElem?_map, List.getElem?_eq_getElem hm]
  rfl
theorem ln_less (l : List (Int × Int)) (m : Nat) : bk (lnR l) m = ((l.take m).map (·.2)).map ph := by
  unfold bk lnR
  rw [← List.map_take, List.map_map, List.map_map]
  rfl
theorem ln_good {l : List (Int × Int)} (h : l.Pairwise fun a b => a.2 < b.2) (As : List (List R1)) {m : Nat} (hm : m < l.length) : ge (pre 4) As (pre 4)[0] (lnR l) m = false := by
  unfold ge
  rw [ln_at hm, CN, ln_less, Do]
  have hk : ((l.take m).map (·.2)).any (fun u => decide (l[m].2 = u)) = false := by
    rw [List.any_eq_false]
    intro u hu
    obtain ⟨p, hp, rfl⟩ := List.mem_map.1 hu
    obtain ⟨i, hi, rfl⟩ := List.mem_iff_getElem.1 hp
    rw [List.length_take] at hi
    have hlt := List.pairwise_iff_getElem.1 h i m (by omega) hm (by omega)
    rw [List.getElem_take]
    simp only [decide_eq_true_eq]
    intro e
    rw [e] at hlt
    exact absurd hlt (Int.lt_irrefl _)
  rw [hk]
  rfl
theorem ln_check {nx : Nat} {l : List (Int × Int)} (h : l.Pairwise fun a b => a.2 < b.2) (hl : l.length ≤ 64) : au (pre 4) ((lnL nx l).map (·.2)) = (0, e0, 0, e0) := by
  have hlen : (lnR l).length = l.length := by unfold lnR; rw [List.length_map]
  have h0 : bm (pre 4) ((lnL nx l).map (·.2)) 0 = (0, 0, e0) := by
    have h1 : bm (pre 4) ((lnL nx l).map (·.2)) 0 = lj (pre 4) ((lnL nx l).map (·.2)) (pre 4)[0] (lnR l) := rfl
    rw [h1]
    unfold lj
    rw [eU (by omega) (fun m _ => by rw [ln_word]; decide), if_pos rfl]
    exact cU (fun m hm => ln_good h _ (by omega))
  refine cX (fun i hi => ?_)
  match i, hi with
  | 0, _ => rw [h0]
  | 1, _ => rfl
  | 2, _ => rfl
  | 3, _ => rfl
/-- New keys are taken. -/
theorem ln_load {nx k n : Nat} {l : List (Int × Int)} (h : LnI nx k l) (h0 : 0 < n) (h1 : n ≤ 5) (hl : l.length ≤ 59) : dn (lnL nx l) (lnO k n) = (0, 0, e0, 0, e0) := by
  have hlen : (lnN nx k n).length = n := by unfold lnN; rw [List.length_map, List.length_range]
  unfold dn
  rw [ln_apply nx k l h0 (by omega)]
  dsimp only
  rw [if_pos rfl, ln_check (h.add n).2 (by rw [List.length_append]; omega)]
  rfl
abbrev bdV : List T3 := [(0, 0, e0), (0, 0, e0)]
abbrev bdO : cx := pO an bdV
theorem bd_ins : dj (pre 4)[0] bdV = 0 := by kernel_rfl
theorem bd_row (As : List (List R1)) (B : List (List T3)) : fg (pre 4) As (pre 4)[0] bdV B = (7, oj) := by
  have h : aq (eh (pre 4)[0] bdV) (pre 4)[0].cols.length = some 0 := by kernel_rfl
  unfold fg
  rw [h]
  rfl
theorem ln_bad {nx : Nat} {A : List R1} {id : Int} : (au (pre 4) (([(nx, A ++ [(id, bdV)]), (0, []), (0, []), (0, [])] : List PT).map (·.2))).1 ≠ 0 := by
  obtain ⟨As, hAs⟩ : ∃ As, ([(nx, A ++ [(id, bdV)]), (0, []), (0, []), (0, [])] : List PT).map (·.2) = As := ⟨_, rfl⟩
  have h1 : bm (pre 4) As 0 = lj (pre 4) As (pre 4)[0] (A ++ [(id, bdV)]) := by rw [← hAs]; rfl
  rw [hAs]
  have h0 : (bm (pre 4) As 0).1 ≠ 0 := by
    rw [h1]
    unfold lj
    by_cases ht : (jp (pre 4)[0] (A ++ [(id, bdV)])).1 = 0
    · rw [if_pos ht]
      have hb : ge (pre 4) As (pre 4)[0] (A ++ [(id, bdV)]) A.length = true := by
        unfold ge rowAt
        have e : (A ++ [(id, bdV)]).getD A.length (0, []) = (id, bdV) := by simp
        rw [e, bd_row]
        rfl
      unfold gk
      cases hf : aq (ge (pre 4) As (pre 4)[0] (A ++ [(id, bdV)])) (A ++ [(id, bdV)]).length with
      | none =>
        unfold aq at hf
        rw [List.find?_eq_none] at hf
        exact absurd hb (hf _ (List.mem_range.2 (by simp)))
      | some i =>
        obtain ⟨_, h2, _⟩ := dZ hf
        exact of_decide_eq_true h2
    · rw [if_neg ht]; exact ht
  rw [cW (j := 0) (by decide) h0 (fun i hi => absurd hi (Nat.not_lt_zero i))]
  exact h0
/-- A row without a key is not. -/
theorem ln_no {nx k n : Nat} {l : List (Int × Int)} (h1 : n ≤ 5) : (dn (lnL nx l) (lnO k n ++ [bdO])).1 ≠ 0 := by
  have hr := ln_run nx k l n
  have ha : ak (pre 4) (lnL nx l) (lnO k n ++ [bdO]) = dt (pre 4) (lnL (nx + n) (l ++ lnN nx k n)) (0 + n) (lnI nx n) [bdO] := by
    unfold ak
    rw [if_neg (by rw [List.length_append, lnO_len]; show ¬(n + 1 = 0 ∨ 40 < n + 1); omega), lnrun_app (by rw [hr]), hr, lnO_len]
  obtain ⟨l2, hl2⟩ : ∃ x, l ++ lnN nx k n = x := ⟨_, rfl⟩
  obtain ⟨m, hm⟩ : ∃ x, nx + n = x := ⟨_, rfl⟩
  have hd : py (pre 4) (lnL m l2) bdO = ((m : Int), 0) := by
    rw [D4 (j := 0) rfl (by kernel_rfl) (by decide) (by show 0 < 4; decide)]
    have h : (jx (pre 4)[0] (m, lnR l2) bdV, dj (pre 4)[0] bdV) = ((m : Int), 0) := by
      unfold jx
      rw [if_pos bd_ins, bd_ins]
    exact h
  have hd1 : sf (pre 4) (lnL m l2) bdO = [(m + 1, lnR l2 ++ [((m : Int), bdV)]), (0, []), (0, []), (0, [])] := by
    unfold sf
    rw [if_pos (by rfl), dX (j := 0) (by kernel_rfl) (by decide) (by show 0 < 4; decide)]
    have h : (lnL m l2).set 0 (gj (pre 4)[0] (m, lnR l2) bdV) = [(m + 1, lnR l2 ++ [((m : Int), bdV)]), (0, []), (0, []), (0, [])] := by
      unfold gj
      rw [if_pos bd_ins, ln_set]
    exact h
  rw [hm, hl2, dt, hd, if_pos rfl, hd1, dt] at ha
  have hb := ln_bad (nx := m + 1) (A := lnR l2) (id := (m : Int))
  unfold dn
  rw [ha]
  dsimp only
  rw [if_pos rfl, if_neg hb]
  exact hb
abbrev dlO (id : Int) : cx := ⟨2, an, id, e0, []⟩
theorem ln_without (l : List (Int × Int)) (x : Int) : without (lnR l) x = lnR (l.filter fun p => decide (p.1 ≠ x)) := by
  unfold without lnR
  rw [List.filter_map]
  rfl
theorem ln_gone {nx k : Nat} {l : List (Int × Int)} {x : Int} (h : LnI nx k l) (hl : l.length ≤ 64) (hx : ∃ p ∈ l, p.1 = x) : dn (lnL nx l) [dlO x] = (0, 0, e0, 0, e0) ∧ (ak (pre 4) (lnL nx l) [dlO x]).rows = lnL nx (l.filter fun p => decide (p.1 ≠ x)) := by
  have hh : dg (lnR l) x = true := by
    unfold dg lnR
    rw [List.any_map, List.any_eq_true]
    obtain ⟨p, hp, e⟩ := hx
    exact ⟨p, hp, by simp [e]⟩
  have hd : py (pre 4) (lnL nx l) (dlO x) = (0, 0) := by
    rw [D4 (j := 0) rfl (by kernel_rfl) (by decide) (by show 0 < 4; decide)]
    have h : ((0 : Int), if dg (lnR l) x = true then (0 : Int) else 6) = (0, 0) := by rw [if_pos hh]
    exact h
  have hd1 : sf (pre 4) (lnL nx l) (dlO x) = lnL nx (l.filter fun p => decide (p.1 ≠ x)) := by
    unfold sf
    rw [if_pos (by rfl), dX (j := 0) (by kernel_rfl) (by decide) (by show 0 < 4; decide)]
    have h : (lnL nx l).set 0 (kh (nx, lnR l) x) = lnL nx (l.filter fun p => decide (p.1 ≠ x)) := by
      unfold kh
      rw [ln_set]
      dsimp only
      rw [ln_without]
      rfl
    exact h
  have ha : ak (pre 4) (lnL nx l) [dlO x] = ⟨lnL nx (l.filter fun p => decide (p.1 ≠ x)), [], 0, 0, e0⟩ := by
    unfold ak
    rw [if_neg (by show ¬(1 = 0 ∨ 40 < 1); decide), dt, hd, if_pos rfl, hd1, dt]
    rfl
  refine ⟨?_, by rw [ha]⟩
  unfold dn
  rw [ha]
  dsimp only
  rw [if_pos rfl, ln_check (h.filter _).2 (Nat.le_trans (List.length_filter_le _ _) hl)]
  rfl
end Go.Proofs.YthlccadnojnkaaaGreat
namespace Go.Proofs.YthlccadnojnkaaaGreat
open Go.Proofs.Tryz
open Go Go.RowKit Go.Proofs Co Co.S Par
def RdM (W : World) (p : Option Addr) (xs : List Int) : Prop := ∀ j (_ : j < xs.length), ∃ b off, p = some ⟨b, off, none⟩ ∧ b < W.heap.size ∧ W.cell? ⟨b, off + j, none⟩ = some (.int .i64 (xs.getD j 0))
def RdL (W : World) (p : Option Addr) (n : Nat) (F : Nat → Bool) : Prop := ∀ i, i < n → ∃ b off, p = some ⟨b, off, none⟩ ∧ b < W.heap.size ∧ W.cell? ⟨b, off + i, none⟩ = some (.bool (F i))
theorem lnO_ok (k n : Nat) : ∀ o ∈ lnO k n, ir o := fun o ho => by
  unfold lnO at ho
  obtain ⟨j, _, rfl⟩ := List.mem_map.1 ho
  exact cM (by decide) (by decide) (fun x hx => by
    have h : x = (1, ((k + j : Nat) : Int), e0) ∨ x = (0, 0, e0) := by simpa [ph] using hx
    rcases h with rfl | rfl
    · exact Nat.zero_le _
    · exact Nat.zero_le _) (by show 2 ≤ 10; decide)
theorem ln_sm {nx : Nat} {l : List (Int × Int)} (h : l.length ≤ nx) {m : Nat} (hm : nx ≤ m) : ∀ x ∈ lnL nx l, dw m x := fun x hx => by
  have e : x = (nx, lnR l) ∨ x = (0, []) := by simpa [lnL] using hx
  rcases e with rfl | rfl
  · exact ⟨hm, by show (lnR l).length ≤ nx; unfold lnR; rw [List.length_map]; exact h⟩
  · exact ⟨Nat.zero_le _, Nat.le_refl _⟩
theorem LnI.mono {nx k k2 : Nat} {l : List (Int × Int)} (h : LnI nx k l) (hk : k ≤ k2) : LnI nx k2 l := ⟨fun p hp => ⟨(h.1 p hp).1, by have := (h.1 p hp).2; omega⟩, h.2⟩
theorem bdO_ok : ir bdO := cM (by decide) (by decide) (by decide) (by decide)
theorem dlO_ok {id : Int} (h : kj id) : ir (dlO id) := ⟨h, by show an.size ≤ maxLen; decide, by show e0.size ≤ maxLen; decide, fun x hx => (by cases hx), by show 0 ≤ 1000; decide⟩
/-- One operation of two values more. -/
theorem ln_app {wr w : World} {base n c : Nat} {p : Option Addr} {ops : List cx} (ho : ef wr base (.slice p n c) ops) (hn : ops.length = n) (hb : Below wr.heap.size wr w) (hle : base ≤ wr.heap.size) (hm : n + 1 ≤ 1000) (cs : Array Value) (l1 : List T3) (hcs : cs.toList = cells3 l1) (hl : l1.length = 2) :
    ∃ g cap w', (Builtin.append_ #[35, 35] 35 #[.slice p n c, .slice (some ⟨w.heap.size + 1, 0, none⟩) 1 1]).run Tryz.prog ((w.alloc (.cells cs 32)).alloc (.cells #[.int .i64 1, .string an, .int .i64 0, .string e0, .slice (some ⟨w.heap.size, 0, none⟩) 2 2] 29)) = .ok (.slice (some ⟨g, 0, none⟩) (n + 1) cap) w' ∧
      ef w' base (.slice (some ⟨g, 0, none⟩) (n + 1) cap) (ops ++ [pO an l1]) ∧ Below base wr w' := by
  have hr := ac.lit (base := wr.heap.size) (n := 2) (size := 3) (heap_alloc_new w (.cells cs 32)) hcs (by rw [dR, hl]) hb.size (by unfold maxLen; decide)
  have h := dL (n1 := an) (l1 := l1) (g1 := w.heap.size) (m1 := 2) (k1 := 2) ho hn (aB hb (aD w (.cells cs 32))) hle (by rw [hl]; exact hr) (by omega)
  rw [World.size_alloc] at h
  exact h
set_option maxRecDepth 100000 in
set_option maxHeartbeats 8000000 in
theorem lnumbers_law {p0 p1 : Option Addr} {c0 n1 c1 : Nat} {xs : List Int} {F : Nat → Bool} (W : World) (hx : RdM W p0 xs) (hm : xs.length ≤ maxLen) (hy : RdL W p1 n1 F) (hm1 : n1 ≤ maxLen) : Calls Tryz.prog 11 #[.slice p0 xs.length c0, .slice p1 n1 c1] W fun e w' => e = .returned (.bool true) ∧ Below W.heap.size W w' := by
  have hbeg := eI W
  obtain ⟨n, hn⟩ : ∃ n, xs.length = n := ⟨_, rfl⟩
  have hni : (n : Int) ≤ 9223372036854775807 := by unfold maxLen at hm; omega
  have hni1 : (n1 : Int) ≤ 9223372036854775807 := by unfold maxLen at hm1; omega
  have HXC : Hid (∀ i, i < n → ∃ g off, p0 = some ⟨g, off, none⟩ ∧ ∀ w, Below W.heap.size W w → g < w.heap.size ∧ w.cell? ⟨g, off + i, none⟩ = some (.int .i64 (xs.getD i 0))) := Lib.hid (fun i hi => by
    obtain ⟨g, off, e, h1, h2⟩ := hx i (by rw [hn]; exact hi)
    exact ⟨g, off, e, fun w hb => ⟨Nat.lt_of_lt_of_le h1 hb.size, (World.cell?_of_block (w := W) (hb.block _ h1)).trans h2⟩⟩)
  have HYC : Hid (∀ i, i < n1 → ∃ g off, p1 = some ⟨g, off, none⟩ ∧ ∀ w, Below W.heap.size W w → g < w.heap.size ∧ w.cell? ⟨g, off + i, none⟩ = some (.bool (F i))) := Lib.hid (fun i hi => by
    obtain ⟨g, off, e, h1, h2⟩ := hy i hi
    exact ⟨g, off, e, fun w hb => ⟨Nat.lt_of_lt_of_le h1 hb.size, (World.cell?_of_block (w := W) (hb.block _ h1)).trans h2⟩⟩)
  rw [hn]
  clear hx hm hn hy hm1
  go_enter Tryz.func11, Tryz.ntmps11
  go_upto_region 4 with (go_at_call 21; (with_reducible refine hbeg.mono ?_); rintro e w4 ⟨rfl, hb2⟩; have H4 := Lib.hid hb2; clear hbeg hb2)
  have hstar := cP w4
  go_upto_region 5 with (go_at_call 13; (with_reducible refine hstar.mono ?_); rintro e w5 ⟨d, b, ps, rfl, hP5⟩; have H5 := Lib.hid (And.intro hP5.Ac (aB H4.out (hP5.bel (Below.refl _ _) (fun q hq => hq)))); clear hstar hP5)
  go_wp2_with fail
  go_loopg [6, 8, 9, 10] 11 (fun gh dv nv kv iv w => ∃ (i d nx k : Nat) (l : List (Int × Int)), iv = .int .i64 (i : Int) ∧ i ≤ n ∧ i ≤ 10 ∧ 11 ≤ i + gh ∧ dv = (Value.pointer (some ⟨d, 0, none⟩)) ∧ nv = .int .i64 (nx : Int) ∧ kv = .int .i64 (k : Int) ∧ kt w d (lnL nx l) ∧ LnI nx k l ∧ nx ≤ 5 * i ∧ k ≤ 5 * i ∧ l.length ≤ nx ∧ Below W.heap.size W w)
  case atStart => exact ⟨0, d, 0, 0, [], rfl, Nat.zero_le _, Nat.zero_le _, by omega, rfl, rfl, rfl, H5.out.1, ⟨fun p hp => (by cases hp), List.Pairwise.nil⟩, Nat.zero_le _, Nat.zero_le _, Nat.zero_le _, H5.out.2⟩
  case round =>
    obtain ⟨i, d, nx, k, l, rfl, hin, hi10, hg, rfl, rfl, rfl, hA, hI, hnx, hk, hll, hB⟩ := hrel
    have HI := Lib.hid (And.intro hA (And.intro hI (And.intro hll hB)))
    clear hA hI hll hB
    by_cases hlt : i < n ∧ i < 10
    · obtain ⟨hlt, hl10⟩ := hlt
      have hii : (i : Int) < (n : Int) := by omega
      have hi3 : (i : Int) < 10 := by omega
      obtain ⟨g, off, rfl, hrd⟩ := HXC.out i hlt
      obtain ⟨xi, hxi⟩ : ∃ x, xs.getD i 0 = x := ⟨_, rfl⟩
      rw [hxi] at hrd
      obtain ⟨e1, e2, e3, e4⟩ := lnP_is xi (m := 5) (by decide)
      obtain ⟨r, hr⟩ : ∃ c, lnP xi 5 = c := ⟨_, rfl⟩
      rw [hr] at e1 e2
      have e1 : (xi.tmod 5 + 5).tmod 5 = (r : Int) := e1
      have e3 : -5 < xi.tmod 5 := e3
      have e4 : xi.tmod 5 < 5 := e4
      have w1 : IntKind.i64.wrap (xi.tmod 5 + 5) = xi.tmod 5 + 5 := by rw [IntKind.wrap_i64]; omega
      have c2 := hrd wr HI.out.2.2.2
      have c1 := c2.2
      have c2 := c2.1
      clear hrd hxi hr
      obtain ⟨nb, hnb⟩ : ∃ m, 1 + r = m := ⟨_, rfl⟩
      have hnbi : (1 : Int) + (r : Int) = (nb : Int) := by omega
      have hnb0 : 0 < nb := by omega
      have hnb5 : nb ≤ 5 := by omega
      obtain ⟨wo, hwo⟩ : ∃ z, z = wr := ⟨_, rfl⟩
      subst hwo
      go_upto_region 10 with fail
      go_wp2_with fail
      go_loopg [9, 12, 13] (nb + 1) (fun gh kv lv jv w => ∃ (j : Nat) (p : Option Addr) (c : Nat), jv = .int .i64 (j : Int) ∧ j ≤ nb ∧ nb + 1 ≤ j + gh ∧ kv = .int .i64 ((k + j : Nat) : Int) ∧ lv = .slice p j c ∧ ef w wo.heap.size (.slice p j c) (lnO k j) ∧ Below wo.heap.size wo w)
      case atStart => exact ⟨0, none, 0, rfl, Nat.zero_le _, by omega, rfl, rfl, ef.nil, Below.refl _ _⟩
      case round =>
        obtain ⟨j, p, c, rfl, hj, hgj, rfl, rfl, ho, hBj⟩ := hrel
        have HJ := Lib.hid (And.intro ho hBj)
        clear ho hBj
        obtain ⟨kj, hkj⟩ : ∃ x, k + j = x := ⟨_, rfl⟩
        rw [hkj]
        have HKJ := Lib.hid hkj
        have hkj50 : kj ≤ 60 := by omega
        clear hkj
        by_cases hlj : j < nb
        · have hjj : (j : Int) < (nb : Int) := by omega
          have hn1 := dN (kj : Int) wr
          go_wp2_with (first
            | (go_at_call 27; (with_reducible refine hn1.mono ?_); rintro e w6 ⟨rfl, hb6⟩; have hrun := ln_app HJ.out.1 (lnO_len k j) hb6 HJ.out.2.size (by omega) #[.int .i64 1, .int .i64 (kj : Int), .string e0, .int .i64 0, .int .i64 0, .string e0] (ph (kj : Int)) rfl rfl; obtain ⟨g', cap, wz, hrun, ho2, hbz⟩ := hrun; have HZ := Lib.hid (And.intro ho2 (HJ.out.2.trans hbz)); clear hn1 hb6 ho2 hbz)
            | (at_builtin; refine aK rfl (.tmp 50) (.tmp 56) 35 rfl rfl rfl hrun ?_))
          go_roundg (nb - j)
          case measure => omega
          case rel => exact ⟨j + 1, _, _, by go_num, by omega, by omega, by rw [show k + (j + 1) = kj + 1 by have := HKJ.out; omega]; go_num, rfl, by rw [lnO_succ, HKJ.out]; exact HZ.out.1, HZ.out.2⟩
        · obtain rfl : j = nb := by omega
          have hnj : ¬ (j : Int) < (j : Int) := by omega
          have hBo := aB HI.out.2.2.2 HJ.out.2
          have hok := lnO_ok k j
          have hlen := lnO_len k j
          have hsm := ln_sm HI.out.2.2.1 (m := 50) (by omega)
          have HC := Lib.hid (And.intro hBo (And.intro hok (And.intro hlen hsm)))
          have hA := HI.out.1.later HJ.out.2
          have HA := Lib.hid hA
          have hap := ln_load HI.out.2.1 hnb0 hnb5 (by have := HI.out.2.2.1; omega)
          have hrow := ln_apply nx k l hnb0 (by omega : j ≤ 40)
          have hnew := HI.out.2.1.add j
          have HN := Lib.hid (And.intro hap (And.intro hrow hnew))
          clear hBo hok hlen hsm hA hap hrow hnew c1 c2
          obtain ⟨w2, hw2⟩ : ∃ z, z = wr := ⟨_, rfl⟩
          subst hw2
          by_cases hwr : i < n1 ∧ F i = true
          · obtain ⟨hi1, hFi⟩ := hwr
            have hi1i : (i : Int) < (n1 : Int) := by omega
            obtain ⟨g1, o1, rfl, hrd1⟩ := HYC.out i hi1
            rw [hFi] at hrd1
            have z1 := (hrd1 w2 HC.out.1).2
            have z2 := (hrd1 w2 HC.out.1).1
            clear hrd1 hFi
            have hrun := ln_app HJ.out.1 (lnO_len k j) (Below.refl _ w2) HJ.out.2.size (by omega) #[.int .i64 0, .int .i64 0, .string e0, .int .i64 0, .int .i64 0, .string e0] bdV rfl rfl
            obtain ⟨g', cap, wz, hrun, ho2, hbz⟩ := hrun
            have HZ := Lib.hid (And.intro ho2 (aB HI.out.2.2.2 (HJ.out.2.trans hbz)))
            have HZ2 := Lib.hid (HJ.out.2.trans hbz)
            clear ho2 hbz
            go_upto_region 19 with (at_builtin; refine aK rfl (.tmp 71) (.tmp 76) 35 rfl rfl rfl hrun ?_)
            clear hrun z1 z2
            obtain ⟨⟨e1, e2, e3, e4, e5⟩, hle⟩ : ∃ x, dn (lnL nx l) (lnO k j ++ [bdO]) = x := ⟨_, rfl⟩
            have h0' : e1 ≠ 0 := by
              have h1 := ln_no (nx := nx) (k := k) (l := l) hnb5
              rw [hle] at h1
              exact h1
            have hne : (e1 == 0) = false := by simp [h0']
            have hld := (bN (HI.out.1.later HZ2.out) (ga.of HZ.out.1 (fun q _ hq => hq)) HC.out.2.2.2 (by rw [List.length_append, lnO_len]; show 50 + (j + 1) ≤ 590; omega) (fun o ho => by
              rcases List.mem_append.1 ho with h | h
              · exact HC.out.2.1 o h
              · obtain rfl := List.mem_singleton.1 h
                exact bdO_ok)).mono (fun e w' h => dF h hle h0')
            have HM := Lib.hid (HI.out.2.1.mono (Nat.le_add_right k j))
            clear hle h0'
            go_upto_region 20 with (go_at_call 24; (with_reducible refine hld.mono ?_); rintro e w3 ⟨rfl, hb3⟩; have H3 := Lib.hid hb3; clear hld hb3)
            have b4 := aD w3 (.cells #[.int .i64 e1, .int .i64 e2, .string e3, .int .i64 e4, .string e5] 39)
            have k4 := heap_alloc_new w3 (.cells #[.int .i64 e1, .int .i64 e2, .string e3, .int .i64 e4, .string e5] 39)
            obtain ⟨w4, hw4⟩ : ∃ y, w3.alloc (.cells #[.int .i64 e1, .int .i64 e2, .string e3, .int .i64 e4, .string e5] 39) = y := ⟨_, rfl⟩
            obtain ⟨G, hG⟩ : ∃ y, w3.heap.size = y := ⟨_, rfl⟩
            rw [hw4] at b4 k4
            rw [hG] at k4
            try rw [hw4]
            try rw [hG]
            have H4 := Lib.hid (HZ2.out.trans ((aB H3.out b4).mono HZ2.out.size))
            have y0 := aA k4 0
            have yl := aC k4
            clear b4 k4 hw4 hG
            go_wp2_with fail
            go_roundg (10 - i)
            case measure => omega
            case rel => exact ⟨i + 1, d, nx, k + j, l, by go_num, by omega, by omega, by omega, rfl, rfl, by rw [HKJ.out], HI.out.1.later H4.out, HM.out, by omega, by omega, HI.out.2.2.1, aB HI.out.2.2.2 H4.out⟩
          · by_cases hi1 : i < n1
            case' pos =>
              have hFi : F i = false := by
                cases h : F i
                · rfl
                · exact absurd ⟨hi1, h⟩ hwr
              have hi1i : (i : Int) < (n1 : Int) := by omega
              obtain ⟨g1, o1, rfl, hrd1⟩ := HYC.out i hi1
              rw [hFi] at hrd1
              have z1 := (hrd1 w2 HC.out.1).2
              have z2 := (hrd1 w2 HC.out.1).1
              clear hrd1 hFi
              go_upto_region 19 with fail
              clear z1 z2 hi1i
            case' neg =>
              have hi1i : ¬ (i : Int) < (n1 : Int) := by omega
              go_upto_region 19 with fail
              clear hi1i
            all_goals
              clear hi1 hwr
              have hld := (bN (HI.out.1.later HJ.out.2) (ga.of HJ.out.1 (fun q _ hq => hq)) HC.out.2.2.2 (by rw [lnO_len]; omega) HC.out.2.1).mono (fun e w' h => cF (R := lnL (nx + j) (l ++ lnN nx k j)) (I := lnI nx j) (n := j) h (by rw [HN.out.1]) (by rw [HN.out.2.1]) (by rw [HN.out.2.1]) (lnI_len nx j))
              go_upto_region 20 with (go_at_call 24; (with_reducible refine hld.mono ?_); rintro e w3 ⟨x, q1, d1, rfl, hX, hr1, hb3⟩; have H3 := Lib.hid (And.intro hX (And.intro hr1 hb3)); clear hld hX hr1 hb3)
              have hro : ac w3 w2.heap.size 3 1 (.slice q1 j d1) (lnI nx j).length ((lnI nx j).map iv) := H3.out.2.1
              rw [lnI_len] at hro
              obtain ⟨gq, rfl⟩ : ∃ g, q1 = some ⟨g, 0, none⟩ := by
                obtain ⟨g, cap, e, _⟩ := ac.slice hro hnb0
                cases e
                exact ⟨g, rfl⟩
              obtain ⟨jm, hjm⟩ : ∃ m, j - 1 = m := ⟨_, rfl⟩
              have hjmi : (j : Int) - 1 = (jm : Int) := by omega
              have hjml : (jm : Int) < (j : Int) := by omega
              have hj0i : (0 : Int) < (j : Int) := by omega
              have hjw : IntKind.i64.wrap ((j : Int) - 1) = (jm : Int) := by rw [IntKind.wrap_i64]; omega
              have hnxw : IntKind.i64.wrap ((nx : Int) + (j : Int)) = ((nx + j : Nat) : Int) := by rw [IntKind.wrap_i64]; omega
              have hr0 : w3.cell? ⟨gq, 0, none⟩ = some (.int .i64 (nx : Int)) := by
                refine hro.cell ?_
                unfold lnI
                rw [List.getElem?_map, List.getElem?_map, List.getElem?_range hnb0]
                rfl
              have hrm : w3.cell? ⟨gq, jm, none⟩ = some (.int .i64 ((nx + jm : Nat) : Int)) := by
                refine hro.cell ?_
                unfold lnI
                rw [List.getElem?_map, List.getElem?_map, List.getElem?_range (by omega : jm < j)]
                rfl
              have hql : gq < w3.heap.size := World.block_lt_of_cell? w3 ⟨gq, 0, none⟩ hr0
              have b4 := aD w3 (.cells zF 39)
              have k4 := heap_alloc_new w3 (.cells zF 39)
              obtain ⟨w4, hw4⟩ : ∃ y, w3.alloc (.cells zF 39) = y := ⟨_, rfl⟩
              obtain ⟨G, hG⟩ : ∃ y, w3.heap.size = y := ⟨_, rfl⟩
              rw [hw4] at b4 k4
              rw [hG] at k4
              try rw [hw4]
              try rw [hG]
              have u0 := (World.cell?_of_block (w := w3) (a := ⟨gq, 0, none⟩) (b4.block gq hql)).trans hr0
              have um := (World.cell?_of_block (w := w3) (a := ⟨gq, jm, none⟩) (b4.block gq hql)).trans hrm
              have ul := Nat.lt_of_lt_of_le hql b4.size
              have H4 := Lib.hid (And.intro b4 (And.intro k4 (And.intro hG (HJ.out.2.trans (H3.out.2.2.mono HJ.out.2.size)))))
              have y0 := aA k4 0
              have yl := aC k4
              obtain ⟨id, hid⟩ : ∃ x : Int, ((nx + jm : Nat) : Int) = x := ⟨_, rfl⟩
              rw [hid] at um
              have HID := Lib.hid hid
              clear b4 k4 hw4 hG hr0 hrm hql hid hro
              go_upto_region 26 with fail
              have b5 := aD w4 (.cells #[.int .i64 2, .string an, .int .i64 id, .string e0, .slice none 0 0] 29)
              have k5 := heap_alloc_new w4 (.cells #[.int .i64 2, .string an, .int .i64 id, .string e0, .slice none 0 0] 29)
              have hin2 : ∃ p ∈ l ++ lnN nx k j, p.1 = id := ⟨(((nx + jm : Nat) : Int), ((k + jm : Nat) : Int)), List.mem_append.2 (.inr (List.mem_map.2 ⟨jm, List.mem_range.2 (by omega), rfl⟩)), HID.out⟩
              have hlen2 : (l ++ lnN nx k j).length ≤ nx + j := by
                have h1 := HI.out.2.2.1
                unfold lnN
                rw [List.length_append, List.length_map, List.length_range]
                omega
              obtain ⟨g1, g2⟩ := ln_gone HN.out.2.2 (by omega) hin2
              have hops : ga (fun q => q < (w4.alloc (.cells #[.int .i64 2, .string an, .int .i64 id, .string e0, .slice none 0 0] 29)).heap.size) (w4.alloc (.cells #[.int .i64 2, .string an, .int .i64 id, .string e0, .slice none 0 0] 29)) (.slice (some ⟨w4.heap.size, 0, none⟩) 1 1) [dlO id] := ga.of (base := 0) (Dg (v1 := .slice none 0 0) k5 rfl (Nat.zero_le _) ac.nil) (fun q _ hq => hq)
              have hld := (bN (H3.out.1.later (aB H4.out.1 b5)) hops (ln_sm hlen2 (m := 60) (by omega)) (by show 60 + 1 ≤ 590; omega) (fun o ho => by
                obtain rfl := List.mem_singleton.1 ho
                exact dlO_ok (by have := HID.out; omega))).mono (fun e w' h => vN h (by rw [g1]) g2 rfl rfl)
              have H5 := Lib.hid (And.intro b5 (And.intro (aE b5 H4.out.2.1) hlen2))
              have z5 := aA k5 0
              clear b5 k5 hin2 hlen2 g1 g2 hops y0 yl
              go_upto_region 27 with (go_at_call 24; (with_reducible refine hld.mono ?_); rintro e w6 ⟨y, p2, c2, rfl, hY, _, hb6⟩; have H6 := Lib.hid (And.intro hY hb6); have kf := aE hb6 H5.out.2.1; have z0 := aA kf 0; have z1 := aA kf 1; have z2 := aA kf 2; have z3' := aA kf 3; have z4 := aA kf 4; have zf := fun i => frozen_of_row w6 G i _ _ kf; have zl := aC kf; clear hld hY hb6 kf)
              clear z0 z1 z2 z3' z4 zf zl z5 u0 um ul
              have kf6 := aE H6.out.2 H5.out.2.1
              have k7 := gS kf6 (.int .i64 0) (.int .i64 0) (.string e0) (.int .i64 0) (.string e0)
              have g7 := aW w6 G (.int .i64 0) (.int .i64 0) (.string e0) (.int .i64 0) (.string e0)
              have hb6 := H4.out.2.2.2.trans ((aB (aB H4.out.1 H5.out.1) H6.out.2).mono H4.out.2.2.2.size)
              have b7 : Below wo.heap.size wo _ := aT hb6 (Nat.le_refl _) g7 (by have := H4.out.2.2.1; have := H4.out.2.2.2.size; omega)
              have t7 := yU kf6 g7
              have hyA := H6.out.1 _ (t7.mono (T1 := fun q => q < (w4.alloc (.cells #[.int .i64 2, .string an, .int .i64 id, .string e0, .slice none 0 0] 29)).heap.size) (fun q _ hq => by have hq : q = G := hq; have h1 := aC H5.out.2.1; show q < _; omega))
              obtain ⟨w7, hw7⟩ : ∃ y, ((((w6.setCell ⟨G, 0, none⟩ (.int .i64 0)).setCell ⟨G, 1, none⟩ (.int .i64 0)).setCell ⟨G, 2, none⟩ (.string e0)).setCell ⟨G, 3, none⟩ (.int .i64 0)).setCell ⟨G, 4, none⟩ (.string e0) = y := ⟨_, rfl⟩
              rw [hw7] at k7 b7 hyA
              rw [hw7]
              have H7 := Lib.hid (And.intro b7 hyA)
              have y0 := aA k7 0
              have yl := aC k7
              clear kf6 k7 g7 hb6 b7 t7 hyA hw7
              go_wp2_with fail
              go_roundg (10 - i)
              case measure => omega
              case rel => exact ⟨i + 1, y, nx + j, k + j, _, by go_num, by omega, by omega, by omega, rfl, by first | rfl | go_num, by rw [HKJ.out], H7.out.2, HN.out.2.2.filter _, by omega, by omega, Nat.le_trans (List.length_filter_le _ _) H5.out.2.2, aB HI.out.2.2.2 H7.out.1⟩
    · obtain ⟨tb, ht, _, hnx2⟩ := HI.out.1.tab (j := 0) (by decide) (nm := an) rfl (x := (nx, lnR l)) rfl
      have ht := ht wr (Below.refl _ _)
      have hnx2 := hnx2 wr (Below.refl _ _)
      have hstop : ¬ (i : Int) < (n : Int) ∨ ((i : Int) < (n : Int) ∧ ¬ (i : Int) < 10) := by omega
      clear hg
      rcases hstop with hs | ⟨hs, hs2⟩
      all_goals
        clear hlt
        go_wp2_with (first
          | (go_at_call 29; (with_reducible refine ht.mono ?_); rintro e w9 ⟨rfl, hw⟩; subst w9; clear ht)
          | (go_at_call 30; (with_reducible refine hnx2.mono ?_); rintro e w9 ⟨rfl, hw⟩; subst w9; clear hnx2))
        go_ret
        exact ⟨by simp, HI.out.2.2.2⟩
end Go.Proofs.YthlccadnojnkaaaGreat
namespace Go.Proofs.YthlccadnojnkaaaGreat
open Go.Proofs.Tryz
open Go Go.RowKit Go.ChangeShapes Go.WideShapes Go.ChangeAt Go.Proofs Co Co.S
theorem lnnums {H : Type} {enc : TypeId × Value → H} {W : World} {v : Value} {d : DataW H} {p : List MemPlace}
    (h : DataW.Trod enc Tryz.prog W 0 (fun _ => true) true 45 v d p) (hv : ∃ a l c, v = .slice a l c) : ∃ q xs len cap, v = .slice q len cap ∧ xs.length = len ∧ (len ≤ cap ∧ cap ≤ maxLen) ∧ RdM W q xs := by
  obtain ⟨a0, l0, c0, rfl⟩ := hv
  obtain ⟨fuel, hf⟩ := h
  rcases open_ints Tryz.underlying45 Tryz.underlying3 (by kernel_rfl) hf with ⟨hcs, _⟩ | ⟨a, len, cap, zs, hcs, _, hl, hm, hz, _, hc, _⟩
  · simp [Value.cells] at hcs
    obtain ⟨rfl, rfl, rfl⟩ := hcs
    exact ⟨none, [], 0, 0, rfl, rfl, ⟨Nat.le_refl _, Nat.zero_le _⟩, fun r hr => by simp at hr⟩
  · simp [Value.cells] at hcs
    obtain ⟨rfl, rfl, rfl⟩ := hcs
    simp only [if_true] at hz
    refine ⟨some a, zs.take l0, l0, c0, rfl, by rw [List.length_take]; omega, ⟨hl, hm⟩, fun j hj => ?_⟩
    have hj' : j < l0 := by rw [List.length_take] at hj; omega
    have hs := World.cell?_spot (hc 0 (by omega))
    have hs : a.spot = none := by simpa [Addr.add] using hs
    obtain ⟨b, off, spot⟩ := a
    obtain rfl : spot = none := hs
    have hcj := hc j (by omega)
    rw [Addr.add_lit] at hcj
    refine ⟨b, off, rfl, World.block_lt_of_cell? W ⟨b, off + j, none⟩ hcj, ?_⟩
    rw [hcj]
    congr 2
    rw [List.getD_eq_getElem?_getD, List.getD_eq_getElem?_getD, List.getElem?_take_of_lt hj']
set_option maxRecDepth 100000 in
theorem lnbls {H : Type} {enc : TypeId × Value → H} {W : World} {v : Value} {d : DataW H} {p : List MemPlace}
    (hv : ∃ a l c, v = .slice a l c) (h : DataW.Trod enc Tryz.prog W 0 (fun _ => true) true 61 v d p) :
    ∃ (A : Option Addr) (n c : Nat) (F : Nat → Bool), v = .slice A n c ∧ RdL W A n F ∧ n ≤ maxLen := by
  obtain ⟨a0, len0, cap0, rfl⟩ := hv
  obtain ⟨fuel, hf⟩ := h
  rcases Go.Deep.open_bools Tryz.underlying61 Tryz.underlying4 (by kernel_rfl) hf with ⟨hcs, _⟩ | ⟨a, len, cap, B, hcs, _, hl, hm, _, hc⟩
  · simp [Value.cells] at hcs
    obtain ⟨rfl, rfl, rfl⟩ := hcs
    exact ⟨none, 0, 0, fun _ => false, rfl, fun i h => absurd h (Nat.not_lt_zero i), Nat.zero_le _⟩
  · simp [Value.cells] at hcs
    obtain ⟨rfl, rfl, rfl⟩ := hcs
    refine ⟨some a, len0, cap0, B, rfl, fun i hi => ?_, by omega⟩
    obtain ⟨b, off, spot⟩ := a
    have z := hc i (by omega)
    have hspot : spot = none := by simpa [Addr.add] using World.cell?_spot (hc 0 (by omega))
    subst hspot
    rw [tR] at z
    exact ⟨b, off, rfl, World.block_lt_of_cell? W ⟨b, off + i, none⟩ z, z⟩
end Go.Proofs.YthlccadnojnkaaaGreat
namespace Go.Proofs.YthlccadnojnkaaaGreat
open Go.Proofs.Tryz
open Go Go.ChangeShapes Go.WideShapes Go.ChangeAt Go.RowKit
open Go.ChangeMaps (open_string shut_string)

set_option maxRecDepth 100000 in
theorem loadNumbers_lifted (os : Os) (started : os.Started) (H : Type) (enc : TypeId × Value → H) :
    ReturnsInHanded {} Tryz.checked os 11 .any (Rows.loadNumbersSpec.pre6 enc Tryz.prog Tryz.f11 Rows.loadNumbersRow.domain false) (Rows.loadNumbersSpec.post enc Tryz.prog Tryz.f11 false true false false) := by
  refine returnsInHanded_of_change (C := Tryz.checked) own started (by kernel_rfl) Tryz.func11
    (ChangeSpec.witness6 (enc := enc) (C := Tryz.checked) false ⟨#[], #[.slice none 0 0, .slice none 0 0], []⟩ 8 (by kernel_rfl) (by kernel_rfl) (by kernel_rfl) (by kernel_rfl)) ?_
  intro W base args ds gs before hval0 hW _ _
  have hval : ∀ (j : Nat) t v, Tryz.f11.params[j]? = some t → args[j]? = some v → Value.okWide Tryz.prog W .any base t v := hval0
  have hW' := hW
  obtain ⟨p, q, hA0, hV, rfl, hfz, hnd⟩ := hW
  have hA : DataW.TrodAll enc Tryz.prog W 0 (fun _ => true) true Tryz.f11.params.toList args.toList ds p := hA0
  rw [Tryz.params11] at hA hval
  obtain ⟨v0, vs0, d0, ds0, p0, q0, hargs, rfl, rfl, h0, r0⟩ := trodAll_cons hA
  obtain ⟨v1, vs1, d1, ds1, p1, q1, rfl, rfl, rfl, h1, r1⟩ := trodAll_cons r0
  obtain ⟨rfl, rfl, rfl⟩ := trodAll_nil r1
  obtain rfl : args = #[v0, v1] := by cases args; simp_all
  obtain ⟨rfl, rfl⟩ := trodVars_none hV
  have k0 := h0
  have lt0 : ∀ x ∈ p0, x.block < W.heap.size := by obtain ⟨m, hm⟩ := k0; exact DataW.trod_lt m _ _ _ hm
  obtain ⟨q0x, xs0, ln0, cp0, rfl, hl0, hc0, s0⟩ := lnnums h0 (okWide_slice Tryz.underlying45 (hval 0 45 v0 rfl rfl))
  subst hl0
  have k1 := h1
  have lt1 : ∀ x ∈ p1, x.block < W.heap.size := by obtain ⟨m, hm⟩ := k1; exact DataW.trod_lt m _ _ _ hm
  obtain ⟨q1x, n1, c1, F1, rfl, s1, hl1⟩ := lnbls (okWide_slice Tryz.underlying61 (hval 1 61 v1 rfl rfl)) h1
  clear hA0 hval0
  refine (lnumbers_law W s0 (Nat.le_trans hc0.1 hc0.2) s1 hl1).mono fun e W' ⟨he, bel⟩ => ?_
  subst he
  exact ⟨_, rfl, _, _, _, [], _, [], hW', trodAll_mk1 (shut_bool Tryz.underlying4 _), (trodAll_cons_mk (Below.trod bP (by kernel_rfl) (of_decide_eq_true (by kernel_rfl)) k0 bel lt0) (trodAll_cons_mk (Below.trod bP (by kernel_rfl) (of_decide_eq_true (by kernel_rfl)) k1 bel lt1) trodAll_mk0)), rfl, bel.frame _, fun h => by cases h⟩

theorem loadNumbers_holds : Rows.LoadNumbersSaid :=
  OpenClaim.holds_of_wide 11 Tryz.f11 rfl rfl rfl rfl rfl rfl rfl ⟨rfl, rfl, rfl, rfl, rfl⟩ rfl rfl rfl rfl rfl (by kernel_rfl) Tryz.func11 (by kernel_rfl)
    (of_decide_eq_true (by kernel_rfl)) (by unfold Func.isWrapper; first | (rw [if_pos (by decide +kernel)]; kernel_rfl) | (rw [if_neg (by decide +kernel)]; exact ⟨rfl, rfl⟩))
    (fun os started H enc _ => loadNumbers_lifted os started H enc)
end Go.Proofs.YthlccadnojnkaaaGreat
