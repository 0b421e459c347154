/- Tables in memory. -/
import Derived.Test.YtmfkkpogmmoflaaGreatA
import Derived.Test.YtmfkkpogmmoflaaGreatEq
namespace Go.Proofs.YtmfkkpogmmoflaaGreat
open Go Go.RowKit Go.Proofs

/-- A slice that can be read: n elements of k cells; none of its cells lies in a Schema or in a row of tables. -/
def Rd (W : World) (v : Value) (n k : Nat) (xs : List Value) : Prop :=
  xs.length = n * k ∧ ∃ p cap, v = .slice p n cap ∧ n ≤ cap ∧ cap ≤ maxLen ∧ (∀ a, p = some a → a.spot = none) ∧ (0 < n → ∃ b off cur e m, p = some ⟨b, off, none⟩ ∧ W.heap[b]? = some (.cells cur e m) ∧ e ≠ 73 ∧ e ≠ 46 ∧ ∀ j u, xs[j]? = some u → cur[off + j]? = some u)
/-- What is turned: no block but those of a Schema and of rows of tables. -/
def Kp (W W' : World) : Prop := ∀ (b : Nat) (cur : Array Value) (e : TypeId) (m : Nat × Nat), W.heap[b]? = some (Obj.cells cur e m) → e ≠ 73 → e ≠ 46 → W'.heap[b]? = some (Obj.cells cur e m)
theorem Kp.refl (W : World) : Kp W W := fun _ _ _ _ h _ _ => h
theorem Kp.trans {A B C : World} (h : Kp A B) (k : Kp B C) : Kp A C := fun b cur e m x y z => k b cur e m (h b cur e m x y z) y z
theorem Kp.below {W W' : World} (h : Below W.heap.size W W') : Kp W W' := fun b _ _ _ x _ _ => (h.block b (lt_of_heap x)).trans x
section
variable {W W' : World} {v : Value} {n k : Nat} {xs : List Value}
theorem Rd.kp (h : Rd W v n k xs) (hk : Kp W W') : Rd W' v n k xs := by
  obtain ⟨h0, p, cap, h1, h2, h3, hsp, h4⟩ := h
  refine ⟨h0, p, cap, h1, h2, h3, hsp, fun hn => ?_⟩
  obtain ⟨b, off, cur, e, m, h5, h6, h7, h8, h9⟩ := h4 hn
  exact ⟨b, off, cur, e, m, h5, hk b cur e m h6 h7 h8, h7, h8, h9⟩
theorem Rd.later (h : Rd W v n k xs) (hb : Below W.heap.size W W') : Rd W' v n k xs := h.kp (.below hb)
theorem Rd.slice (h : Rd W v n k xs) : ∃ p cap, v = .slice p n cap ∧ n ≤ cap ∧ cap ≤ maxLen := by
  obtain ⟨h0, p, cap, h1, h2, h3, hsp, h4⟩ := h
  exact ⟨p, cap, h1, h2, h3⟩
theorem Rd.spot {p : Option Addr} {cap : Nat} (h : Rd W (.slice p n cap) n k xs) : p = none ∨ ∃ b off, p = some ⟨b, off, none⟩ := by
  obtain ⟨h0, p', cap', h1, h2, h3, hsp, h4⟩ := h
  obtain ⟨rfl, -, rfl⟩ := Value.slice.inj h1
  cases p with
  | none => exact .inl rfl
  | some a =>
    have := hsp a rfl
    obtain ⟨b, off, s⟩ := a
    obtain rfl : s = none := this
    exact .inr ⟨b, off, rfl⟩
theorem Rd.at {p : Option Addr} {cap : Nat} (h : Rd W (.slice p n cap) n k xs) (hn : 0 < n) : ∃ b off, p = some ⟨b, off, none⟩ ∧ b < W.heap.size ∧ ∀ j u, xs[j]? = some u → W.cell? ⟨b, off + j, none⟩ = some u := by
  obtain ⟨h0, p', cap', h1, h2, h3, hsp, h4⟩ := h
  obtain ⟨rfl, -, rfl⟩ := Value.slice.inj h1
  obtain ⟨b, off, cur, e, m, h5, h6, h7, h8, h9⟩ := h4 hn
  exact ⟨b, off, h5, lt_of_heap h6, fun j u hj => by simp only [World.cell?, h6]; exact h9 j u hj⟩
/-- The beginning of a slice. -/
theorem Rd.take {p : Option Addr} {cap : Nat} (h : Rd W (.slice p n cap) n k xs) {i : Nat} (hi : i ≤ n) : Rd W (.slice p i cap) i k (xs.take (i * k)) := by
  obtain ⟨h0, p', cap', h1, h2, h3, hsp, h4⟩ := h
  obtain ⟨rfl, -, rfl⟩ := Value.slice.inj h1
  have hle : i * k ≤ n * k := Nat.mul_le_mul_right _ hi
  refine ⟨by rw [List.length_take, h0]; omega, p, cap, rfl, by omega, h3, hsp, fun hn => ?_⟩
  obtain ⟨b, off, cur, e, m, h5, h6, h7, h8, h9⟩ := h4 (by omega)
  refine ⟨b, off, cur, e, m, h5, h6, h7, h8, fun j u hj => h9 j u ?_⟩
  rw [List.getElem?_take] at hj
  split at hj
  · exact hj
  · cases hj
/-- A row of the call's own can be read. -/
theorem HRow.rd {base : Nat} {e : TypeId} (h : HRow W base e k v n xs) (h1 : e ≠ 73) (h2 : e ≠ 46) : Rd W v n k xs := by
  refine ⟨h.1, ?_⟩
  rcases h.2 with ⟨rfl, rfl⟩ | ⟨g, cap, cur, rfl, hb, hg, hn, hc, hs, ht⟩
  · exact ⟨none, 0, rfl, Nat.le_refl _, Nat.zero_le _, fun a h => (by cases h), fun h => absurd h (Nat.lt_irrefl _)⟩
  · refine ⟨some ⟨g, 0, none⟩, cap, rfl, hn, hc, fun a h => (by cases h; rfl), fun _ => ⟨g, 0, cur, e, _, rfl, hg, h1, h2, fun j u hj => ?_⟩⟩
    rw [← ht, List.getElem?_take] at hj
    split at hj
    · rw [Nat.zero_add, ← Array.getElem?_toList]; exact hj
    · cases hj
end

/-! ### Cells -/
def cellsC (l : List C) : List Value := l.flatMap fun c => [.string c.nm, .int .i64 c.kd, .bool c.mu, .string c.tgt]
def cellsS (l : List ByteArray) : List Value := l.map Value.string
theorem cellsC_append (xs ys : List C) : cellsC (xs ++ ys) = cellsC xs ++ cellsC ys := by simp [cellsC]
theorem cellsC_cons (c : C) (r : List C) : cellsC (c :: r) = .string c.nm :: .int .i64 c.kd :: .bool c.mu :: .string c.tgt :: cellsC r := by simp [cellsC]
theorem cellsC_len (xs : List C) : (cellsC xs).length = xs.length * 4 := by
  induction xs with
  | nil => rfl
  | cons x r ih => rw [cellsC_cons]; simp only [List.length_cons, ih]; omega
theorem cellsC_at (xs : List C) (i : Nat) (h : i < xs.length) : (cellsC xs)[i * 4]? = some (.string xs[i].nm) ∧ (cellsC xs)[i * 4 + 1]? = some (.int .i64 xs[i].kd) ∧ (cellsC xs)[i * 4 + 2]? = some (.bool xs[i].mu) ∧ (cellsC xs)[i * 4 + 3]? = some (.string xs[i].tgt) := by
  induction xs generalizing i with
  | nil => simp at h
  | cons y r ih =>
    cases i with
    | zero => simp [cellsC_cons]
    | succ i =>
      have := ih i (by simpa using h)
      rw [cellsC_cons, show (i + 1) * 4 = i * 4 + 1 + 1 + 1 + 1 by omega, show i * 4 + 1 + 1 + 1 + 1 + 1 = i * 4 + 1 + 1 + 1 + 1 + 1 by omega, show i * 4 + 1 + 1 + 1 + 1 + 2 = i * 4 + 2 + 1 + 1 + 1 + 1 by omega, show i * 4 + 1 + 1 + 1 + 1 + 3 = i * 4 + 3 + 1 + 1 + 1 + 1 by omega]
      simp only [List.getElem?_cons_succ, List.getElem_cons_succ]
      exact this
theorem cellsC_take (xs : List C) (i : Nat) : (cellsC xs).take (i * 4) = cellsC (xs.take i) := by
  induction xs generalizing i with
  | nil => simp [cellsC]
  | cons y r ih =>
    cases i with
    | zero => simp [cellsC]
    | succ i => rw [cellsC_cons, show (i + 1) * 4 = i * 4 + 1 + 1 + 1 + 1 by omega]; simp only [List.take_succ_cons, cellsC_cons, ih]
/-- Columns; words. -/
def RdC (W : World) (v : Value) (l : List C) : Prop := Rd W v l.length 4 (cellsC l)
def RdS (W : World) (v : Value) (l : List ByteArray) : Prop := Rd W v l.length 1 (cellsS l)
theorem RdC.col {W : World} {p : Option Addr} {n cap : Nat} {l : List C} (h : RdC W (.slice p n cap) l) {i : Nat} (hi : i < l.length) : ∃ b off, p = some ⟨b, off, none⟩ ∧ b < W.heap.size ∧
    W.cell? ⟨b, off + i * 4, none⟩ = some (.string l[i].nm) ∧ W.cell? ⟨b, off + i * 4 + 1, none⟩ = some (.int .i64 l[i].kd) ∧ W.cell? ⟨b, off + i * 4 + 2, none⟩ = some (.bool l[i].mu) ∧ W.cell? ⟨b, off + i * 4 + 3, none⟩ = some (.string l[i].tgt) := by
  obtain ⟨_, _, e, _, _⟩ := Rd.slice h
  obtain ⟨rfl, rfl, rfl⟩ := Value.slice.inj e
  obtain ⟨b, off, h1, h2, h3⟩ := Rd.at h (by omega)
  obtain ⟨c0, c1, c2, c3⟩ := cellsC_at l i hi
  exact ⟨b, off, h1, h2, h3 _ _ c0, by rw [Nat.add_assoc]; exact h3 _ _ c1, by rw [Nat.add_assoc]; exact h3 _ _ c2, by rw [Nat.add_assoc]; exact h3 _ _ c3⟩
theorem RdS.word {W : World} {p : Option Addr} {n cap : Nat} {l : List ByteArray} (h : RdS W (.slice p n cap) l) {i : Nat} (hi : i < l.length) : ∃ b off, p = some ⟨b, off, none⟩ ∧ b < W.heap.size ∧
    W.cell? ⟨b, off + i, none⟩ = some (.string l[i]) := by
  obtain ⟨_, _, e, _, _⟩ := Rd.slice h
  obtain ⟨rfl, rfl, rfl⟩ := Value.slice.inj e
  obtain ⟨b, off, h1, h2, h3⟩ := Rd.at h (by omega)
  exact ⟨b, off, h1, h2, h3 _ _ (by unfold cellsS; rw [List.getElem?_map, List.getElem?_eq_getElem hi]; rfl)⟩
/-- Four cells written into a block of four. -/
theorem set4 {x : World} {b : Nat} {a0 a1 a2 a3 : Value} {t : TypeId} (h : x.heap[b]? = some (.cells #[a0, a1, a2, a3] t)) (a c d e : Value) :
    ((((x.setCell ⟨b, 0, none⟩ a).setCell ⟨b, 1, none⟩ c).setCell ⟨b, 2, none⟩ d).setCell ⟨b, 3, none⟩ e).heap[b]? = some (.cells #[a, c, d, e] t) := by
  rw [heap_setCell_same _ b 3 #[a, c, d, a3] t e (heap_setCell_same _ b 2 #[a, c, a2, a3] t d (heap_setCell_same _ b 1 #[a, a1, a2, a3] t c (heap_setCell_same _ b 0 #[a0, a1, a2, a3] t a h)))]
  rfl
theorem below_set4 {n b : Nat} {A x : World} (h : Below n A x) (hb : n ≤ b) (a c d e : Value) : Below n A ((((x.setCell ⟨b, 0, none⟩ a).setCell ⟨b, 1, none⟩ c).setCell ⟨b, 2, none⟩ d).setCell ⟨b, 3, none⟩ e) :=
  (((h.setCell (p := ⟨b, 0, none⟩) hb a).setCell (p := ⟨b, 1, none⟩) hb c).setCell (p := ⟨b, 2, none⟩) hb d).setCell (p := ⟨b, 3, none⟩) hb e
theorem alloc_old {x : World} {b : Nat} {o u : Obj} (h : x.heap[b]? = some o) : (x.alloc u).heap[b]? = some o := (Below.heap_alloc x u b (lt_of_heap h)).trans h
theorem RdC.slice {W : World} {v : Value} {l : List C} (h : RdC W v l) : ∃ p cap, v = .slice p l.length cap ∧ l.length ≤ cap ∧ cap ≤ maxLen := Rd.slice h
theorem RdS.slice {W : World} {v : Value} {l : List ByteArray} (h : RdS W v l) : ∃ p cap, v = .slice p l.length cap ∧ l.length ≤ cap ∧ cap ≤ maxLen := Rd.slice h
theorem RdC.take {W : World} {p : Option Addr} {n cap : Nat} {l : List C} (h : RdC W (.slice p n cap) l) {i : Nat} (hi : i ≤ n) : RdC W (.slice p i cap) (l.take i) := by
  obtain ⟨_, _, e, _, _⟩ := Rd.slice h
  obtain ⟨-, rfl, -⟩ := Value.slice.inj e
  have := Rd.take h hi
  unfold RdC
  rw [← cellsC_take, List.length_take, Nat.min_eq_left hi]
  exact this
theorem RdS.take {W : World} {p : Option Addr} {n cap : Nat} {l : List ByteArray} (h : RdS W (.slice p n cap) l) {i : Nat} (hi : i ≤ n) : RdS W (.slice p i cap) (l.take i) := by
  obtain ⟨_, _, e, _, _⟩ := Rd.slice h
  obtain ⟨-, rfl, -⟩ := Value.slice.inj e
  have := Rd.take h hi
  unfold RdS
  rw [List.length_take, Nat.min_eq_left hi]
  unfold cellsS at this ⊢
  rw [Nat.mul_one, ← List.map_take] at this
  exact this
def colV (c : C) : Value := .agg #[.string c.nm, .int .i64 c.kd, .bool c.mu, .string c.tgt]
def zeroC : C := ⟨e0, 0, false, e0⟩
def orC (o : Option C) : C := o.getD zeroC

set_option maxRecDepth 100000 in
set_option maxHeartbeats 1000000 in
theorem column_any {l : List C} {v : Value} {x : ByteArray} {W : World} (h : RdC W v l) : Calls Tryz.prog 87 #[v, .string x] W fun e w' => e = .returned (.tuple #[colV (orC (colOf l x)), .bool (hasC l x)]) ∧ Below W.heap.size W w' := by
  obtain ⟨p, cap, rfl, hc, hm⟩ := h.slice
  obtain ⟨n, hn⟩ : ∃ n, l.length = n := ⟨_, rfl⟩
  unfold maxLen at hm
  rw [hn] at hc ⊢
  rw [hn] at h
  obtain ⟨S, hS⟩ : ∃ S, W.heap.size = S := ⟨_, rfl⟩
  have HR := Lib.hid h
  have HN := Lib.hid (And.intro hn hS)
  clear h hn
  go_enter Tryz.func87, Tryz.ntmps87
  go_wp2_with fail
  clear hS
  go_loopg [10] (n + 1) (fun gh jv w => ∃ (j : Nat), jv = .int .i64 (j : Int) ∧ j ≤ n ∧ n + 1 ≤ j + gh ∧ (∀ i (h : i < l.length), i < j → isC x l[i] = false) ∧ Below (S + 1) (W.alloc (.cells #[.string e0, .int .i64 0, .bool false, .string e0] 54)) w)
  case atStart => exact ⟨0, rfl, Nat.zero_le _, by omega, fun i _ hi => by omega, Below.refl _ _⟩
  case round =>
    obtain ⟨j, rfl, hj, hg, hno, hB⟩ := hrel
    have h0S : (W.alloc (.cells #[.string e0, .int .i64 0, .bool false, .string e0] 54)).heap[S]? = some (.cells #[.string e0, .int .i64 0, .bool false, .string e0] 54) := by rw [← HN.out.2]; exact heap_alloc_new W _
    have hres := (hB.block S (Nat.lt_succ_self S)).trans h0S
    have hBW : Below W.heap.size W wr := (below_alloc W _).trans (hB.mono (by rw [HN.out.2]; omega))
    have hsz : S + 1 ≤ wr.heap.size := by have := hB.size; rw [World.size_alloc, HN.out.2] at this; exact this
    have HI := Lib.hid (And.intro hno (And.intro hB (And.intro hBW hsz)))
    clear hno hB
    by_cases hlt : j < n
    · have hjl : j < l.length := by rw [HN.out.1]; exact hlt
      obtain ⟨b, off, rfl, hb, c0, c1, c2, c3⟩ := RdC.col (HR.out.later hBW) hjl
      clear hBW
      obtain ⟨c, hcj⟩ : ∃ c, l[j] = c := ⟨_, rfl⟩
      rw [hcj] at c0 c1 c2 c3
      have HC := Lib.hid hcj
      clear hcj
      cases hx : isC x c
      · have HX := Lib.hid hx
        have hx2 : (c.nm.toList == x.toList) = false := by rw [eqS_toList]; exact hx
        clear hx
        go_wp2_with fail
        go_roundg (n - j)
        case measure => omega
        case rel =>
          refine ⟨j + 1, by go_num, by omega, by omega, fun i hi hij => ?_, HI.out.2.1.alloc HI.out.2.2.2 _⟩
          by_cases e : i = j
          · subst e; rw [HC.out]; exact HX.out
          · exact HI.out.1 i hi (by omega)
      · have HX := Lib.hid hx
        have hx2 : (c.nm.toList == x.toList) = true := by rw [eqS_toList]; exact hx
        have z0 := nd_cell hres 0
        have z1 := nd_cell hres 1
        have z2 := nd_cell hres 2
        have z3 := nd_cell hres 3
        have zf : ∀ i, wr.frozen? ⟨S, i, none⟩ = false := fun i => frozen_of_row wr S i _ _ hres
        have hlS : S < wr.heap.size := lt_of_heap hres
        have HZ := Lib.hid hres
        clear hx hres
        go_wp2_with fail
        have hS4 := alloc_old (u := .cells #[Value.string c.nm, Value.int .i64 c.kd, Value.bool c.mu, Value.string c.tgt] 54) (set4 HZ.out (.string c.nm) (.int .i64 c.kd) (.bool c.mu) (.string c.tgt))
        have hBx := below_set4 HI.out.2.2.1 (show W.heap.size ≤ S by rw [HN.out.2]; exact Nat.le_refl _) (.string c.nm) (.int .i64 c.kd) (.bool c.mu) (.string c.tgt)
        have hBy := hBx.alloc hBx.size (.cells #[Value.string c.nm, Value.int .i64 c.kd, Value.bool c.mu, Value.string c.tgt] 54)
        generalize ((((wr.setCell _ _).setCell _ _).setCell _ _).setCell _ _).alloc _ = wz at hS4 hBy ⊢
        have y0 := nd_cell hS4 0
        have y1 := nd_cell hS4 1
        have y2 := nd_cell hS4 2
        have y3 := nd_cell hS4 3
        obtain ⟨f1, f2, _⟩ := first_at (p := isC x) l j (by rw [HN.out.1]; exact hlt) (by rw [HC.out]; exact HX.out) (fun i hi => HI.out.1 i _ hi)
        refine bodyPost_ret (v := .tuple #[colV c, .bool true]) (by simp [results, Tryz.results87, go_sem, y0, y1, y2, y3, colV]) rfl ?_
        refine ⟨?_, hBy⟩
        unfold colOf hasC orC
        rw [f1, f2, HC.out]; rfl
    · have z0 := nd_cell hres 0
      have z1 := nd_cell hres 1
      have z2 := nd_cell hres 2
      have z3 := nd_cell hres 3
      have zf : ∀ i, wr.frozen? ⟨S, i, none⟩ = false := fun i => frozen_of_row wr S i _ _ hres
      have hlS : S < wr.heap.size := lt_of_heap hres
      have HZ := Lib.hid hres
      clear hres
      go_wp2_with fail
      have hS4 := set4 HZ.out (.string e0) (.int .i64 0) (.bool false) (.string e0)
      have hBx := below_set4 HI.out.2.2.1 (show W.heap.size ≤ S by rw [HN.out.2]; exact Nat.le_refl _) (.string e0) (.int .i64 0) (.bool false) (.string e0)
      generalize (((wr.setCell _ _).setCell _ _).setCell _ _).setCell _ _ = wz at hS4 hBx ⊢
      have y0 := nd_cell hS4 0
      have y1 := nd_cell hS4 1
      have y2 := nd_cell hS4 2
      have y3 := nd_cell hS4 3
      obtain ⟨f1, f2, _⟩ := none_at (p := isC x) l (fun i hi => HI.out.1 i hi (by have := HN.out.1; omega))
      refine bodyPost_ret (v := .tuple #[colV zeroC, .bool false]) (by simp [results, Tryz.results87, go_sem, y0, y1, y2, y3, colV, zeroC]) rfl ?_
      refine ⟨?_, hBx⟩
      unfold colOf hasC orC
      rw [f1, f2]; rfl
end Go.Proofs.YtmfkkpogmmoflaaGreat
