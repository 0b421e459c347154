/- The reference's tables in memory: one table as a list of rows. The reference's Set. -/
import Derived.Test.YtffpmmphpdkkbaaGreatMTT
import Derived.Test.YtffpmmphpdkkbaaGreatMTV
namespace Go.Proofs.YtffpmmphpdkkbaaGreat
open Go Go.RowKit Go.Proofs Co Co.S
structure DI where
  fc : Value
  fd : Value
  sv : Value
  ov : Value
  nv : Value
  rv : Value
  vs : List Value
def cellsR (A : List R1) (vs : List Value) : List Value := (A.zip vs).flatMap fun p => [.int .i64 p.1.1, p.2]
theorem cellsR_len {A : List R1} {vs : List Value} (h : vs.length = A.length) : (cellsR A vs).length = A.length * 2 := by
  unfold cellsR
  induction A generalizing vs with
  | nil => simp
  | cons a A ih =>
    cases vs with
    | nil => cases h
    | cons v vs =>
      simp only [List.zip_cons_cons, List.flatMap_cons, List.length_append, List.length_cons, List.length_nil]
      rw [ih (by simpa using h)]
      omega
theorem cellsR_at {A : List R1} {vs : List Value} (h : vs.length = A.length) {k : Nat} (hk : k < A.length) : (cellsR A vs)[k * 2]? = some (.int .i64 A[k].1) ∧ (cellsR A vs)[k * 2 + 1]? = some (vs[k]'(by omega)) := by
  unfold cellsR
  induction A generalizing vs k with
  | nil => cases hk
  | cons a A ih =>
    cases vs with
    | nil => cases h
    | cons v vs =>
      cases k with
      | zero => exact ⟨rfl, rfl⟩
      | succ k =>
        have h2 := ih (vs := vs) (by simpa using h) (k := k) (by simpa using hk)
        simp only [List.zip_cons_cons, List.flatMap_cons]
        constructor
        · rw [List.getElem?_append_right (by simp; omega)]
          have : (k + 1) * 2 - ([.int .i64 a.1, v] : List Value).length = k * 2 := by simp; omega
          rw [this]; exact h2.1
        · rw [List.getElem?_append_right (by simp; omega)]
          have : (k + 1) * 2 + 1 - ([.int .i64 a.1, v] : List Value).length = k * 2 + 1 := by simp; omega
          rw [this]; exact h2.2
/-- b is a DB with one table; lab tells which blocks are its own: 1 its own, 2 the list of tables' rows, 3 the rows, 4 the next numbers, 5 the rows' values. -/
structure DbM (W : World) (b : Nat) (t : T) (next : Nat) (A : List R1) (i : DI) (lab : Nat → Nat) : Prop where
  box : W.heap[b]? = some (.cells #[i.sv, i.ov, i.nv] 37)
  form : HRow W 0 29 4 i.sv 1 [.string t.nm, i.fc, .string t.key, i.fd]
  rd : RdT W i.fc i.fd t
  outer : HRow W 0 88 1 i.ov 1 [i.rv]
  rows : HRow W 0 90 2 i.rv A.length (cellsR A i.vs)
  n : i.vs.length = A.length
  vals : ∀ k (h : k < A.length) (h' : k < i.vs.length), HRow W 0 53 3 i.vs[k] A[k].2.length (cells3 A[k].2)
  nx : HRow W 0 3 1 i.nv 1 [.int .i64 (next : Int)]
  sep : ∀ j k (hj : j < i.vs.length) (hk : k < i.vs.length), j ≠ k → ∀ q, i.vs[j].ownBlock = some q → i.vs[k].ownBlock ≠ some q
  l1 : lab b = 1
  l2 : ∀ q, i.ov.ownBlock = some q → lab q = 2
  l3 : ∀ q, i.rv.ownBlock = some q → lab q = 3
  l4 : ∀ q, i.nv.ownBlock = some q → lab q = 4
  l5 : ∀ k (h : k < i.vs.length) q, i.vs[k].ownBlock = some q → lab q = 5
  lt : ∀ q, lab q ≠ 0 → q < W.heap.size
  len : ∀ a ∈ A, a.2.length = t.cols.length
  srt : A.Pairwise (fun a b => a.1 < b.1)
section
variable {W W' : World} {b next : Nat} {t : T} {A : List R1} {i : DI} {lab : Nat → Nat}
theorem DbM.tn {S : Nat → Prop} (h : DbM W b t next A i lab) (hk : Tn S W W') (hs : ∀ q, S q → lab q = 0) : DbM W' b t next A i lab := by
  have hb : ∀ q, lab q ≠ 0 → W'.heap[q]? = W.heap[q]? := fun q hq => hk.chg.block q (h.lt q hq) (fun hS => hq (hs q hS))
  exact ⟨(hb b (by rw [h.l1]; decide)).trans h.box, h.form.tn hk rfl, h.rd.kp hk.kpX, h.outer.of (fun q hq => hb q (by rw [h.l2 q hq]; decide)), h.rows.of (fun q hq => hb q (by rw [h.l3 q hq]; decide)), h.n, fun k hkk hk' => (h.vals k hkk hk').of (fun q hq => hb q (by rw [h.l5 k hk' q hq]; decide)),
    h.nx.of (fun q hq => hb q (by rw [h.l4 q hq]; decide)), h.sep, h.l1, h.l2, h.l3, h.l4, h.l5, fun q hq => Nat.lt_of_lt_of_le (h.lt q hq) hk.size, h.len, h.srt⟩
end
section
variable {W W' : World} {b next : Nat} {t : T} {A : List R1} {i : DI} {lab : Nat → Nat}
theorem DbM.later (h : DbM W b t next A i lab) (hb : Below W.heap.size W W') : DbM W' b t next A i lab := h.tn (S := fun _ => False) (Tn.of_below hb) (fun _ h => h.elim)
/-- Where the rows lie. -/
theorem DbM.outerC (h : DbM W b t next A i lab) : ∃ g c, i.ov = .slice (some ⟨g, 0, none⟩) 1 c ∧ g < W.heap.size ∧ W.cell? ⟨g, 0, none⟩ = some i.rv ∧ W.cell? ⟨b, 1, none⟩ = some (.slice (some ⟨g, 0, none⟩) 1 c) := by
  obtain ⟨g, c1, hov, _, _⟩ := h.outer.slice (by decide)
  have o := h.outer
  have x1 : W.cell? ⟨b, 1, none⟩ = some i.ov := nd_cell h.box 1
  rw [hov] at o x1
  exact ⟨g, c1, hov, (HRow.lt o g rfl).2, o.cell (j := 0) rfl, x1⟩
theorem DbM.formC (h : DbM W b t next A i lab) : ∃ g c, i.sv = .slice (some ⟨g, 0, none⟩) 1 c ∧ g < W.heap.size ∧ W.cell? ⟨g, 0, none⟩ = some (.string t.nm) ∧ W.cell? ⟨g, 1, none⟩ = some i.fc ∧ W.cell? ⟨g, 2, none⟩ = some (.string t.key) ∧ W.cell? ⟨g, 3, none⟩ = some i.fd ∧ W.cell? ⟨b, 0, none⟩ = some (.slice (some ⟨g, 0, none⟩) 1 c) := by
  obtain ⟨g, c1, hov, _, _⟩ := h.form.slice (by decide)
  have o := h.form
  have x1 : W.cell? ⟨b, 0, none⟩ = some i.sv := nd_cell h.box 0
  rw [hov] at o x1
  exact ⟨g, c1, hov, (HRow.lt o g rfl).2, o.cell (j := 0) rfl, o.cell (j := 1) rfl, o.cell (j := 2) rfl, o.cell (j := 3) rfl, x1⟩
/-- A row's number and its values. -/
theorem DbM.row (h : DbM W b t next A i lab) (hc : 0 < t.cols.length) {k : Nat} (hk : k < A.length) : ∃ gr cr gv cv, i.rv = .slice (some ⟨gr, 0, none⟩) A.length cr ∧ gr < W.heap.size ∧ W.cell? ⟨gr, k * 2, none⟩ = some (.int .i64 A[k].1) ∧ W.cell? ⟨gr, k * 2 + 1, none⟩ = some (.slice (some ⟨gv, 0, none⟩) t.cols.length cv) ∧
    i.vs[k]'(by rw [h.n]; exact hk) = .slice (some ⟨gv, 0, none⟩) t.cols.length cv ∧ gv < W.heap.size ∧ HRow W 0 53 3 (.slice (some ⟨gv, 0, none⟩) t.cols.length cv) t.cols.length (cells3 A[k].2) := by
  have hk' : k < i.vs.length := by rw [h.n]; exact hk
  have hl := h.len _ (List.getElem_mem hk)
  have hv := h.vals k hk hk'
  rw [hl] at hv
  obtain ⟨gv, cv, e, _, _⟩ := hv.slice hc
  have hr := h.rows
  obtain ⟨gr, cr, e2, _, _⟩ := hr.slice (by omega)
  rw [e] at hv
  rw [e2] at hr
  obtain ⟨c1, c2⟩ := cellsR_at h.n hk
  rw [e] at c2
  exact ⟨gr, cr, gv, cv, e2, (HRow.lt hr gr rfl).2, hr.cell c1, hr.cell c2, e, (HRow.lt hv gv rfl).2, hv⟩
end
/-- Where the row x stands. -/
def atP (A : List R1) (x : Int) : Int := match A.findIdx? (fun a => decide (a.1 = x)) with
  | none => -1
  | some k => (k : Int)
set_option maxRecDepth 100000 in
set_option maxHeartbeats 1000000 in
theorem typed_any (k n1 : Int) (s : ByteArray) (c : C) (W : World) (hs : s.size ≤ maxLen) : Calls Tryz.prog 41 #[(Value.agg #[Value.int .i64 (k), Value.int .i64 (n1), Value.string (s)]), .agg #[.string c.nm, .int .i64 c.kd, .bool c.mu, .string c.tgt]] W fun e w' => e = .returned (.bool (inC c.kd (k, n1, s))) ∧ Below W.heap.size W w' := by
  have hb1 := below_alloc W (.cells #[.int .i64 k, .int .i64 n1, .string s] 53)
  have k1 := heap_alloc_new W (.cells #[.int .i64 k, .int .i64 n1, .string s] 53)
  have hb2 := below_alloc (W.alloc (.cells #[.int .i64 k, .int .i64 n1, .string s] 53)) (.cells #[.string c.nm, .int .i64 c.kd, .bool c.mu, .string c.tgt] 62)
  have k2 := heap_alloc_new (W.alloc (.cells #[.int .i64 k, .int .i64 n1, .string s] 53)) (.cells #[.string c.nm, .int .i64 c.kd, .bool c.mu, .string c.tgt] 62)
  have k1 := heap_on hb2 k1
  have hmay := fun y => refMay_any k n1 s y hs
  have hb2 := below_on hb1 hb2
  obtain ⟨w2, hw2⟩ : ∃ w2, (W.alloc (.cells #[.int .i64 k, .int .i64 n1, .string s] 53)).alloc (.cells #[.string c.nm, .int .i64 c.kd, .bool c.mu, .string c.tgt] 62) = w2 := ⟨_, rfl⟩
  obtain ⟨B, hB⟩ : ∃ B, W.heap.size = B := ⟨_, rfl⟩
  rw [World.size_alloc] at k2
  rw [hw2] at k1 k2 hb2
  rw [hB] at k1 k2
  have HW := Lib.hid (And.intro hw2 hB)
  have HK := Lib.hid (And.intro k1 (And.intro k2 hb2))
  unfold inC
  simp only
  obtain ⟨may, hmy⟩ : ∃ m, mayV k n1 s.data.toList = m := ⟨_, rfl⟩
  rw [hmy] at hmay ⊢
  have x0 := nd_cell k1 0
  have x1 := nd_cell k1 1
  have x2 := nd_cell k1 2
  have hmay := hmay w2
  clear hw2 hB hb1 hb2 k1 k2 hmy
  cases may with
  | false =>
    simp only [Bool.false_and]
    go_enter Tryz.func41, Tryz.ntmps41
    go_upto_region 1 with fail
    rw [HW.out.1, HW.out.2]
    go_wp2_with (go_at_call 22; (with_reducible refine hmay.mono ?_); rintro e w3 ⟨rfl, hb3⟩; have H3 := Lib.hid (below_on HK.out.2.2 hb3); clear hb3 hmay)
    go_ret
    exact ⟨rfl, H3.out⟩
  | true =>
    by_cases h0 : k = 0
    · subst h0
      go_enter Tryz.func41, Tryz.ntmps41
      go_upto_region 1 with fail
      rw [HW.out.1, HW.out.2]
      go_wp2_with (go_at_call 22; (with_reducible refine hmay.mono ?_); rintro e w3 ⟨rfl, hb3⟩; have H3 := Lib.hid (below_on HK.out.2.2 hb3); have y0 := nd_cell (heap_on hb3 HK.out.1) 0; clear hb3 hmay)
      go_ret
      exact ⟨by simp, H3.out⟩
    · have e0 : (k == 0) = false := by simp [h0]
      go_enter Tryz.func41, Tryz.ntmps41
      go_upto_region 1 with fail
      rw [HW.out.1, HW.out.2]
      go_wp2_with (go_at_call 22; (with_reducible refine hmay.mono ?_); rintro e w3 ⟨rfl, hb3⟩; have H3 := Lib.hid (below_on HK.out.2.2 hb3); have y0 := nd_cell (heap_on hb3 HK.out.1) 0; have z1 := nd_cell (heap_on hb3 HK.out.2.1) 1; clear hb3 hmay)
      go_ret
      refine ⟨?_, H3.out⟩
      have ee : (k == c.kd) = decide (k = c.kd) := by rw [Bool.eq_iff_iff]; simp
      show Ending.returned (Value.bool (k == c.kd)) = _
      rw [decide_eq_false h0, ee]
      simp
theorem atP_none {A : List R1} {x : Int} (h : ∀ j (hj : j < A.length), A[j].1 ≠ x) : atP A x = -1 := by
  have e : A.findIdx? (fun a => decide (a.1 = x)) = none := by
    rw [List.findIdx?_eq_none_iff]
    intro a ha
    obtain ⟨j, hj, rfl⟩ := List.getElem_of_mem ha
    simp [h j hj]
  unfold atP
  rw [e]
theorem atP_some {A : List R1} {x : Int} {k : Nat} (hk : k < A.length) (h1 : A[k].1 = x) (h : ∀ j (hj : j < A.length), j < k → A[j].1 ≠ x) : atP A x = (k : Int) := by
  have e : A.findIdx? (fun a => decide (a.1 = x)) = some k := by
    rw [List.findIdx?_eq_some_iff_getElem]
    refine ⟨hk, by simp [h1], fun j hj => ?_⟩
    simp [h j (by omega) hj]
  unfold atP
  rw [e]
set_option maxRecDepth 100000 in
set_option maxHeartbeats 1000000 in
theorem dat_any {W : World} {b next : Nat} {t : T} {A : List R1} {i : DI} {lab : Nat → Nat} (h : DbM W b t next A i lab) (hl : A.length ≤ 100000) (x : Int) : Calls Tryz.prog 44 #[(Value.pointer (some ⟨b, 0, none⟩)), .int .i64 0, .int .i64 x] W fun e w' => e = .returned (.int .i64 (atP A x)) ∧ w' = W := by
  obtain ⟨g, c1, hov, _, _⟩ := h.outer.slice (by decide)
  obtain ⟨pr, c2, hrv, _, _⟩ := h.rows.isslice
  obtain ⟨n, hn⟩ : ∃ n, A.length = n := ⟨_, rfl⟩
  have hn' : (n : Int) ≤ 100000 := by omega
  have x1 := nd_cell h.box 1
  have xl := lt_of_heap h.box
  have o0 : W.cell? ⟨g, 0, none⟩ = some i.rv := by have := h.outer; rw [hov] at this; exact this.cell (j := 0) rfl
  rw [hov] at x1
  rw [hrv] at o0
  have HR : Hid (∀ k (hk : k < A.length), ∃ gr, pr = some ⟨gr, 0, none⟩ ∧ W.cell? ⟨gr, k * 2, none⟩ = some (.int .i64 A[k].1)) := Lib.hid (fun k hk => by
    have hr := h.rows
    obtain ⟨gr, cr, e, _, _⟩ := hr.slice (by omega)
    rw [hrv] at e
    cases e
    rw [hrv] at hr
    exact ⟨gr, rfl, hr.cell (cellsR_at h.n hk).1⟩)
  have HN := Lib.hid hn
  rw [hn] at o0
  have x1 : W.cell? ⟨b, 1, none⟩ = some (.slice (some ⟨g, 0, none⟩) 1 c1) := x1
  clear h hov hrv hn
  go_enter Tryz.func44, Tryz.ntmps44
  go_wp2_with fail
  go_loopg [7] (n + 1) (fun gh jv w => ∃ (j : Nat), jv = .int .i64 (j : Int) ∧ j ≤ n ∧ n + 1 ≤ j + gh ∧ (∀ k (hk : k < A.length), k < j → A[k].1 ≠ x) ∧ w = W)
  case atStart => exact ⟨0, rfl, Nat.zero_le _, by omega, fun k _ h => absurd h (Nat.not_lt_zero k), rfl⟩
  case round =>
    obtain ⟨j, rfl, hj, hg, hx, rfl⟩ := hrel
    by_cases hlt : j < n
    · have hjl : j < A.length := by rw [HN.out]; exact hlt
      have hji : (j : Int) < (n : Int) := by omega
      obtain ⟨gr, rfl, r0⟩ := HR.out j hjl
      obtain ⟨y, hy⟩ : ∃ y, A[j].1 = y := ⟨_, rfl⟩
      rw [hy] at r0
      have HX := Lib.hid hx
      have HY := Lib.hid hy
      clear hx hy
      by_cases e : y = x
      · subst e
        go_wp2_with fail
        go_ret
        exact ⟨by rw [atP_some hjl HY.out HX.out]; rfl, rfl⟩
      · have e1 : (y == x) = false := by simp [e]
        go_wp2_with fail
        go_roundg (n - j)
        case measure => omega
        case rel => exact ⟨j + 1, rfl, by omega, by omega, fun k hk hkj => (by
          by_cases ek : k = j
          · subst ek; rw [HY.out]; exact e
          · exact HX.out k hk (by omega)), rfl⟩
    · obtain rfl : j = n := by omega
      have HX := Lib.hid hx
      clear hx
      go_wp2_with fail
      go_ret
      exact ⟨by rw [atP_none (fun k hk => HX.out k hk (by rw [← HN.out]; exact hk))]; rfl, rfl⟩
end Go.Proofs.YtffpmmphpdkkbaaGreat
namespace Go.Proofs.YtffpmmphpdkkbaaGreat
open Go Go.RowKit Go.Proofs Co Co.S
section
variable {W W' w : World} {b next : Nat} {t : T} {A : List R1} {i : DI} {lab : Nat → Nat}
theorem atP_cases (hs : A.Pairwise (fun a b => a.1 < b.1)) (x : Int) : (atP A x = -1 ∧ ∀ a ∈ A, a.1 ≠ x) ∨ ∃ k, ∃ hk : k < A.length, atP A x = (k : Int) ∧ A[k].1 = x := by
  by_cases h : ∃ k, ∃ hk : k < A.length, A[k].1 = x
  · obtain ⟨k, hk, h1⟩ := h
    refine .inr ⟨k, hk, atP_some hk h1 (fun j hj hjk e => ?_), h1⟩
    have := srt_at hs hj hk (e.trans h1.symm)
    omega
  · refine .inl ⟨atP_none (fun j hj e => h ⟨j, hj, e⟩), fun a ha e => ?_⟩
    obtain ⟨j, hj, rfl⟩ := List.getElem_of_mem ha
    exact h ⟨j, hj, e⟩
theorem setA_at {x : Int} {j : Nat} {v : T3} {k : Nat} (hk : k < A.length) (hk' : k < (setA A x j v).length) : (setA A x j v)[k] = if A[k].1 = x then (A[k].1, A[k].2.set j v) else A[k] := by
  simp [setA]
theorem cellsR_ids {A A' : List R1} {vs : List Value} (h : A.map (·.1) = A'.map (·.1)) : cellsR A vs = cellsR A' vs := by
  unfold cellsR
  induction A generalizing A' vs with
  | nil =>
    cases A' with
    | nil => rfl
    | cons a A' => cases h
  | cons a A ih =>
    cases A' with
    | nil => cases h
    | cons a' A' =>
      simp only [List.map_cons, List.cons.injEq] at h
      cases vs with
      | nil => rfl
      | cons v vs =>
        simp only [List.zip_cons_cons, List.flatMap_cons]
        rw [ih h.2, h.1]
/-- A value of a row is written over. -/
theorem DbM.setval (h : DbM W b t next A i lab) {k : Nat} (hk : k < A.length) {j : Nat} (hj : j < t.cols.length) {gv cv : Nat} (hv : i.vs[k]'(by rw [h.n]; exact hk) = .slice (some ⟨gv, 0, none⟩) t.cols.length cv) (kd n1 : Int) (s : ByteArray) :
    DbM (((W.setCell ⟨gv, j * 3, none⟩ (.int .i64 kd)).setCell ⟨gv, j * 3 + 1, none⟩ (.int .i64 n1)).setCell ⟨gv, j * 3 + 2, none⟩ (.string s)) b t next (setA A A[k].1 j (kd, n1, s)) i lab ∧
      Tn (fun q => lab q ≠ 0) W (((W.setCell ⟨gv, j * 3, none⟩ (.int .i64 kd)).setCell ⟨gv, j * 3 + 1, none⟩ (.int .i64 n1)).setCell ⟨gv, j * 3 + 2, none⟩ (.string s)) := by
  have hk' : k < i.vs.length := by rw [h.n]; exact hk
  have hl := h.len _ (List.getElem_mem hk)
  have hr := h.vals k hk hk'
  rw [hv, hl] at hr
  obtain ⟨h1, h2⟩ := row_set hr hl j hj kd n1 s
  have hg : lab gv = 5 := h.l5 k hk' gv (by rw [hv]; rfl)
  have hty : Ty W gv := by
    obtain ⟨_, cur, hb⟩ := hr.block gv rfl
    exact ⟨cur, 53, hb, rfl⟩
  generalize ((W.setCell ⟨gv, j * 3, none⟩ (.int .i64 kd)).setCell ⟨gv, j * 3 + 1, none⟩ (.int .i64 n1)).setCell ⟨gv, j * 3 + 2, none⟩ (.string s) = w at h1 h2 ⊢
  have hchg : Chg (fun q => q = gv) W w := ⟨h2.os, h2.tape, h2.output, h2.size, fun q hq hn => h2.block q hq (fun e => hn (by cases e; rfl))⟩
  have htn : Tn (fun q => q = gv) W w := Tn.of_chg hchg (fun q _ hq => .inl (hq ▸ hty))
  have hb : ∀ q, q < W.heap.size → q ≠ gv → w.heap[q]? = W.heap[q]? := fun q hq hn => hchg.block q hq hn
  have hnn : ∀ q m, lab q = m → m ≠ 5 → q ≠ gv := fun q m hq hm e => hm (by rw [← hq, e, hg])
  have hlt : ∀ q m, lab q = m → m ≠ 0 → q < W.heap.size := fun q m hq hm => h.lt q (by rw [hq]; exact hm)
  have hids : (setA A A[k].1 j (kd, n1, s)).map (·.1) = A.map (·.1) := setA_ids _ _ _ _
  have hll : (setA A A[k].1 j (kd, n1, s)).length = A.length := setA_len _ _ _ _
  refine ⟨⟨(hb b (hlt b 1 h.l1 (by decide)) (hnn b 1 h.l1 (by decide))).trans h.box, h.form.tn htn rfl, h.rd.kp htn.kpX, h.outer.of (fun q hq => hb q (HRow.lt h.outer q hq).2 (hnn q 2 (h.l2 q hq) (by decide))), ?_, h.n.trans hll.symm, fun m hm hm' => ?_, h.nx.of (fun q hq => hb q (HRow.lt h.nx q hq).2 (hnn q 4 (h.l4 q hq) (by decide))), h.sep, h.l1, h.l2, h.l3, h.l4, h.l5, fun q hq => Nat.lt_of_lt_of_le (h.lt q hq) h2.size, fun a ha => ?_, ?_⟩, htn.mono (fun q _ hq => by show lab q ≠ 0; rw [hq, hg]; decide)⟩
  · rw [hll, cellsR_ids hids]
    exact h.rows.of (fun q hq => hb q (HRow.lt h.rows q hq).2 (hnn q 3 (h.l3 q hq) (by decide)))
  · rw [hll] at hm
    have e := setA_at (x := A[k].1) (j := j) (v := (kd, n1, s)) hm (by rw [hll]; exact hm)
    rw [e]
    by_cases hmk : m = k
    · subst hmk
      rw [if_pos rfl]
      show HRow w 0 53 3 i.vs[m] (A[m].2.set j (kd, n1, s)).length (cells3 (A[m].2.set j (kd, n1, s)))
      rw [List.length_set, hl, hv]
      exact h1
    · rw [if_neg (fun e2 => hmk (srt_at h.srt hm hk e2))]
      refine (h.vals m hm hm').of (fun q hq => hb q (HRow.lt (h.vals m hm hm') q hq).2 (fun e3 => ?_))
      subst e3
      exact h.sep m k hm' hk' hmk q hq (by rw [hv]; rfl)
  · unfold setA at ha
    obtain ⟨a0, ha0, rfl⟩ := List.mem_map.1 ha
    by_cases e : a0.1 = A[k].1
    · rw [if_pos e]; show (a0.2.set j _).length = _; rw [List.length_set]; exact h.len a0 ha0
    · rw [if_neg e]; exact h.len a0 ha0
  · have := h.srt
    rw [← List.pairwise_map (f := fun a : R1 => a.1) (R := fun a b => a < b)] at this ⊢
    rw [hids]; exact this
/-- What the reference's calls leave. -/
def DbR (W : World) (b : Nat) (t : T) (next : Nat) (A : List R1) (i : DI) (lab : Nat → Nat) (w : World) : Prop := DbM w b t next A i lab ∧ Tn (fun q => lab q ≠ 0) W w
set_option maxRecDepth 100000 in
set_option maxHeartbeats 4000000 in
theorem dset_any (h : DbM W b t next A i lab) (hl : A.length ≤ 100000) (hc0 : 0 < t.cols.length) (x : Int) (y : ByteArray) (kd n1 : Int) (s : ByteArray) (hs : s.size ≤ maxLen) :
    Calls Tryz.prog 19 #[(Value.pointer (some ⟨b, 0, none⟩)), .int .i64 0, .int .i64 x, .string y, (Value.agg #[Value.int .i64 (kd), Value.int .i64 (n1), Value.string (s)])] W fun e w' => e = .returned (.int .i64 (setE t A x y (kd, n1, s))) ∧ DbR W b t next (if setE t A x y (kd, n1, s) = 0 then setA A x (ixC t.cols y).toNat (kd, n1, s) else A) i lab w' := by
  have hb1 := below_alloc W (.cells #[.int .i64 kd, .int .i64 n1, .string s] 53)
  have k1 := heap_alloc_new W (.cells #[.int .i64 kd, .int .i64 n1, .string s] 53)
  obtain ⟨w1, hw1⟩ : ∃ w1, W.alloc (.cells #[.int .i64 kd, .int .i64 n1, .string s] 53) = w1 := ⟨_, rfl⟩
  obtain ⟨B, hB⟩ : ∃ B, W.heap.size = B := ⟨_, rfl⟩
  rw [hw1] at hb1 k1
  rw [hB] at k1
  have h1 := h.later hb1
  have hat := dat_any h1 hl x
  have HW := Lib.hid (And.intro hw1 hB)
  have H1 := Lib.hid (And.intro h1 (And.intro k1 hb1))
  have hA : A.any (fun a => decide (a.1 = x)) = decide (¬ atP A x = -1) := by
    rcases atP_cases h.srt x with ⟨e1, e2⟩ | ⟨k, hk, e1, e2⟩
    · rw [e1, List.any_eq_false.2 (fun a ha => by simp [e2 a ha])]; rfl
    · rw [e1, List.any_eq_true.2 ⟨A[k], List.getElem_mem hk, by simp [e2]⟩]
      symm; rw [decide_eq_true_iff]; omega
  unfold setE
  rw [hA]
  rcases atP_cases h.srt x with ⟨e1, e2⟩ | ⟨k, hk, e1, e2⟩
  · rw [e1] at hat ⊢
    simp only [not_true_eq_false, decide_false, Bool.false_eq_true, if_false]
    clear hb1 k1 hw1 hB h1 hA e1 e2
    go_enter Tryz.func19, Tryz.ntmps19
    go_upto_region 1 with fail
    rw [HW.out.1, HW.out.2]
    go_wp2_with (go_at_call 44; (with_reducible refine hat.mono ?_); rintro e w2 ⟨rfl, hw⟩; subst w2; clear hat)
    go_ret
    exact ⟨rfl, H1.out.1, Tn.of_below H1.out.2.2⟩
  · rw [e1] at hat ⊢
    have hne : decide (¬ (k : Int) = -1) = true := decide_eq_true (by omega)
    rw [hne]
    simp only [reduceIte]
    obtain ⟨gs, cs, f1, f2, f3, f4, f5, f6, f7⟩ := h1.formC
    obtain ⟨pc, kc, hfc, _, _⟩ := h1.rd.1.slice
    obtain ⟨pd, kd', hfd, _, _⟩ := h1.rd.2.slice
    have hcol := rcolOf_any (x := y) h1.rd
    rw [hfc] at f4 hcol
    rw [hfd] at f6 hcol
    have xl := lt_of_heap h1.box
    have HX : Hid (∀ w, Below w1.heap.size w1 w → DbM w b t next A i lab ∧ w.heap[B]? = some (.cells #[.int .i64 kd, .int .i64 n1, .string s] 53) ∧ Below W.heap.size W w) := Lib.hid (fun w hb => ⟨h1.later hb, heap_on hb k1, below_on hb1 hb⟩)
    have hnk : ¬ (k : Int) < 0 := by omega
    rcases ixC_cases t.cols y with hix | ⟨j, hj, hix⟩
    · rw [hix] at hcol ⊢
      simp only [show ¬ (0 : Int) ≤ -1 by decide, if_false, show ¬ (3 : Int) = 0 by decide]
      clear hb1 k1 hw1 hB h1 hA e1 e2 hfc hfd hne
      go_enter Tryz.func19, Tryz.ntmps19
      go_upto_region 1 with fail
      rw [HW.out.1, HW.out.2]
      go_wp2_with (first
        | (go_at_call 44; (with_reducible refine hat.mono ?_); rintro e w2 ⟨rfl, hw⟩; subst w2; clear hat)
        | (go_at_call 47; (with_reducible refine hcol.mono ?_); rintro e w3 ⟨rfl, hb3⟩; have H3 := HX.out w3 hb3; clear hcol))
      go_ret
      exact ⟨rfl, H3.1, Tn.of_below H3.2.2⟩
    · rw [hix] at hcol ⊢
      have hcj : (t.cols[(j : Int).toNat]?).getD ⟨e0, 0, false, e0⟩ = t.cols[j] := by
        rw [Int.toNat_natCast, List.getElem?_eq_getElem hj]; rfl
      simp only [show (0 : Int) ≤ (j : Int) from Int.natCast_nonneg j, if_true, hcj]
      have hnj : ¬ (j : Int) < 0 := by omega
      obtain ⟨cc, hcc⟩ : ∃ cc, t.cols[j] = cc := ⟨_, rfl⟩
      obtain ⟨gc, oc, hpc, _, _⟩ := RdC.col (hfc ▸ h1.rd.1) hj
      have HC : Hid (∀ w, Below w1.heap.size w1 w → w.cell? ⟨gc, oc + j * 4, none⟩ = some (.string cc.nm) ∧ w.cell? ⟨gc, oc + j * 4 + 1, none⟩ = some (.int .i64 cc.kd) ∧ w.cell? ⟨gc, oc + j * 4 + 2, none⟩ = some (.bool cc.mu) ∧ w.cell? ⟨gc, oc + j * 4 + 3, none⟩ = some (.string cc.tgt)) := Lib.hid (fun w hb => by
        obtain ⟨gc', oc', e, _, h2⟩ := RdC.col (hfc ▸ (h1.later hb).rd.1) hj
        rw [hpc] at e
        cases e
        rw [← hcc]; exact h2)
      have HF : Hid (∀ w, Below w1.heap.size w1 w → w.cell? ⟨gs, 1, none⟩ = some (.slice pc t.cols.length kc) ∧ w.cell? ⟨b, 0, none⟩ = some (.slice (some ⟨gs, 0, none⟩) 1 cs) ∧ b < w.heap.size ∧ gs < w.heap.size) := Lib.hid (fun w hb => by
        have h2 := h1.later hb
        obtain ⟨gs', cs', a1, a2, a3, a4, a5, a6, a7⟩ := h2.formC
        rw [f1] at a1
        cases a1
        rw [hfc] at a4
        exact ⟨a4, a7, lt_of_heap h2.box, a2⟩)
      obtain ⟨nc, hnc⟩ : ∃ n, t.cols.length = n := ⟨_, rfl⟩
      have htyp := fun w => typed_any kd n1 s cc w hs
      rw [hcc]
      rw [hpc] at HF f4 hcol
      rw [hnc] at HF f4 hcol
      have hji : (j : Int) < (nc : Int) := by omega
      have HN := Lib.hid (And.intro hnc (And.intro hcc hix))
      clear hb1 k1 hw1 hB h1 hA hfc hfd hne hcj hcc hpc
      cases hin : inC cc.kd (kd, n1, s)
      · simp only [Bool.false_eq_true, if_false, show ¬ (4 : Int) = 0 by decide]
        rw [hin] at htyp
        clear hin e1 e2
        go_enter Tryz.func19, Tryz.ntmps19
        go_upto_region 1 with fail
        rw [HW.out.1, HW.out.2]
        go_upto_region 7 with (first
          | (go_at_call 44; (with_reducible refine hat.mono ?_); rintro e w2 ⟨rfl, hw⟩; subst w2; clear hat)
          | (go_at_call 47; (with_reducible refine hcol.mono ?_); rintro e w3 ⟨rfl, hb3⟩; have H3 := Lib.hid hb3; clear hcol hb3))
        refine Par.wp_region_par 12 [(Value.agg #[Value.int .i64 (kd), Value.int .i64 (n1), Value.string (s)]), (Value.pointer (some ⟨b, 0, none⟩)), (Value.pointer (some ⟨b, 0, none⟩)), (Value.pointer (some ⟨b, 0, none⟩)), .slice (some ⟨gs, 0, none⟩) 1 cs, (Value.int .i64 (0)), (Value.pointer (some ⟨gs, 0, none⟩)), (Value.pointer (some ⟨gs, 1, none⟩)), .slice (some ⟨gc, oc, none⟩) nc kc, (Value.int .i64 ((j : Int))), (Value.pointer (some ⟨gc, oc + j * 4, none⟩)), .agg #[.string cc.nm, .int .i64 cc.kd, .bool cc.mu, .string cc.tgt]] (fun w => Below w1.heap.size w1 w) ?A1 ?hm1 ?hB1 ?hA1 ((below_on H3.out (below_drew w3))) ?hop1 ?hT1
        case hm1 => kernel_rfl
        case hB1 => kernel_rfl
        case hA1 =>
          simp only [Par.putA, Par.dstAt, Act.put, List.getElem?_toArray, List.getElem?_cons_zero, List.getElem?_cons_succ, Option.bind_some, List.setIfInBounds_toArray, List.set_cons_zero, List.set_cons_succ, List.getD_cons_zero, List.getD_cons_succ]
          rfl
        case hop1 =>
          simp only [List.take_succ_cons, List.take_zero, Par.GiveAll, and_true]
          refine ⟨fun w' hR => ?_, fun w' hR => ?_, fun w' hR => ?_, fun w' hR => ?_, fun w' hR => ?_, fun w' hR => ?_, fun w' hR => ?_, fun w' hR => ?_, fun w' hR => ?_, fun w' hR => ?_, fun w' hR => ?_, fun w' hR => ?_⟩
          · have HR := Lib.hid hR
            have x0 := nd_cell (HX.out w' hR).2.1 0
            have x1 := nd_cell (HX.out w' hR).2.1 1
            have x2 := nd_cell (HX.out w' hR).2.1 2
            clear hR
            simp only [Par.Gives]
            go_simp
            all_goals exact HR.out
          · have HR := Lib.hid hR
            clear hR
            simp only [Par.Gives]
            go_simp
            all_goals exact HR.out
          · have HR := Lib.hid hR
            have zl := (HF.out w' hR).2.2.1
            clear hR
            simp only [Par.Gives]
            go_simp
            all_goals exact HR.out
          · have HR := Lib.hid hR
            have zl := (HF.out w' hR).2.2.1
            clear hR
            simp only [Par.Gives]
            go_simp
            all_goals exact HR.out
          · have HR := Lib.hid hR
            have x0 := (HF.out w' hR).2.1
            clear hR
            simp only [Par.Gives]
            go_simp
            all_goals exact HR.out
          · have HR := Lib.hid hR
            clear hR
            simp only [Par.Gives]
            go_simp
            all_goals exact HR.out
          · have HR := Lib.hid hR
            clear hR
            simp only [Par.Gives]
            go_simp
            all_goals exact HR.out
          · have HR := Lib.hid hR
            have zl := (HF.out w' hR).2.2.2
            clear hR
            simp only [Par.Gives]
            go_simp
            all_goals exact HR.out
          · have HR := Lib.hid hR
            have x0 := (HF.out w' hR).1
            clear hR
            simp only [Par.Gives]
            go_simp
            all_goals exact HR.out
          · have HR := Lib.hid hR
            clear hR
            simp only [Par.Gives]
            go_simp
            all_goals exact HR.out
          · have HR := Lib.hid hR
            clear hR
            simp only [Par.Gives]
            go_simp
            all_goals exact HR.out
          · have HR := Lib.hid hR
            have x0 := (HC.out w' hR).1
            have x1 := (HC.out w' hR).2.1
            have x2 := (HC.out w' hR).2.2.1
            have x3 := (HC.out w' hR).2.2.2
            clear hR
            simp only [Par.Gives]
            go_simp
            all_goals exact HR.out
        case hT1 =>
          intro w' hR
          simp only [List.drop_succ_cons, List.drop_zero]
          have HR := Lib.hid hR
          have htyp := htyp w'
          clear hR
          go_wp2_with (go_at_call 41; (with_reducible refine htyp.mono ?_); rintro e w4 ⟨rfl, hb4⟩; have H4 := Lib.hid (HX.out w4 (HR.out.trans (hb4.mono HR.out.size))); clear htyp hb4)
          go_ret
          exact ⟨rfl, H4.out.1, Tn.of_below H4.out.2.2⟩
      · simp only [if_true]
        obtain ⟨gr, cr, gv, cv, r1, r2, r3, r4, r5, r6, r7⟩ := (HX.out w1 (Below.refl _ _)).1.row hc0 hk
        obtain ⟨g, c, o1, o2, o3, o4⟩ := (HX.out w1 (Below.refl _ _)).1.outerC
        have hvk : i.vs[k]'(by rw [h.n]; exact hk) = .slice (some ⟨gv, 0, none⟩) t.cols.length cv := r5
        have HV := Lib.hid hvk
        obtain ⟨na, hna⟩ : ∃ n, A.length = n := ⟨_, rfl⟩
        have hki : (k : Int) < (na : Int) := by omega
        have HO : Hid (∀ w, Below w1.heap.size w1 w → w.cell? ⟨b, 1, none⟩ = some (.slice (some ⟨g, 0, none⟩) 1 c) ∧ w.cell? ⟨g, 0, none⟩ = some (.slice (some ⟨gr, 0, none⟩) na cr) ∧ w.cell? ⟨gr, k * 2 + 1, none⟩ = some (.slice (some ⟨gv, 0, none⟩) nc cv) ∧ b < w.heap.size ∧ g < w.heap.size ∧ gr < w.heap.size ∧ HRow w 0 53 3 (.slice (some ⟨gv, 0, none⟩) nc cv) nc (cells3 A[k].2)) := Lib.hid (fun w hb => by
          have k0 := World.cell?_of_block (w := w1) (a := ⟨b, 1, none⟩) (hb.block b xl)
          have k2 := World.cell?_of_block (w := w1) (a := ⟨g, 0, none⟩) (hb.block g o2)
          have k3 := World.cell?_of_block (w := w1) (a := ⟨gr, k * 2 + 1, none⟩) (hb.block gr r2)
          rw [r1, hna] at o3
          rw [HN.out.1] at r4 r7
          exact ⟨k0.trans o4, k2.trans o3, k3.trans r4, Nat.lt_of_lt_of_le xl hb.size, Nat.lt_of_lt_of_le o2 hb.size, Nat.lt_of_lt_of_le r2 hb.size, r7.later hb⟩)
        have hxl : (cells3 A[k].2).length = nc * 3 := by rw [cells3_len, h.len _ (List.getElem_mem hk), HN.out.1]
        have H0 : Hid ((cells3 A[k].2).length = nc * 3) := Lib.hid hxl
        rw [hin] at htyp
        clear hin e1 r1 r2 r3 r4 r5 r6 r7 o1 o2 o3 o4 hvk hxl hna
        go_enter Tryz.func19, Tryz.ntmps19
        go_upto_region 1 with fail
        rw [HW.out.1, HW.out.2]
        go_upto_region 7 with (first
          | (go_at_call 44; (with_reducible refine hat.mono ?_); rintro e w2 ⟨rfl, hw⟩; subst w2; clear hat)
          | (go_at_call 47; (with_reducible refine hcol.mono ?_); rintro e w3 ⟨rfl, hb3⟩; have H3 := Lib.hid hb3; clear hcol hb3))
        refine Par.wp_region_par 12 [(Value.agg #[Value.int .i64 (kd), Value.int .i64 (n1), Value.string (s)]), (Value.pointer (some ⟨b, 0, none⟩)), (Value.pointer (some ⟨b, 0, none⟩)), (Value.pointer (some ⟨b, 0, none⟩)), .slice (some ⟨gs, 0, none⟩) 1 cs, (Value.int .i64 (0)), (Value.pointer (some ⟨gs, 0, none⟩)), (Value.pointer (some ⟨gs, 1, none⟩)), .slice (some ⟨gc, oc, none⟩) nc kc, (Value.int .i64 ((j : Int))), (Value.pointer (some ⟨gc, oc + j * 4, none⟩)), .agg #[.string cc.nm, .int .i64 cc.kd, .bool cc.mu, .string cc.tgt]] (fun w => Below w1.heap.size w1 w) ?A2 ?hm2 ?hB2 ?hA2 ((below_on H3.out (below_drew w3))) ?hop2 ?hT2
        case hm2 => kernel_rfl
        case hB2 => kernel_rfl
        case hA2 =>
          simp only [Par.putA, Par.dstAt, Act.put, List.getElem?_toArray, List.getElem?_cons_zero, List.getElem?_cons_succ, Option.bind_some, List.setIfInBounds_toArray, List.set_cons_zero, List.set_cons_succ, List.getD_cons_zero, List.getD_cons_succ]
          rfl
        case hop2 =>
          simp only [List.take_succ_cons, List.take_zero, Par.GiveAll, and_true]
          refine ⟨fun w' hR => ?_, fun w' hR => ?_, fun w' hR => ?_, fun w' hR => ?_, fun w' hR => ?_, fun w' hR => ?_, fun w' hR => ?_, fun w' hR => ?_, fun w' hR => ?_, fun w' hR => ?_, fun w' hR => ?_, fun w' hR => ?_⟩
          · have HR := Lib.hid hR
            have x0 := nd_cell (HX.out w' hR).2.1 0
            have x1 := nd_cell (HX.out w' hR).2.1 1
            have x2 := nd_cell (HX.out w' hR).2.1 2
            clear hR
            simp only [Par.Gives]
            go_simp
            all_goals exact HR.out
          · have HR := Lib.hid hR
            clear hR
            simp only [Par.Gives]
            go_simp
            all_goals exact HR.out
          · have HR := Lib.hid hR
            have zl := (HF.out w' hR).2.2.1
            clear hR
            simp only [Par.Gives]
            go_simp
            all_goals exact HR.out
          · have HR := Lib.hid hR
            have zl := (HF.out w' hR).2.2.1
            clear hR
            simp only [Par.Gives]
            go_simp
            all_goals exact HR.out
          · have HR := Lib.hid hR
            have x0 := (HF.out w' hR).2.1
            clear hR
            simp only [Par.Gives]
            go_simp
            all_goals exact HR.out
          · have HR := Lib.hid hR
            clear hR
            simp only [Par.Gives]
            go_simp
            all_goals exact HR.out
          · have HR := Lib.hid hR
            clear hR
            simp only [Par.Gives]
            go_simp
            all_goals exact HR.out
          · have HR := Lib.hid hR
            have zl := (HF.out w' hR).2.2.2
            clear hR
            simp only [Par.Gives]
            go_simp
            all_goals exact HR.out
          · have HR := Lib.hid hR
            have x0 := (HF.out w' hR).1
            clear hR
            simp only [Par.Gives]
            go_simp
            all_goals exact HR.out
          · have HR := Lib.hid hR
            clear hR
            simp only [Par.Gives]
            go_simp
            all_goals exact HR.out
          · have HR := Lib.hid hR
            clear hR
            simp only [Par.Gives]
            go_simp
            all_goals exact HR.out
          · have HR := Lib.hid hR
            have x0 := (HC.out w' hR).1
            have x1 := (HC.out w' hR).2.1
            have x2 := (HC.out w' hR).2.2.1
            have x3 := (HC.out w' hR).2.2.2
            clear hR
            simp only [Par.Gives]
            go_simp
            all_goals exact HR.out
        case hT2 =>
          intro w' hR
          simp only [List.drop_succ_cons, List.drop_zero]
          have HR := Lib.hid hR
          have htyp := htyp w'
          clear hR
          go_upto_region 9 with (go_at_call 41; (with_reducible refine htyp.mono ?_); rintro e w4 ⟨rfl, hb4⟩; have H4 := Lib.hid (HR.out.trans (hb4.mono HR.out.size)); clear htyp hb4)
          refine Par.wp_region_par 14 [(Value.pointer (some ⟨b, 0, none⟩)), (Value.pointer (some ⟨b, 0, none⟩)), (Value.pointer (some ⟨b, 1, none⟩)), .slice (some ⟨g, 0, none⟩) 1 c, (Value.int .i64 (0)), (Value.pointer (some ⟨g, 0, none⟩)), .slice (some ⟨gr, 0, none⟩) na cr, (Value.int .i64 ((k : Int))), (Value.pointer (some ⟨gr, k * 2, none⟩)), (Value.pointer (some ⟨gr, k * 2 + 1, none⟩)), .slice (some ⟨gv, 0, none⟩) nc cv, (Value.int .i64 ((j : Int))), (Value.agg #[Value.int .i64 (kd), Value.int .i64 (n1), Value.string (s)]), (Value.pointer (some ⟨gv, j * 3, none⟩))] (fun w => Below w1.heap.size w1 w) ?A3 ?hm3 ?hB3 ?hA3 ((below_on H4.out (below_drew w4))) ?hop3 ?hT3
          case hm3 => kernel_rfl
          case hB3 => kernel_rfl
          case hA3 =>
            simp only [Par.putA, Par.dstAt, Act.put, List.getElem?_toArray, List.getElem?_cons_zero, List.getElem?_cons_succ, Option.bind_some, List.setIfInBounds_toArray, List.set_cons_zero, List.set_cons_succ, List.getD_cons_zero, List.getD_cons_succ]
            rfl
          case hop3 =>
            simp only [List.take_succ_cons, List.take_zero, Par.GiveAll, and_true]
            refine ⟨fun w' hR => ?_, fun w' hR => ?_, fun w' hR => ?_, fun w' hR => ?_, fun w' hR => ?_, fun w' hR => ?_, fun w' hR => ?_, fun w' hR => ?_, fun w' hR => ?_, fun w' hR => ?_, fun w' hR => ?_, fun w' hR => ?_, fun w' hR => ?_, fun w' hR => ?_⟩
            · have HR := Lib.hid hR
              clear hR
              simp only [Par.Gives]
              go_simp
              all_goals exact HR.out
            · have HR := Lib.hid hR
              have zl := (HF.out w' hR).2.2.1
              clear hR
              simp only [Par.Gives]
              go_simp
              all_goals exact HR.out
            · have HR := Lib.hid hR
              have zl := (HF.out w' hR).2.2.1
              clear hR
              simp only [Par.Gives]
              go_simp
              all_goals exact HR.out
            · have HR := Lib.hid hR
              have x0 := (HO.out w' hR).1
              clear hR
              simp only [Par.Gives]
              go_simp
              all_goals exact HR.out
            · have HR := Lib.hid hR
              clear hR
              simp only [Par.Gives]
              go_simp
              all_goals exact HR.out
            · have HR := Lib.hid hR
              clear hR
              simp only [Par.Gives]
              go_simp
              all_goals exact HR.out
            · have HR := Lib.hid hR
              have x0 := (HO.out w' hR).2.1
              clear hR
              simp only [Par.Gives]
              go_simp
              all_goals exact HR.out
            · have HR := Lib.hid hR
              clear hR
              simp only [Par.Gives]
              go_simp
              all_goals exact HR.out
            · have HR := Lib.hid hR
              clear hR
              simp only [Par.Gives]
              go_simp
              all_goals exact HR.out
            · have HR := Lib.hid hR
              have zl := (HO.out w' hR).2.2.2.2.2.1
              clear hR
              simp only [Par.Gives]
              go_simp
              all_goals exact HR.out
            · have HR := Lib.hid hR
              have x0 := (HO.out w' hR).2.2.1
              clear hR
              simp only [Par.Gives]
              go_simp
              all_goals exact HR.out
            · have HR := Lib.hid hR
              clear hR
              simp only [Par.Gives]
              go_simp
              all_goals exact HR.out
            · have HR := Lib.hid hR
              have x0 := nd_cell (HX.out w' hR).2.1 0
              have x1 := nd_cell (HX.out w' hR).2.1 1
              have x2 := nd_cell (HX.out w' hR).2.1 2
              clear hR
              simp only [Par.Gives]
              go_simp
              all_goals exact HR.out
            · have HR := Lib.hid hR
              clear hR
              simp only [Par.Gives]
              go_simp
              all_goals exact HR.out
          case hT3 =>
            intro w' hR
            simp only [List.drop_succ_cons, List.drop_zero]
            have HR2 := Lib.hid hR
            obtain ⟨_, _, _, _, _, _, q7⟩ := HO.out _ hR
            have y0 := q7.cell (j := j * 3) (List.getElem?_eq_getElem (by rw [H0.out]; omega))
            have y1 := q7.cell (j := j * 3 + 1) (List.getElem?_eq_getElem (by rw [H0.out]; omega))
            have y2 := q7.cell (j := j * 3 + 2) (List.getElem?_eq_getElem (by rw [H0.out]; omega))
            have yf := fun m => q7.frozenAt m
            have yl := (HRow.lt q7 gv rfl).2
            clear hR q7
            go_wp2_with fail
            go_ret
            obtain ⟨d1, _, d3⟩ := HX.out _ HR2.out
            obtain ⟨z1, z2⟩ := d1.setval hk (show j < t.cols.length by rw [HN.out.1]; omega) HV.out kd n1 s
            rw [e2] at z1
            refine ⟨rfl, ?_, (Tn.of_below (S := fun _ => False) d3).trans z2 (fun _ _ h => h.elim) (fun _ _ h => h)⟩
            rw [Int.toNat_natCast]
            exact z1
end
end Go.Proofs.YtffpmmphpdkkbaaGreat
