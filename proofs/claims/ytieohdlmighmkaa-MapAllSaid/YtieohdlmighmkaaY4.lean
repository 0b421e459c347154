import Derived.Test.YtieohdlmighmkaaY3
namespace Go.Proofs.Ytieohdlmighmkaa.I
open Go Go.RowKit Go.Shelf Go.Proofs Go.Proofs.Ytieohdlmighmkaa

theorem cells2_take : ∀ (L : List (Int × Int)) (j : Nat), cells2 (L.take j) = (cells2 L).take (j * 2)
  | [], j => by simp [cells2]
  | p :: r, 0 => by simp [cells2]
  | p :: r, j + 1 => by
    have h := cells2_take r j
    rw [List.take_succ_cons]
    show (Value.int .i64 (p.1)) :: (Value.int .i64 (p.2)) :: cells2 (r.take j) = ((Value.int .i64 (p.1)) :: (Value.int .i64 (p.2)) :: cells2 r).take ((j + 1) * 2)
    rw [h, show (j + 1) * 2 = j * 2 + 1 + 1 by omega, List.take_succ_cons, List.take_succ_cons]
theorem cells2_drop : ∀ (L : List (Int × Int)) (j : Nat), cells2 (L.drop j) = (cells2 L).drop (j * 2)
  | [], j => by simp [cells2]
  | p :: r, 0 => by simp
  | p :: r, j + 1 => by
    have h := cells2_drop r j
    rw [List.drop_succ_cons, h]
    show _ = ((Value.int .i64 (p.1)) :: (Value.int .i64 (p.2)) :: cells2 r).drop ((j + 1) * 2)
    rw [show (j + 1) * 2 = j * 2 + 1 + 1 by omega, List.drop_succ_cons, List.drop_succ_cons]
theorem cells2_set : ∀ (L : List (Int × Int)) (a : Nat) (k v : Int), cells2 (L.set a (k, v)) = ((cells2 L).set (a * 2) (Value.int .i64 (k))).set (a * 2 + 1) (Value.int .i64 (v))
  | [], a, k, v => by simp [cells2]
  | p :: r, 0, k, v => rfl
  | p :: r, a + 1, k, v => by
    have h := cells2_set r a k v
    rw [List.set_cons_succ]
    show (Value.int .i64 (p.1)) :: (Value.int .i64 (p.2)) :: cells2 (r.set a (k, v)) = (((Value.int .i64 (p.1)) :: (Value.int .i64 (p.2)) :: cells2 r).set ((a + 1) * 2) _).set ((a + 1) * 2 + 1) _
    rw [h, show (a + 1) * 2 = a * 2 + 1 + 1 by omega, List.set_cons_succ, List.set_cons_succ, List.set_cons_succ, List.set_cons_succ]
abbrev HR (W : World) (mb : Nat) (v : Value) (L : List (Int × Int)) : Prop := HRow W (mb + 1) 31 2 v L.length (cells2 L)
theorem hr_pairs {w : World} {base n : Nat} {p : Option Addr} {c : Nat} {L : List (Int × Int)} (h : HRow w base 31 2 (.slice p n c) n (cells2 L)) (hn : L.length = n) : Pairs w p L := fun j hj => by
  obtain ⟨g, c', he, _⟩ := h.slice (by omega)
  cases he
  exact ⟨g, rfl, (h.lt g rfl).2, h.cell (cells2_at hj).1, h.cell (cells2_at hj).2⟩
theorem hr_set {w : World} {base n g cap : Nat} {L : List (Int × Int)} (h : HRow w base 31 2 (.slice (some ⟨g, 0, none⟩) n cap) n (cells2 L)) (a : Nat) (k v : Int) :
    HRow ((w.setCell ⟨g, a * 2, none⟩ (Value.int .i64 (k))).setCell ⟨g, a * 2 + 1, none⟩ (Value.int .i64 (v))) base 31 2 (.slice (some ⟨g, 0, none⟩) n cap) n (cells2 (L.set a (k, v))) ∧
    w.grownBy ((w.setCell ⟨g, a * 2, none⟩ (Value.int .i64 (k))).setCell ⟨g, a * 2 + 1, none⟩ (Value.int .i64 (v))) (some g) := by
  obtain ⟨h1, g1⟩ := h.stored (a * 2) (Value.int .i64 (k))
  obtain ⟨h2, g2⟩ := h1.stored (a * 2 + 1) (Value.int .i64 (v))
  rw [cells2_set]
  exact ⟨h2, g2.os.trans g1.os, g2.tape.trans g1.tape, g2.output.trans g1.output, Nat.le_trans g1.size g2.size, fun b hb hne => (g2.block b (Nat.lt_of_lt_of_le hb g1.size) hne).trans (g1.block b hb hne)⟩
/-- What moves up: all from a on. -/
abbrev movedC (L : List (Int × Int)) (a : Nat) : List Value := cells2 (L.drop a)
theorem hr_moved {w : World} {base n g cap a : Nat} {L : List (Int × Int)} (hn : L.length = n) (ha : a ≤ n) (cur : Array Value) (h : HRow w base 31 2 (.slice (some ⟨g, 0, none⟩) (n + 1) cap) (n + 1) (cells2 (L ++ [(0, 0)]))) (hg : w.heap[g]? = some (.cells cur 31 (0, 0))) (k v : Int) :
    ∃ M : List (Int × Int), M.length = n + 1 ∧ M.set a (k, v) = L.take a ++ (k, v) :: L.drop a ∧
    HRow (w.setRow g (cur.toList.take ((a + 1) * 2) ++ movedC L a ++ cur.toList.drop ((a + 1) * 2 + (movedC L a).length)).toArray) base 31 2 (.slice (some ⟨g, 0, none⟩) (n + 1) cap) (n + 1) (cells2 M) := by
  have hm : (movedC L a).length = (n - a) * 2 := by rw [cells2_len, List.length_drop, hn]
  have hs := h.spliced cur hg ((a + 1) * 2) (movedC L a) (by rw [hm]; omega)
  refine ⟨(L ++ [(0, 0)]).take (a + 1) ++ L.drop a, by simp; omega, ?_, ?_⟩
  · have e : (L ++ [(0, 0)]).take (a + 1) = (L ++ [(0, 0)]).take a ++ [(L ++ [(0, 0)])[a]'(by simp; omega)] := List.take_succ_eq_append_getElem _
    rw [e, List.take_append_of_le_length (by omega)]
    have hl : (L.take a).length = a := by simp; omega
    generalize (L ++ [(0, 0)])[a]'_ = z
    rw [List.append_assoc, List.set_append_right _ _ (by omega), hl]
    simp
  · have hz : (cells2 (L ++ [(0, 0)])).drop ((a + 1) * 2 + (movedC L a).length) = [] := List.drop_eq_nil_of_le (by rw [hm, cells2_len]; simp; omega)
    rw [hz, List.append_nil] at hs
    rw [cells2_append, cells2_take]
    exact hs
theorem moved_src {w : World} {base n g cap : Nat} {L : List (Int × Int)} (h : HRow w base 31 2 (.slice (some ⟨g, 0, none⟩) (n + 1) cap) (n + 1) (cells2 (L ++ [(0, 0)]))) (a : Nat) :
    ∀ j u, (movedC L a)[j]? = some u → w.cell? ((⟨g, a * 2, none⟩ : Addr).add j) = some u := fun j u hj => by
  rw [Addr.add_lit]
  refine h.cell ?_
  rw [cells2_append]
  unfold movedC at hj
  rw [cells2_drop, List.getElem?_drop] at hj
  rw [List.getElem?_append_left (List.getElem?_eq_some_iff.1 hj).1]
  exact hj
theorem cells2_one (L : List (Int × Int)) : ∀ u ∈ cells2 L, u.oneCell' = true := by
  induction L with
  | nil => intro u hu; simp [cells2] at hu
  | cons p r ih =>
    intro u hu
    have e : cells2 (p :: r) = (Value.int .i64 (p.1)) :: (Value.int .i64 (p.2)) :: cells2 r := rfl
    rw [e, List.mem_cons, List.mem_cons] at hu
    rcases hu with rfl | rfl | hu
    · rfl
    · rfl
    · exact ih u hu
theorem hr_cut_eq (L : List (Int × Int)) (a : Nat) : (cells2 L).take (a * 2) ++ (cells2 L).drop ((a + 1) * 2) = cells2 (L.eraseIdx a) := by
  rw [← cells2_take, ← cells2_drop, ← cells2_append, List.eraseIdx_eq_take_drop_succ]
theorem below_ins {k v : Int} : ∀ (L : List (Int × Int)), below (fun x => x) k (insL (fun x => x) k v L) = below (fun x => x) k L
  | [] => by simp [insL, below]
  | (a, w) :: r => by
    have ih := below_ins (k := k) (v := v) r
    rw [insL]
    by_cases h1 : k < a
    · rw [if_pos h1, below, if_neg (by omega), below, if_neg (by omega)]
    · by_cases h2 : a < k
      · rw [if_neg h1, if_pos h2, below, if_pos h2, ih, below, if_pos h2]
      · rw [if_neg h1, if_neg h2, below, below]
theorem below_del {k : Int} : ∀ {L : List (Int × Int)}, Srt (fun x => x) L → below (fun x => x) k (delL (fun x => x) k L) = below (fun x => x) k L
  | [], _ => rfl
  | (a, w) :: r, h => by
    unfold Srt at h
    rw [List.pairwise_cons] at h
    have ih := below_del (k := k) (L := r) h.2
    rw [delL]
    by_cases h1 : a = k
    · rw [if_pos h1, below, if_neg (by omega)]
      cases r with
      | nil => rfl
      | cons p r =>
        have h2 : a < p.1 := h.1 p (by simp)
        rw [below, if_neg (by omega)]
    · rw [if_neg h1, below, below, ih]
theorem size31 : (Try.prog.info? 31).map (·.size) = some 2 := by kernel_rfl
theorem del_new {k : Int} : ∀ {L : List (Int × Int)}, getL (fun x => x) k L = none → delL (fun x => x) k L = L
  | [], _ => rfl
  | (a, w) :: r, h => by
    rw [getL] at h
    by_cases h1 : a = k
    · rw [if_pos h1] at h; cases h
    · rw [if_neg h1] at h
      rw [delL, if_neg h1, del_new h]
/-- The map and the operation behind an append to the row. -/
theorem after_app {D : Nat} {W0 : World} {f : Nat} {lb : Array Value} {mb n ob : Nat} {L M : List (Int × Int)} {y y2 : World} {v : Value} {o : Obj} {C : Array Value} (m : Mp D W0 f lb (fun x => x) mb M y) (r : HRow y (mb + 1) 31 2 v n (cells2 L)) (k : y.heap[ob]? = some (.cells C 29))
    (g2 : (y.alloc o).grownBy y2 v.ownBlock) : Mp D W0 f lb (fun x => x) mb M y2 ∧ y2.heap[ob]? = some (.cells C 29) := by
  have r' := r.later (below_alloc y o)
  have hk : (y.alloc o).heap[ob]? = some (.cells C 29) := (Below.heap_alloc y o ob (lt_of_heap k)).trans k
  refine ⟨(m.later (below_alloc y o)).row g2 (fun q hq => ?_), (g2.block ob (lt_of_heap hk) (fun e => ?_)).trans hk⟩
  · obtain ⟨h1, h2⟩ := r'.block q hq
    exact ⟨by omega, h2⟩
  · obtain ⟨_, cur, h2⟩ := r'.block ob e.symm
    rw [hk] at h2; cases h2
theorem after_set {D : Nat} {W0 : World} {f : Nat} {lb : Array Value} {mb ob g : Nat} {M : List (Int × Int)} {y y2 : World} {C cur : Array Value} (m : Mp D W0 f lb (fun x => x) mb M y) (k : y.heap[ob]? = some (.cells C 29)) (hmg : mb + 1 ≤ g) (hg : y.heap[g]? = some (.cells cur 31))
    (g2 : y.grownBy y2 (some g)) : Mp D W0 f lb (fun x => x) mb M y2 ∧ y2.heap[ob]? = some (.cells C 29) := by
  refine ⟨m.row g2 (fun q hq => by cases hq; exact ⟨by omega, cur, hg⟩), (g2.block ob (lt_of_heap k) (fun e => ?_)).trans k⟩
  cases e
  rw [k] at hg; cases hg
theorem grown_setRow (w : World) (g : Nat) (cs : Array Value) : w.grownBy (w.drew.setRow g cs) (some g) :=
  ⟨rfl, rfl, rfl, by simp, fun k _ hk => setRow_other w.drew g k cs (fun e => hk (by rw [e]))⟩
end Go.Proofs.Ytieohdlmighmkaa.I
