/- The reference's next number, and one row more. One of the reference's rows goes. The reference's Insert where it is refused. The reference's Delete where there is no such row. -/
import Derived.Test.YtffpmmphpdkkbaaGreatMDA
namespace Go.Proofs.YtffpmmphpdkkbaaGreat
open Go Go.RowKit Go.Proofs Co Co.S
section
variable {W W' w : World} {b next : Nat} {t : T} {A : List R1} {i : DI} {lab : Nat → Nat}
theorem DbM.nextC (h : DbM W b t next A i lab) : ∃ g c, i.nv = .slice (some ⟨g, 0, none⟩) 1 c ∧ g < W.heap.size ∧ W.cell? ⟨g, 0, none⟩ = some (.int .i64 (next : Int)) ∧ W.cell? ⟨b, 2, none⟩ = some (.slice (some ⟨g, 0, none⟩) 1 c) ∧ ∀ j, W.frozen? ⟨g, j, none⟩ = false := by
  obtain ⟨g, c1, hov, _, _⟩ := h.nx.slice (by decide)
  have o := h.nx
  have x1 : W.cell? ⟨b, 2, none⟩ = some i.nv := nd_cell h.box 2
  rw [hov] at o x1
  exact ⟨g, c1, hov, (HRow.lt o g rfl).2, o.cell (j := 0) rfl, x1, fun j => o.frozenAt j⟩
/-- The next number is one more. -/
theorem DbM.setnext (h : DbM W b t next A i lab) {g c : Nat} (hg : i.nv = .slice (some ⟨g, 0, none⟩) 1 c) : DbM (W.setCell ⟨g, 0, none⟩ (.int .i64 ((next : Int) + 1))) b t (next + 1) A i lab ∧ Tn (fun q => lab q ≠ 0) W (W.setCell ⟨g, 0, none⟩ (.int .i64 ((next : Int) + 1))) := by
  have hr := h.nx
  rw [hg] at hr
  obtain ⟨h1, h2⟩ := hr.stored 0 (.int .i64 ((next : Int) + 1))
  have hl : lab g = 4 := h.l4 g (by rw [hg]; rfl)
  have hty : Ty W g := by
    obtain ⟨_, cur, hb⟩ := hr.block g rfl
    exact ⟨cur, 3, hb, rfl⟩
  generalize W.setCell ⟨g, 0, none⟩ (.int .i64 ((next : Int) + 1)) = w at h1 h2 ⊢
  have hchg : Chg (fun q => q = g) W w := ⟨h2.os, h2.tape, h2.output, h2.size, fun q hq hn => h2.block q hq (fun e => hn (by cases e; rfl))⟩
  have htn : Tn (fun q => q = g) W w := Tn.of_chg hchg (fun q _ hq => .inl (hq ▸ hty))
  have hb : ∀ q m, lab q = m → m ≠ 0 → m ≠ 4 → w.heap[q]? = W.heap[q]? := fun q m hq h0 h4 => hchg.block q (h.lt q (by rw [hq]; exact h0)) (fun e => h4 (by rw [← hq, e, hl]))
  refine ⟨⟨(hb b 1 h.l1 (by decide) (by decide)).trans h.box, h.form.tn htn rfl, h.rd.kp htn.kpX, h.outer.of (fun q hq => hb q 2 (h.l2 q hq) (by decide) (by decide)), h.rows.of (fun q hq => hb q 3 (h.l3 q hq) (by decide) (by decide)), h.n, fun m hm hm' => (h.vals m hm hm').of (fun q hq => hb q 5 (h.l5 m hm' q hq) (by decide) (by decide)), ?_, h.sep, h.l1, h.l2, h.l3, h.l4, h.l5, fun q hq => Nat.lt_of_lt_of_le (h.lt q hq) h2.size, h.len, h.srt⟩, htn.mono (fun q _ hq => by show lab q ≠ 0; rw [hq, hl]; decide)⟩
  rw [hg]
  exact h1
theorem cellsR_snoc {A : List R1} {vs : List Value} (h : vs.length = A.length) (a : R1) (v : Value) : cellsR (A ++ [a]) (vs ++ [v]) = cellsR A vs ++ [.int .i64 a.1, v] := by
  unfold cellsR
  rw [List.zip_append h.symm, List.flatMap_append]
  simp
/-- One row more: its values lie in blocks of no one, the rows are appended to, the list of rows is laid. -/
theorem DbM.addrow (h : DbM W b t next A i lab) {go co : Nat} (ho : i.ov = .slice (some ⟨go, 0, none⟩) 1 co) {id : Int} {vals : List T3} {v : Value} (hv : HRow w 0 53 3 v vals.length (cells3 vals)) (hlen : vals.length = t.cols.length)
    {g cap : Nat} (hr : HRow w 0 90 2 (.slice (some ⟨g, 0, none⟩) (A.length + 1) cap) (A.length + 1) (cellsR A i.vs ++ [.int .i64 id, v])) (hgr : W.grownBy w i.rv.ownBlock) (hg : i.rv.ownBlock = some g ∨ W.heap.size ≤ g)
    (hvb : ∀ q, v.ownBlock = some q → W.heap.size ≤ q ∧ q ≠ g) (hid : ∀ a ∈ A, a.1 < id) :
    ∃ i' lab', DbM (w.setCell ⟨go, 0, none⟩ (.slice (some ⟨g, 0, none⟩) (A.length + 1) cap)) b t next (A ++ [(id, vals)]) i' lab' ∧ Ext W lab lab' ∧ Tn (fun q => lab q ≠ 0) W (w.setCell ⟨go, 0, none⟩ (.slice (some ⟨g, 0, none⟩) (A.length + 1) cap)) := by
  have hlo : lab go = 2 := h.l2 go (by rw [ho]; rfl)
  have hgo : go < W.heap.size := h.lt go (by rw [hlo]; decide)
  have hrl : ∀ q, i.rv.ownBlock = some q → lab q = 3 := h.l3
  have hgo3 : i.rv.ownBlock ≠ some go := fun e => by have := hrl go e; rw [hlo] at this; cases this
  have hgg : go ≠ g := fun e => by
    rcases hg with h1 | h1
    · exact hgo3 (e ▸ h1)
    · omega
  have hout : HRow w 0 88 1 (.slice (some ⟨go, 0, none⟩) 1 co) 1 [i.rv] := by
    have := h.outer
    rw [ho] at this
    exact this.of (fun q hq => by cases hq; exact hgr.block go hgo (fun e => hgo3 e.symm))
  obtain ⟨s1, s2⟩ := hout.stored 0 (.slice (some ⟨g, 0, none⟩) (A.length + 1) cap)
  generalize w.setCell ⟨go, 0, none⟩ (.slice (some ⟨g, 0, none⟩) (A.length + 1) cap) = w2 at s1 s2 ⊢
  have hz : W.heap.size ≤ w2.heap.size := Nat.le_trans hgr.size s2.size
  have hother : ∀ q, q < w.heap.size → q ≠ go → w2.heap[q]? = w.heap[q]? := fun q hq hn => s2.block q hq (fun e => hn (by cases e; rfl))
  have hkeep : ∀ q m, lab q = m → m ≠ 0 → m ≠ 2 → m ≠ 3 → w2.heap[q]? = W.heap[q]? := fun q m hq h0 h2 h3 => by
    have hlt : q < W.heap.size := h.lt q (by rw [hq]; exact h0)
    rw [hother q (Nat.lt_of_lt_of_le hlt hgr.size) (fun e => h2 (by rw [← hq, e, hlo])), hgr.block q hlt (fun e => h3 (by rw [← hq]; exact hrl q e.symm))]
  have hchg : Chg (fun q => q = go ∨ i.rv.ownBlock = some q) W w2 := ⟨s2.os.trans hgr.os, s2.tape.trans hgr.tape, s2.output.trans hgr.output, hz, fun q hq hn => by
    rw [hother q (Nat.lt_of_lt_of_le hq hgr.size) (fun e => hn (.inl e)), hgr.block q hq (fun e => hn (.inr e.symm))]⟩
  have htn : Tn (fun q => q = go ∨ i.rv.ownBlock = some q) W w2 := Tn.of_chg hchg (fun q _ hq => .inl (by
    rcases hq with rfl | hq
    · obtain ⟨_, cur, hb⟩ := h.outer.block q (by rw [ho]; rfl)
      exact ⟨cur, 88, hb, rfl⟩
    · obtain ⟨_, cur, hb⟩ := h.rows.block q hq
      exact ⟨cur, 90, hb, rfl⟩))
  have hgw := (HRow.lt hr g rfl).2
  have hvl : ∀ k (hk : k < i.vs.length) q, i.vs[k].ownBlock = some q → q < W.heap.size := fun k hk q hq => h.lt q (by rw [h.l5 k hk q hq]; decide)
  have hat : ∀ k (hk : k < (i.vs ++ [v]).length), (∃ hk' : k < i.vs.length, (i.vs ++ [v])[k] = i.vs[k]) ∨ (k = i.vs.length ∧ (i.vs ++ [v])[k] = v) := fun k hk => by
    by_cases e : k < i.vs.length
    · exact .inl ⟨e, List.getElem_append_left e⟩
    · have e2 : k = i.vs.length := by simp at hk; omega
      subst e2
      exact .inr ⟨rfl, by simp⟩
  refine ⟨{ i with rv := .slice (some ⟨g, 0, none⟩) (A.length + 1) cap, vs := i.vs ++ [v] }, fun q => if q < W.heap.size then lab q else if q = g then 3 else if v.ownBlock = some q then 5 else 0,
    ⟨(hkeep b 1 h.l1 (by decide) (by decide) (by decide)).trans h.box, h.form.tn htn rfl, h.rd.kp htn.kpX, ?_, ?_, by simp [h.n], fun k hk hk' => ?_, h.nx.of (fun q hq => hkeep q 4 (h.l4 q hq) (by decide) (by decide) (by decide)), fun j k hj hk hne q hq => ?_, ?_, fun q hq => ?_, fun q hq => ?_, fun q hq => ?_, fun k hk q hq => ?_, fun q hq => ?_, fun a ha => ?_, ?_⟩, fun q hq => if_pos hq, htn.mono (fun q _ hq => ?_)⟩
  · show HRow w2 0 88 1 i.ov 1 _
    rw [ho]; exact s1
  · show HRow w2 0 90 2 (.slice (some ⟨g, 0, none⟩) (A.length + 1) cap) (A ++ [(id, vals)]).length (cellsR (A ++ [(id, vals)]) (i.vs ++ [v]))
    rw [cellsR_snoc h.n, List.length_append]
    exact hr.of (fun q hq => by cases hq; exact hother g hgw (fun e => hgg e.symm))
  · rcases hat k hk' with ⟨e1, e2⟩ | ⟨e1, e2⟩
    · have hkA : k < A.length := by rw [← h.n]; exact e1
      show HRow w2 0 53 3 ((i.vs ++ [v])[k]) _ _
      rw [e2, List.getElem_append_left hkA]
      exact (h.vals k hkA e1).of (fun q hq => hkeep q 5 (h.l5 k e1 q hq) (by decide) (by decide) (by decide))
    · show HRow w2 0 53 3 ((i.vs ++ [v])[k]) _ _
      rw [e2]
      have hkA : k = A.length := e1.trans h.n
      subst hkA
      have e3 : (A ++ [(id, vals)])[A.length]'hk = (id, vals) := by simp
      rw [e3]
      exact hv.of (fun q hq => hother q (HRow.lt hv q hq).2 (fun e => by have := (hvb q hq).1; omega))
  · rcases hat j hj with ⟨a1, a2⟩ | ⟨a1, a2⟩ <;> rcases hat k hk with ⟨b1, b2⟩ | ⟨b1, b2⟩
    · show (i.vs ++ [v])[k].ownBlock ≠ some q
      have hq : (i.vs ++ [v])[j].ownBlock = some q := hq
      rw [a2] at hq; rw [b2]
      exact h.sep j k a1 b1 hne q hq
    · show (i.vs ++ [v])[k].ownBlock ≠ some q
      have hq : (i.vs ++ [v])[j].ownBlock = some q := hq
      rw [a2] at hq; rw [b2]
      intro e
      have := hvl j a1 q hq
      have := (hvb q e).1
      omega
    · show (i.vs ++ [v])[k].ownBlock ≠ some q
      have hq : (i.vs ++ [v])[j].ownBlock = some q := hq
      rw [a2] at hq; rw [b2]
      intro e
      have := hvl k b1 q e
      have := (hvb q hq).1
      omega
    · omega
  · show (if b < W.heap.size then lab b else _) = 1
    rw [if_pos (lt_of_heap h.box)]; exact h.l1
  · show (if q < W.heap.size then lab q else _) = 2
    rw [if_pos (HRow.lt h.outer q hq).2]; exact h.l2 q hq
  · cases hq
    show (if g < W.heap.size then lab g else if g = g then 3 else _) = 3
    rcases hg with h1 | h1
    · rw [if_pos (h.lt g (by rw [hrl g h1]; decide))]; exact hrl g h1
    · rw [if_neg (by omega), if_pos rfl]
  · show (if q < W.heap.size then lab q else _) = 4
    rw [if_pos (HRow.lt h.nx q hq).2]; exact h.l4 q hq
  · have hq : (i.vs ++ [v])[k].ownBlock = some q := hq
    show (if q < W.heap.size then lab q else if q = g then 3 else if v.ownBlock = some q then 5 else 0) = 5
    rcases hat k hk with ⟨a1, a2⟩ | ⟨a1, a2⟩
    · rw [a2] at hq
      rw [if_pos (hvl k a1 q hq)]; exact h.l5 k a1 q hq
    · rw [a2] at hq
      obtain ⟨c1, c2⟩ := hvb q hq
      rw [if_neg (by omega), if_neg c2, if_pos hq]
  · have hq : (if q < W.heap.size then lab q else if q = g then 3 else if v.ownBlock = some q then 5 else 0) ≠ 0 := hq
    by_cases e1 : q < W.heap.size
    · omega
    · rw [if_neg e1] at hq
      by_cases e2 : q = g
      · rw [e2]; exact Nat.lt_of_lt_of_le hgw s2.size
      · rw [if_neg e2] at hq
        by_cases e3 : v.ownBlock = some q
        · exact Nat.lt_of_lt_of_le (HRow.lt hv q e3).2 s2.size
        · rw [if_neg e3] at hq; exact absurd rfl hq
  · rcases List.mem_append.1 ha with ha | ha
    · exact h.len a ha
    · rw [List.mem_singleton.1 ha]; exact hlen
  · rw [List.pairwise_append]
    exact ⟨h.srt, List.pairwise_singleton _ _, fun a ha c hc => by rw [List.mem_singleton.1 hc]; exact hid a ha⟩
  · show lab q ≠ 0
    rcases hq with rfl | hq
    · rw [hlo]; decide
    · rw [hrl q hq]; decide
end
end Go.Proofs.YtffpmmphpdkkbaaGreat
namespace Go.Proofs.YtffpmmphpdkkbaaGreat
open Go Go.RowKit Go.Proofs Co Co.S
theorem without_erase {A : List R1} (hs : A.Pairwise (fun a b => a.1 < b.1)) {k : Nat} (hk : k < A.length) : without A A[k].1 = A.eraseIdx k := by
  unfold without
  induction A generalizing k with
  | nil => cases hk
  | cons a A ih =>
    rw [List.pairwise_cons] at hs
    cases k with
    | zero =>
      rw [List.filter_cons_of_neg (by simp)]
      show List.filter _ A = A
      rw [List.filter_eq_self]
      intro c hc
      have := hs.1 c hc
      simp; omega
    | succ k =>
      have hk' : k < A.length := by simpa using hk
      have := hs.1 A[k] (List.getElem_mem hk')
      rw [List.filter_cons_of_pos (by simp; omega)]
      show a :: List.filter _ A = a :: A.eraseIdx k
      congr 1
      exact ih hs.2 hk'
theorem cellsR_erase {A : List R1} {vs : List Value} (h : vs.length = A.length) {k : Nat} (hk : k < A.length) : cellsR (A.eraseIdx k) (vs.eraseIdx k) = (cellsR A vs).take (k * 2) ++ (cellsR A vs).drop ((k + 1) * 2) := by
  unfold cellsR
  induction A generalizing vs k with
  | nil => cases hk
  | cons a A ih =>
    cases vs with
    | nil => cases h
    | cons v vs =>
      cases k with
      | zero => simp
      | succ k =>
        have hk' : k < A.length := by simpa using hk
        have h' : vs.length = A.length := by simpa using h
        simp only [List.eraseIdx_cons_succ, List.zip_cons_cons, List.flatMap_cons]
        rw [ih h' hk', show (k + 1) * 2 = k * 2 + 1 + 1 by omega, show (k + 1 + 1) * 2 = (k + 1) * 2 + 1 + 1 by omega]
        simp [show (k + 1) * 2 = k * 2 + 1 + 1 by omega]
section
variable {W w : World} {b next : Nat} {t : T} {A : List R1} {i : DI} {lab : Nat → Nat}
/-- A row goes: the rows are laid anew. -/
theorem DbM.delrow (h : DbM W b t next A i lab) {go co : Nat} (ho : i.ov = .slice (some ⟨go, 0, none⟩) 1 co) {k : Nat} (hk : k < A.length) {rv : Value} (hr : HRow w 0 90 2 rv (A.length - 1) ((cellsR A i.vs).take (k * 2) ++ (cellsR A i.vs).drop ((k + 1) * 2)))
    (hb : Below W.heap.size W w) (hf : ∀ q, rv.ownBlock = some q → W.heap.size ≤ q) :
    ∃ i' lab', DbM (w.setCell ⟨go, 0, none⟩ rv) b t next (without A A[k].1) i' lab' ∧ Ext W lab lab' ∧ Tn (fun q => lab q ≠ 0) W (w.setCell ⟨go, 0, none⟩ rv) := by
  rw [without_erase h.srt hk]
  have hk' : k < i.vs.length := by rw [h.n]; exact hk
  have hlo : lab go = 2 := h.l2 go (by rw [ho]; rfl)
  have hgo : go < W.heap.size := h.lt go (by rw [hlo]; decide)
  have hout : HRow w 0 88 1 (.slice (some ⟨go, 0, none⟩) 1 co) 1 [i.rv] := by
    have := (h.later hb).outer
    rw [ho] at this
    exact this
  obtain ⟨s1, s2⟩ := hout.stored 0 rv
  generalize w.setCell ⟨go, 0, none⟩ rv = w2 at s1 s2 ⊢
  have hz : W.heap.size ≤ w2.heap.size := Nat.le_trans hb.size s2.size
  have hother : ∀ q, q < w.heap.size → q ≠ go → w2.heap[q]? = w.heap[q]? := fun q hq hn => s2.block q hq (fun e => hn (by cases e; rfl))
  have hkeep : ∀ q m, lab q = m → m ≠ 0 → m ≠ 2 → w2.heap[q]? = W.heap[q]? := fun q m hq h0 h2 => by
    have hlt : q < W.heap.size := h.lt q (by rw [hq]; exact h0)
    rw [hother q (Nat.lt_of_lt_of_le hlt hb.size) (fun e => h2 (by rw [← hq, e, hlo])), hb.block q hlt]
  have hchg : Chg (fun q => q = go) W w2 := ⟨s2.os.trans hb.os, s2.tape.trans hb.tape, s2.output.trans hb.output, hz, fun q hq hn => by
    rw [hother q (Nat.lt_of_lt_of_le hq hb.size) hn, hb.block q hq]⟩
  have htn : Tn (fun q => q = go) W w2 := Tn.of_chg hchg (fun q _ hq => .inl (by
    obtain ⟨_, cur, hb⟩ := h.outer.block q (by rw [ho, hq]; rfl)
    exact ⟨cur, 88, hb, rfl⟩))
  have hgl : ∀ q, rv.ownBlock = some q → q < w.heap.size := fun q hq => (HRow.lt hr q hq).2
  have hvl : ∀ k (hk : k < i.vs.length) q, i.vs[k].ownBlock = some q → q < W.heap.size := fun k hk q hq => h.lt q (by rw [h.l5 k hk q hq]; decide)
  have hat : ∀ j (hj : j < (i.vs.eraseIdx k).length), ∃ m, ∃ hm : m < i.vs.length, (i.vs.eraseIdx k)[j] = i.vs[m] ∧ (∀ (hA : j < (A.eraseIdx k).length), ∃ hm' : m < A.length, (A.eraseIdx k)[j] = A[m]) ∧ m = if j < k then j else j + 1 := fun j hj => by
    have hlv : (i.vs.eraseIdx k).length = i.vs.length - 1 := List.length_eraseIdx_of_lt hk'
    by_cases e : j < k
    · refine ⟨j, by omega, by rw [List.getElem_eraseIdx_of_lt _ e], fun hA => ⟨by omega, by rw [List.getElem_eraseIdx_of_lt _ e]⟩, by rw [if_pos e]⟩
    · refine ⟨j + 1, by omega, by rw [List.getElem_eraseIdx_of_ge _ (by omega)], fun hA => ⟨by have := h.n; omega, by rw [List.getElem_eraseIdx_of_ge _ (by omega)]⟩, by rw [if_neg e]⟩
  refine ⟨{ i with rv := rv, vs := i.vs.eraseIdx k }, fun q => if q < W.heap.size then lab q else if rv.ownBlock = some q then 3 else 0,
    ⟨(hkeep b 1 h.l1 (by decide) (by decide)).trans h.box, h.form.tn htn rfl, h.rd.kp htn.kpX, ?_, ?_, by rw [List.length_eraseIdx_of_lt hk, List.length_eraseIdx_of_lt hk', h.n], fun j hj hj' => ?_, h.nx.of (fun q hq => hkeep q 4 (h.l4 q hq) (by decide) (by decide)), fun j m hj hm hne q hq => ?_, ?_, fun q hq => ?_, fun q hq => ?_, fun q hq => ?_, fun j hj q hq => ?_, fun q hq => ?_, fun a ha => h.len a (List.mem_of_mem_eraseIdx ha), h.srt.sublist (List.eraseIdx_sublist _ _)⟩, fun q hq => if_pos hq, htn.mono (fun q _ hq => by show lab q ≠ 0; rw [hq, hlo]; decide)⟩
  · show HRow w2 0 88 1 i.ov 1 _
    rw [ho]; exact s1
  · show HRow w2 0 90 2 rv (A.eraseIdx k).length (cellsR (A.eraseIdx k) (i.vs.eraseIdx k))
    rw [cellsR_erase h.n hk, List.length_eraseIdx_of_lt hk]
    exact hr.of (fun q hq => hother q (hgl q hq) (fun e => by have := hf q hq; omega))
  · obtain ⟨m, hm, e1, e2, _⟩ := hat j hj'
    obtain ⟨hm', e2⟩ := e2 hj
    show HRow w2 0 53 3 ((i.vs.eraseIdx k)[j]) _ _
    rw [e1, e2]
    exact (h.vals m hm' hm).of (fun q hq => hkeep q 5 (h.l5 m hm q hq) (by decide) (by decide))
  · obtain ⟨a, ha, e1, _, e3⟩ := hat j hj
    obtain ⟨c, hc, e4, _, e5⟩ := hat m hm
    have hq : (i.vs.eraseIdx k)[j].ownBlock = some q := hq
    show (i.vs.eraseIdx k)[m].ownBlock ≠ some q
    rw [e1] at hq
    rw [e4]
    refine h.sep a c ha hc (fun e => hne ?_) q hq
    rw [e3, e5] at e
    split at e <;> split at e <;> omega
  · show (if b < W.heap.size then lab b else _) = 1
    rw [if_pos (lt_of_heap h.box)]; exact h.l1
  · show (if q < W.heap.size then lab q else _) = 2
    rw [if_pos (HRow.lt h.outer q hq).2]; exact h.l2 q hq
  · have hq : rv.ownBlock = some q := hq
    show (if q < W.heap.size then lab q else if rv.ownBlock = some q then 3 else 0) = 3
    rw [if_neg (by have := hf q hq; omega), if_pos hq]
  · show (if q < W.heap.size then lab q else _) = 4
    rw [if_pos (HRow.lt h.nx q hq).2]; exact h.l4 q hq
  · obtain ⟨m, hm, e1, _, _⟩ := hat j hj
    have hq : (i.vs.eraseIdx k)[j].ownBlock = some q := hq
    rw [e1] at hq
    show (if q < W.heap.size then lab q else _) = 5
    rw [if_pos (hvl m hm q hq)]; exact h.l5 m hm q hq
  · have hq : (if q < W.heap.size then lab q else if rv.ownBlock = some q then 3 else 0) ≠ 0 := hq
    by_cases e1 : q < W.heap.size
    · omega
    · rw [if_neg e1] at hq
      by_cases e3 : rv.ownBlock = some q
      · exact Nat.lt_of_lt_of_le (hgl q e3) s2.size
      · rw [if_neg e3] at hq; exact absurd rfl hq
end
end Go.Proofs.YtffpmmphpdkkbaaGreat
namespace Go.Proofs.YtffpmmphpdkkbaaGreat
open Go Go.RowKit Go.Proofs Co Co.S
section
variable {W : World} {b next : Nat} {t : T} {A : List R1} {i : DI} {lab : Nat → Nat}
/-- What Insert reads of a form, and of one of its columns. -/
theorem DbM.formR (h : DbM W b t next A i lab) : ∃ gs cs pc kc, ∀ w, Below W.heap.size W w → w.cell? ⟨b, 0, none⟩ = some (.slice (some ⟨gs, 0, none⟩) 1 cs) ∧ w.cell? ⟨gs, 1, none⟩ = some (.slice pc t.cols.length kc) ∧ b < w.heap.size ∧ gs < w.heap.size ∧ RdC w (.slice pc t.cols.length kc) t.cols := by
  obtain ⟨gs, cs, f1, f2, f3, f4, f5, f6, f7⟩ := h.formC
  obtain ⟨pc, kc, hfc, _, _⟩ := h.rd.1.slice
  refine ⟨gs, cs, pc, kc, fun w hb => ?_⟩
  have h2 := h.later hb
  obtain ⟨gs', cs', a1, a2, a3, a4, a5, a6, a7⟩ := h2.formC
  rw [f1] at a1
  cases a1
  have hr := h2.rd.1
  rw [hfc] at a4 hr
  exact ⟨a7, a4, lt_of_heap h2.box, a2, hr⟩
set_option maxRecDepth 100000 in
set_option maxHeartbeats 8000000 in
theorem dins_no {S : Nat → Prop} {vv : Value} {vals : List T3} (h : DbM W b t next A i lab) (hv : InV S W vv vals) (hs : ∀ x ∈ vals, x.2.2.size ≤ maxLen) (hc : t.cols.length ≤ 1000) (hl : vals.length ≤ 1000000) (hno : insE t vals ≠ 0) :
    Calls Tryz.prog 15 #[(Value.pointer (some ⟨b, 0, none⟩)), .int .i64 0, vv] W fun e w' => e = .returned (.tuple #[.int .i64 0, .int .i64 (insE t vals)]) ∧ Below W.heap.size W w' := by
  obtain ⟨gs, cs, pc, kc, hF⟩ := h.formR
  obtain ⟨p, cap, rfl, _, _⟩ := hv.slice
  obtain ⟨n, hn⟩ : ∃ n, vals.length = n := ⟨_, rfl⟩
  obtain ⟨nc, hnc⟩ : ∃ n, t.cols.length = n := ⟨_, rfl⟩
  have hni : (n : Int) ≤ 1000000 := by omega
  have hnci : (nc : Int) ≤ 1000 := by omega
  obtain ⟨d1, d2, d3, d4, _⟩ := hF W (Below.refl _ _)
  rw [hnc] at d2
  by_cases hne : vals.length = t.cols.length
  · have hok : okVals t vals = false := by
      cases h1 : okVals t vals with
      | false => rfl
      | true => exact absurd (by unfold insE; rw [if_neg (by omega), h1]; rfl) hno
    have hE : insE t vals = 4 := by unfold insE; rw [if_neg (by omega), hok]; rfl
    rw [hE, hn]
    obtain rfl : n = nc := by omega
    have HF := Lib.hid hF
    have HV := Lib.hid hv
    have HS := Lib.hid hs
    have HN := Lib.hid (And.intro hn (And.intro hnc hok))
    clear h hF hv hs hno hE hok hn hc hl hne
    go_enter Tryz.func15, Tryz.ntmps15
    go_wp2_with fail
    go_loopg [8] (n + 1) (fun gh jv w => ∃ (j : Nat), jv = .int .i64 (j : Int) ∧ j ≤ n ∧ n + 1 ≤ j + gh ∧ (∀ m, m < j → cOk t vals m = true) ∧ Below W.heap.size W w)
    case atStart => exact ⟨0, rfl, Nat.zero_le _, by omega, fun m hm => absurd hm (Nat.not_lt_zero m), Below.refl _ _⟩
    case round =>
      obtain ⟨j, rfl, hj, hg, hA, hB⟩ := hrel
      by_cases hlt : j < n
      · have hji : (j : Int) < (n : Int) := by omega
        have hjc : j < t.cols.length := by rw [HN.out.2.1]; exact hlt
        have hjv : j < vals.length := by rw [HN.out.1]; exact hlt
        obtain ⟨b1, o1, rfl, _, y⟩ := (HV.out.later hB).val hjv
        obtain ⟨e1, e2, e3, e4, e5⟩ := HF.out wr hB
        obtain ⟨b2, o2, rfl, _, z⟩ := RdC.col e5 hjc
        obtain ⟨u, hu⟩ : ∃ u, vals[j] = u := ⟨_, rfl⟩
        obtain ⟨c, hcc⟩ : ∃ c, t.cols[j] = c := ⟨_, rfl⟩
        have hsz := HS.out _ (List.getElem_mem hjv)
        rw [hu] at y hsz
        rw [hcc] at z
        rw [HN.out.2.1] at e2
        have hcok : cOk t vals j = inC c.kd u := by rw [cOk_at hjc hjv, hu, hcc]
        have tr0 : ∀ w, Below wr.heap.size wr w → ∀ {a : Addr} {v : Value}, wr.cell? a = some v → w.cell? a = some v := fun w hb {a v} h => (World.cell?_of_block (w := wr) (hb.block _ (World.block_lt_of_cell? _ _ h))).trans h
        have HC : Hid (∀ w, Below wr.heap.size wr w → (w.cell? ⟨b1, o1 + j * 3, none⟩ = some (.int .i64 u.1) ∧ w.cell? ⟨b1, o1 + j * 3 + 1, none⟩ = some (.int .i64 u.2.1) ∧ w.cell? ⟨b1, o1 + j * 3 + 2, none⟩ = some (.string u.2.2)) ∧
            (w.cell? ⟨b, 0, none⟩ = some (.slice (some ⟨gs, 0, none⟩) 1 cs) ∧ w.cell? ⟨gs, 1, none⟩ = some (.slice (some ⟨b2, o2, none⟩) n kc)) ∧ (b < w.heap.size ∧ gs < w.heap.size) ∧
            (w.cell? ⟨b2, o2 + j * 4, none⟩ = some (.string c.nm) ∧ w.cell? ⟨b2, o2 + j * 4 + 1, none⟩ = some (.int .i64 c.kd) ∧ w.cell? ⟨b2, o2 + j * 4 + 2, none⟩ = some (.bool c.mu) ∧ w.cell? ⟨b2, o2 + j * 4 + 3, none⟩ = some (.string c.tgt))) := Lib.hid (fun w hb =>
          ⟨⟨tr0 w hb y.1, tr0 w hb y.2.1, tr0 w hb y.2.2⟩, ⟨tr0 w hb e1, tr0 w hb e2⟩, ⟨Nat.lt_of_lt_of_le e3 hb.size, Nat.lt_of_lt_of_le e4 hb.size⟩, ⟨tr0 w hb z.1, tr0 w hb z.2.1, tr0 w hb z.2.2.1, tr0 w hb z.2.2.2⟩⟩)
        have htyp := fun w => typed_any u.1 u.2.1 u.2.2 c w hsz
        have HB := Lib.hid (And.intro hB (And.intro hA hcok))
        clear hB hA y z e1 e2 e3 e4 e5 hu hcc hsz tr0 hcok d1 d2 d3 d4
        go_upto_region 6 with fail
        refine Par.wp_region_par 15 [.slice (some ⟨b1, o1, none⟩) n cap, (Value.int .i64 ((j : Int))), (Value.pointer (some ⟨b1, o1 + j * 3, none⟩)), (Value.agg #[Value.int .i64 (u.1), Value.int .i64 (u.2.1), Value.string (u.2.2)]), (Value.pointer (some ⟨b, 0, none⟩)), (Value.pointer (some ⟨b, 0, none⟩)), (Value.pointer (some ⟨b, 0, none⟩)), .slice (some ⟨gs, 0, none⟩) 1 cs, (Value.int .i64 (0)), (Value.pointer (some ⟨gs, 0, none⟩)), (Value.pointer (some ⟨gs, 1, none⟩)), .slice (some ⟨b2, o2, none⟩) n kc, (Value.int .i64 ((j : Int))), (Value.pointer (some ⟨b2, o2 + j * 4, none⟩)), .agg #[.string c.nm, .int .i64 c.kd, .bool c.mu, .string c.tgt]] (fun w => Below wr.heap.size wr w) ?A1 ?hm1 ?hB1 ?hA1 ((below_drew wr)) ?hop1 ?hT1
        case hm1 => kernel_rfl
        case hB1 => kernel_rfl
        case hA1 =>
          simp only [Par.putA, Par.dstAt, Act.put, List.getElem?_toArray, List.getElem?_cons_zero, List.getElem?_cons_succ, Option.bind_some, List.setIfInBounds_toArray, List.set_cons_zero, List.set_cons_succ, List.getD_cons_zero, List.getD_cons_succ]
          rfl
        case hop1 =>
          simp only [List.take_succ_cons, List.take_zero, Par.GiveAll, and_true]
          refine ⟨fun w' hR => ?_, fun w' hR => ?_, fun w' hR => ?_, fun w' hR => ?_, fun w' hR => ?_, fun w' hR => ?_, fun w' hR => ?_, fun w' hR => ?_, fun w' hR => ?_, fun w' hR => ?_, fun w' hR => ?_, fun w' hR => ?_, fun w' hR => ?_, fun w' hR => ?_, fun w' hR => ?_⟩
          · have HR := Lib.hid hR
            clear hR
            simp only [Par.Gives]
            go_simp
            all_goals exact HR.out
          · have HR := Lib.hid hR
            clear hR
            simp only [Par.Gives]
            go_simp
            all_goals exact HR.out
          · have HR := Lib.hid hR
            clear hR
            simp only [Par.Gives]
            go_simp
            all_goals exact HR.out
          · have HR := Lib.hid hR
            have x0 := (HC.out w' hR).1.1
            have x1 := (HC.out w' hR).1.2.1
            have x2 := (HC.out w' hR).1.2.2
            clear hR
            simp only [Par.Gives]
            go_simp
            all_goals exact HR.out
          · have HR := Lib.hid hR
            clear hR
            simp only [Par.Gives]
            go_simp
            all_goals exact HR.out
          · have HR := Lib.hid hR
            have zl := (HC.out w' hR).2.2.1.1
            clear hR
            simp only [Par.Gives]
            go_simp
            all_goals exact HR.out
          · have HR := Lib.hid hR
            have zl := (HC.out w' hR).2.2.1.1
            clear hR
            simp only [Par.Gives]
            go_simp
            all_goals exact HR.out
          · have HR := Lib.hid hR
            have x0 := (HC.out w' hR).2.1.1
            clear hR
            simp only [Par.Gives]
            go_simp
            all_goals exact HR.out
          · have HR := Lib.hid hR
            clear hR
            simp only [Par.Gives]
            go_simp
            all_goals exact HR.out
          · have HR := Lib.hid hR
            clear hR
            simp only [Par.Gives]
            go_simp
            all_goals exact HR.out
          · have HR := Lib.hid hR
            have zl := (HC.out w' hR).2.2.1.2
            clear hR
            simp only [Par.Gives]
            go_simp
            all_goals exact HR.out
          · have HR := Lib.hid hR
            have x0 := (HC.out w' hR).2.1.2
            clear hR
            simp only [Par.Gives]
            go_simp
            all_goals exact HR.out
          · have HR := Lib.hid hR
            clear hR
            simp only [Par.Gives]
            go_simp
            all_goals exact HR.out
          · have HR := Lib.hid hR
            clear hR
            simp only [Par.Gives]
            go_simp
            all_goals exact HR.out
          · have HR := Lib.hid hR
            have x0 := (HC.out w' hR).2.2.2.1
            have x1 := (HC.out w' hR).2.2.2.2.1
            have x2 := (HC.out w' hR).2.2.2.2.2.1
            have x3 := (HC.out w' hR).2.2.2.2.2.2
            clear hR
            simp only [Par.Gives]
            go_simp
            all_goals exact HR.out
        case hT1 =>
          intro w' hR
          simp only [List.drop_succ_cons, List.drop_zero]
          have HR := Lib.hid hR
          have htyp := htyp w'
          clear hR
          cases hin : inC c.kd u
          · rw [show (u.1, u.2.1, u.2.2) = u from rfl, hin] at htyp
            clear hin
            go_wp2_with (go_at_call 41; (with_reducible refine htyp.mono ?_); rintro e w4 ⟨rfl, hb4⟩; have H4 := Lib.hid (below_on HB.out.1 (HR.out.trans (hb4.mono HR.out.size))); clear htyp hb4)
            go_ret2
            exact ⟨rfl, H4.out⟩
          · rw [show (u.1, u.2.1, u.2.2) = u from rfl, hin] at htyp
            have HI := Lib.hid hin
            clear hin
            go_wp2_with (go_at_call 41; (with_reducible refine htyp.mono ?_); rintro e w4 ⟨rfl, hb4⟩; have H4 := Lib.hid (below_on HB.out.1 (HR.out.trans (hb4.mono HR.out.size))); clear htyp hb4)
            go_roundg (n - j)
            case measure => omega
            case rel => exact ⟨j + 1, rfl, by omega, by omega, fun m hm => (by
              by_cases em : m = j
              · rw [em, HB.out.2.2]; exact HI.out
              · exact HB.out.2.1 m (by omega)), H4.out⟩
      · exfalso
        have hok := HN.out.2.2
        have : okVals t vals = true := range_yes fun m hm => hA m (by have := HN.out.2.1; omega)
        rw [this] at hok; cases hok
  · have hE : insE t vals = 1 := by unfold insE; rw [if_pos hne]
    have hd : ((n : Int) != (nc : Int)) = true := by simp; omega
    rw [hE, hn]
    clear h hF hv hs hno hE hn hnc hne hc hl
    go_enter Tryz.func15, Tryz.ntmps15
    go_wp2_with fail
    go_ret2
    exact ⟨rfl, Below.refl _ _⟩
end
end Go.Proofs.YtffpmmphpdkkbaaGreat
namespace Go.Proofs.YtffpmmphpdkkbaaGreat
open Go Go.RowKit Go.Proofs Co Co.S
section
variable {W : World} {b next : Nat} {t : T} {A : List R1} {i : DI} {lab : Nat → Nat}
set_option maxRecDepth 100000 in
set_option maxHeartbeats 1000000 in
theorem ddel_no (h : DbM W b t next A i lab) (hl : A.length ≤ 100000) {x : Int} (hno : ∀ a ∈ A, a.1 ≠ x) : Calls Tryz.prog 17 #[(Value.pointer (some ⟨b, 0, none⟩)), .int .i64 0, .int .i64 x] W fun e w' => e = .returned (.bool false) ∧ w' = W := by
  have hat := dat_any h hl x
  rw [atP_none (fun j hj => hno _ (List.getElem_mem hj))] at hat
  clear h hno
  go_enter Tryz.func17, Tryz.ntmps17
  go_wp2_with (go_at_call 44; (with_reducible refine hat.mono ?_); rintro e w2 ⟨rfl, hw⟩; subst w2; clear hat)
  go_ret
  exact ⟨rfl, rfl⟩
end
/-- Rows appended to nothing, or to rows of one's own. -/
theorem infoRow : (Tryz.prog.info? 90).map (fun i => (i.zero, i.size, i.bytes)) = some (some (.agg #[.int .i64 0, .slice none 0 0]), 2, 32) := by kernel_rfl
theorem one_cellsR (A : List R1) (vs : List Value) (hv : ∀ v ∈ vs, v.oneCell' = true) : ∀ u ∈ cellsR A vs, u.oneCell' = true := by
  intro u hu
  unfold cellsR at hu
  rw [List.mem_flatMap] at hu
  obtain ⟨p, hp, hx⟩ := hu
  rcases List.mem_cons.1 hx with rfl | hx
  · rfl
  · rw [List.mem_singleton.1 hx]; exact hv _ (List.of_mem_zip hp).2
/-- One row more, at its end. -/
theorem app_row (y : World) {v : Value} {m : Nat} {xs : List Value} (hr : HRow y 0 90 2 v m xs) (hm : m + 1 ≤ 1000000) (id : Int) (u : Value) (hu : u.oneCell' = true) :
    ∃ g cap w', (Builtin.append_ #[88, 88] 88 #[v, .slice (some ⟨y.heap.size, 0, none⟩) 1 1]).run Tryz.prog (y.alloc (.cells #[.int .i64 id, u] 90)) = .ok (.slice (some ⟨g, 0, none⟩) (m + 1) cap) w' ∧
      HRow w' 0 90 2 (.slice (some ⟨g, 0, none⟩) (m + 1) cap) (m + 1) (xs ++ [.int .i64 id, u]) ∧ y.grownBy w' v.ownBlock ∧ (v.ownBlock = some g ∨ y.heap.size ≤ g) :=
  app_one Tryz.underlying88 infoRow rfl (by decide) (by decide) y 0 hr hm (Nat.zero_le _) #[.int .i64 id, u] rfl (by
    intro x hx
    rcases List.mem_cons.1 hx with rfl | hx
    · rfl
    · rw [List.mem_singleton.1 hx]; exact hu)
end Go.Proofs.YtffpmmphpdkkbaaGreat
