/- A Schema beside a row of tables. -/
import Derived.Test.YtmfkkpogmmoflaaGreatRC
namespace Go.Proofs.YtmfkkpogmmoflaaGreat
open Go Go.RowKit Go.Proofs

/-- The law's Schema, and all that was there ahead of the law. -/
structure St (S : Nat) (W : World) (ts : List T) (w : World) : Prop where
  sch : Sch w S ts
  below : Below W.heap.size W w
  le : W.heap.size ≤ S
section
variable {S : Nat} {W w w' : World} {ts ts' : List T}
theorem St.on (h : St S W ts w) (hb : Below w.heap.size w w') : St S W ts w' := ⟨h.sch.later hb, below_on h.below hb, h.le⟩
theorem St.add (h : St S W ts w) (hs : Sch w' S ts') (hc : Chg (fun b => b = S) w w') : St S W ts' w' := ⟨hs, h.below.trans (hc.under h.below.size h.le), h.le⟩
theorem St.new (hb : Below W.heap.size W w) (hs : Sch w' w.heap.size []) (hb2 : Below w.heap.size w w') : St w.heap.size W [] w' := ⟨hs, below_on hb hb2, hb.size⟩
end

theorem Kp.chg {w w' : World} {S : Nat} {ts : List T} (hs : Sch w S ts) (hc : Chg (fun b => b = S) w w') : Kp w w' := by
  obtain ⟨_, xs, rest, h59, _⟩ := hs
  intro q cur e m hq h1 h2
  exact (hc.block q (lt_of_heap hq) (fun eq => by
    have eq : q = S := eq
    rw [eq, h59] at hq
    cases hq
    exact h1 rfl)).trans hq
theorem Kp.grown {w w' : World} {base n : Nat} {v : Value} {xs : List Value} (hr : HRow w base 46 4 v n xs) (hg : w.grownBy w' v.ownBlock) : Kp w w' := by
  intro q cur e m hq h1 h2
  refine (hg.block q (lt_of_heap hq) (fun eq => ?_)).trans hq
  obtain ⟨_, c, hb⟩ := hr.block q eq.symm
  rw [hb] at hq
  cases hq
  exact h2 rfl
structure LSt (S : Nat) (W : World) (ts us : List T) (v : Value) (xs : List Value) (w : World) : Prop where
  st : St S W ts w
  row : HRow w W.heap.size 46 4 v us.length xs
  tabs : TabsC w xs us
section
variable {S : Nat} {W w w' : World} {ts us ts' : List T} {v : Value} {xs : List Value}
theorem LSt.on (h : LSt S W ts us v xs w) (hb : Below w.heap.size w w') : LSt S W ts us v xs w' := ⟨h.st.on hb, h.row.later hb, h.tabs.kp (.below hb)⟩
theorem LSt.add (h : LSt S W ts us v xs w) (hs : Sch w' S ts') (hc : Chg (fun b => b = S) w w') : LSt S W ts' us v xs w' := by
  refine ⟨h.st.add hs hc, h.row.of (fun k hk => hc.block k (h.row.lt k hk).2 (fun eq => ?_)), h.tabs.kp (Kp.chg h.st.sch hc)⟩
  have eq : k = S := eq
  obtain ⟨_, ys, rest, h59, _⟩ := h.st.sch
  obtain ⟨_, c, hb⟩ := h.row.block k hk
  rw [eq, h59] at hb
  cases hb
theorem LSt.rd (h : LSt S W ts us v xs w) : RdTs w v us := by
  have hx := h.tabs.1
  rcases h.row.2 with ⟨h1, h2⟩ | ⟨g, cap, cur, h1, h2, h3, h4, h5, h6, h7⟩
  · have : us = [] := List.eq_nil_of_length_eq_zero h2
    subst this
    rw [h1]; exact RdTs.nil w
  · refine ⟨some ⟨g, 0, none⟩, cap, xs, h1, h4, h5, fun _ => ⟨g, 0, rfl, lt_of_heap h3, fun j u hj => ?_⟩, h.tabs⟩
    rw [Nat.zero_add, nd_cell h3]
    rw [← h7, List.getElem?_take] at hj
    split at hj
    · rw [← Array.getElem?_toList]; exact hj
    · cases hj
theorem LSt.start (h : St S W ts w) : LSt S W ts [] (.slice none 0 0) [] w := ⟨h, HRow.nil, TabsC.nil w⟩
/-- One table more in the row. -/
theorem LSt.snoc (h : LSt S W ts us v xs w) {t : T} {cv dv v' : Value} (ht : RdT w cv dv t) (hr : HRow w' W.heap.size 46 4 v' (us.length + 1) (xs ++ [.string t.nm, cv, .string t.key, dv])) (hg : w.grownBy w' v.ownBlock) : LSt S W ts (us ++ [t]) v' (xs ++ [.string t.nm, cv, .string t.key, dv]) w' := by
  have hk := Kp.grown h.row hg
  have hbel : Below W.heap.size w w' := below_row h.row hg (Nat.le_refl _) h.st.below.size
  refine ⟨⟨?_, h.st.below.trans hbel, h.st.le⟩, by rw [List.length_append]; exact hr, (h.tabs.kp hk).snoc (ht.kp hk)⟩
  obtain ⟨h0, ys, rest, h59, h2, h3⟩ := h.st.sch
  refine ⟨h0, ys, rest, (hg.block S (lt_of_heap h59) (fun eq => ?_)).trans h59, h2, h3.kp hk⟩
  obtain ⟨_, c, hb⟩ := h.row.block S eq.symm
  rw [h59] at hb
  cases hb
/-- append of one table to the row. -/
theorem LSt.app (h : LSt S W ts us v xs w) {t : T} {p1 p2 : Option Addr} {n1 c1 n2 c2 ty : Nat} {nm key : ByteArray} (hn : t.nm = nm) (hk : t.key = key) (ht : RdT w (.slice p1 n1 c1) (.slice p2 n2 c2) t) (hl : us.length ≤ 1000) (hty : Tryz.prog.underlying ty = some (.slice 46)) :
    ∃ g cap w', (Builtin.append_ #[ty, ty] ty #[v, .slice (some ⟨w.heap.size, 0, none⟩) 1 1]).run Tryz.prog (w.alloc (boxT nm (.slice p1 n1 c1) key (.slice p2 n2 c2))) = .ok (.slice (some ⟨g, 0, none⟩) (us.length + 1) cap) w' ∧
      LSt S W ts (us ++ [t]) (.slice (some ⟨g, 0, none⟩) (us.length + 1) cap) (xs ++ [.string nm, .slice p1 n1 c1, .string key, .slice p2 n2 c2]) w' := by
  subst hn hk
  obtain ⟨g, cap, w', h1, h2, h3, h4⟩ := app_one (ty := ty) hty info34 (by kernel_rfl) (by decide) (by decide) w W.heap.size h.row (by omega) h.st.below.size #[.string t.nm, .slice p1 n1 c1, .string t.key, .slice p2 n2 c2] rfl (by
    intro u hu
    simp only [List.mem_cons, List.not_mem_nil, or_false] at hu
    rcases hu with rfl | rfl | rfl | rfl <;> rfl)
  exact ⟨g, cap, w', h1, h.snoc ht h2 h3⟩
end

end Go.Proofs.YtmfkkpogmmoflaaGreat
