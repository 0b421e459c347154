/- Grow, Concat of a way and one name. All ways, one by one. path.ways. -/
import Derived.Test.YtmfkkpogmmoflaaGreatPB
import Derived.Lib.AppendZerosOnto
import Derived.Test.YtmfkkpogmmoflaaGreatPE
namespace Go.Proofs.YtmfkkpogmmoflaaGreat
open Go Go.RowKit Go.Proofs

theorem append_zero {P : Program} {w : World} {t e ty : TypeId} {i : TypeInfo} {p q : Option Addr} {n c d : Nat} (ht : P.underlying t = some (.slice e)) (hi : P.info? e = some i) (hn : n ≤ c) : (Builtin.append_ #[t, t] ty #[.slice p n c, .slice q 0 d]).run P w = .ok (.slice p n c) w := by
  cases p <;> cases q <;> simp [Builtin.append_, run_underlying ht, Builtin.lenOf, Builtin.firstCells, sizeOf, typeInfo, hi, hn, loadCells, loadCellsFrom, storeCells]
/-- append of words. -/
theorem app_words {y : World} {base : Nat} {v u : Value} {l k : List ByteArray} {ty : TypeId} (hr : HRow y base 9 1 v l.length (cellsS l)) (hs : Wd y u k) (hl : l.length + k.length ≤ 1000000) (hb : base ≤ y.heap.size) :
    ∃ p c w', (Builtin.append_ #[25, 25] ty #[v, u]).run Tryz.prog y = .ok (.slice p (l ++ k).length c) w' ∧ HRow w' base 9 1 (.slice p (l ++ k).length c) (l ++ k).length (cellsS (l ++ k)) ∧ y.grownBy w' v.ownBlock := by
  obtain ⟨i0, hi0, hz0, hz1, hz2⟩ := info_parts info9
  obtain ⟨q, d, rfl, _, _⟩ := hs.slice
  obtain ⟨p, c, rfl, hpc, _⟩ := hr.isslice
  rcases Nat.eq_zero_or_pos k.length with h0 | h0
  · have hk : k = [] := List.eq_nil_of_length_eq_zero h0
    subst hk
    rw [List.append_nil]
    exact ⟨p, c, y, append_zero Tryz.underlying25 hi0 hpc, hr, ⟨rfl, rfl, rfl, Nat.le_refl _, fun _ _ _ => rfl⟩⟩
  · obtain ⟨b, off, rfl, _, _⟩ := hs.word (i := 0) h0
    obtain ⟨g, cap, w', h1, h2, h3, _⟩ := run_append_has (P := Tryz.prog) y base 25 ty 9 i0 _ 1 16 Tryz.underlying25 hi0 hz0 hz1 hz2 rfl (by decide) hr ⟨b, off, none⟩ k.length d (cellsS k) (cellsS_len k)
      (fun j x hj => by
        unfold cellsS at hj
        rw [List.getElem?_map] at hj
        obtain ⟨z, hz, hv⟩ := Option.map_eq_some_iff.1 hj
        obtain ⟨hjl, hz2⟩ := List.getElem?_eq_some_iff.1 hz
        obtain ⟨b', off', e, _, c0⟩ := hs.word hjl
        cases e
        rw [Addr.add_lit, c0, hz2, ← hv]) (one_cellsS k) h0 (by unfold maxLen; omega) (by omega) hb
    have e : cellsS (l ++ k) = cellsS l ++ cellsS k := by unfold cellsS; rw [List.map_append]
    rw [List.length_append, e]
    exact ⟨_, _, w', h1, h2, h3⟩
set_option maxRecDepth 100000 in
set_option maxHeartbeats 1000000 in
theorem grow_any {n : Nat} (h0 : 0 < n) (hn : n ≤ 1000) (W : World) : Calls Tryz.prog 91 #[.slice none 0 0, .int .i64 n] W fun e w' => ∃ p G, e = .returned (.slice p 0 G) ∧ HRow w' W.heap.size 9 1 (.slice p 0 G) 0 [] ∧ Below W.heap.size W w' := by
  obtain ⟨i0, hi0, hz0, hz1, hz2⟩ := info_parts info9
  have hold : (Builtin.firstCells i0.size 0 (.slice none 0 0)).run Tryz.prog W.drew = .ok ([] : List Value).toArray W.drew := run_firstCells_none W.drew i0.size 0 0 0
  have hrz : ∀ ty, (Builtin.append_ #[25, 3] ty #[.slice none 0 0, .int .i64 n]).run Tryz.prog W = _ := fun ty => Lib.run_append_grow_zeros W 25 3 ty 9 i0 _ .i64 .i64 Tryz.underlying25 Tryz.underlying3 hi0 hz0 none 0 0 [] hold n h0 (by rw [hz1]; decide) (by omega) (by omega) (by rw [hz2]; omega) (by rw [hz2]; exact growslice_fits (by omega) (by omega))
  have hG0 : n ≤ grownCap W (0 + n) 0 9 := by have := grownCap_ge W (0 + n) 0 9; omega
  have hG1 := grownCap_le_maxLen W (0 + n) 0 9 (by unfold maxLen; omega)
  obtain ⟨G, hG⟩ : ∃ G, grownCap W (0 + n) 0 9 = G := ⟨_, rfl⟩
  rw [hG] at hrz hG0 hG1
  obtain ⟨cs, hcs⟩ : ∃ cs, (([] : List Value).toArray ++ Builtin.zeroCells (Value.string e0).cells n ++ Builtin.zeroCells (Value.string e0).cells (G - (0 + n))) = cs := ⟨_, rfl⟩
  have hcl : cs.size = G := by rw [← hcs]; simp [Builtin.zeroCells, Value.cells]; omega
  have hrz2 : ∀ ty, (Builtin.append_ #[25, 3] ty #[.slice none 0 0, .int .i64 n]).run Tryz.prog W = .ok (.slice (some ⟨W.heap.size, 0, none⟩) (0 + n) G) (W.drew.alloc (.cells cs 9)) := fun ty => by rw [← hcs]; exact hrz ty
  rw [Nat.zero_add] at hrz2
  have hfin : HRow (W.drew.alloc (.cells cs 9)) W.heap.size 9 1 (.slice (some ⟨W.heap.size, 0, none⟩) 0 G) 0 [] ∧ Below W.heap.size W (W.drew.alloc (.cells cs 9)) :=
    ⟨⟨rfl, .inr ⟨W.heap.size, G, cs, rfl, Nat.le_refl _, heap_alloc_new W.drew _, Nat.zero_le _, hG1, by omega, by simp⟩⟩, (below_drew W).trans ((below_alloc W.drew _).mono (Nat.le_refl _))⟩
  obtain ⟨w1, hw1⟩ : ∃ w1, W.drew.alloc (.cells cs 9) = w1 := ⟨_, rfl⟩
  rw [hw1] at hrz2 hfin
  have HF := Lib.hid hfin
  unfold maxLen at hG1
  clear hrz hold hcs hcl hG hw1 hfin
  obtain ⟨S, hS⟩ : ∃ S, W.heap.size = S := ⟨_, rfl⟩
  rw [hS] at hrz2 HF ⊢
  clear hS
  go_enter Tryz.func91, Tryz.ntmps91
  go_wp2_with (at_builtin; refine Lib.wpList_append_run _ rfl _ _ _ _ rfl _ _ rfl rfl _ _ (hrz2 _) ?_)
  go_ret
  exact ⟨_, _, rfl, HF.out.1, HF.out.2⟩
set_option maxRecDepth 100000 in
set_option maxHeartbeats 2000000 in
theorem concat_any {a : List ByteArray} {x : ByteArray} {b : Nat} {va vb : Value} {W : World} (hb : W.heap[b]? = some (.cells #[va, vb] 25)) (ha : Wd W va a) (hx : Wd W vb [x]) (hl : a.length ≤ 4) : Calls Tryz.prog 66 #[.slice (some ⟨b, 0, none⟩) 2 2] W fun e w' => ∃ p c, e = .returned (.slice p (a ++ [x]).length c) ∧ HRow w' W.heap.size 9 1 (.slice p (a ++ [x]).length c) (a ++ [x]).length (cellsS (a ++ [x])) ∧ Below W.heap.size W w' := by
  obtain ⟨pa, ca, rfl, hca, hma⟩ := ha.slice
  obtain ⟨pb, cb, rfl, hcb, hmb⟩ := hx.slice
  obtain ⟨n, hn⟩ : ∃ n, a.length = n := ⟨_, rfl⟩
  have hn1 : [x].length = 1 := rfl
  unfold maxLen at hma hmb
  rw [hn] at hca ha hl hb
  rw [hn1] at hcb hx hb
  have HD := Lib.hid (And.intro ha (And.intro hx (And.intro hb hn)))
  have z0 := nd_cell hb 0
  have z1 := nd_cell hb 1
  have zl := lt_of_heap hb
  have hgrow := grow_any (n := n + 1) (by omega) (by omega) W
  rw [show ((n + 1 : Nat) : Int) = (n : Int) + 1 from rfl] at hgrow
  clear ha hx hb hn
  go_enter Tryz.func66, Tryz.ntmps66
  go_wp2_with fail
  go_loopg [3, 11] 3 (fun gh sv jv w => ((jv = .int .i64 0 ∧ sv = .int .i64 0 ∧ 3 ≤ gh) ∨ (jv = .int .i64 1 ∧ sv = .int .i64 n ∧ 2 ≤ gh) ∨ (jv = .int .i64 2 ∧ sv = .int .i64 ((n : Int) + 1) ∧ 1 ≤ gh)) ∧ w = W)
  case atStart => exact ⟨.inl ⟨rfl, rfl, Nat.le_refl _⟩, rfl⟩
  case round =>
    obtain ⟨hcase, hw⟩ := hrel
    have hw := hw.symm
    subst hw
    rcases hcase with ⟨rfl, rfl, hg⟩ | ⟨rfl, rfl, hg⟩ | ⟨rfl, rfl, hg⟩
    · go_wp2_with fail
      go_roundg 2
      case measure => omega
      case rel => exact ⟨.inr (.inl ⟨rfl, by go_num, Nat.le_refl _⟩), rfl⟩
    · go_wp2_with fail
      go_roundg 1
      case measure => omega
      case rel => exact ⟨.inr (.inr ⟨rfl, by go_num, Nat.le_refl _⟩), rfl⟩
    · go_wp2_with (go_at_call 91; (with_reducible refine hgrow.mono ?_); rintro e w1 ⟨p1, G, rfl, hr1, hb1⟩)
      have y0 := bel_cell hb1 z0
      have y1 := bel_cell hb1 z1
      have H1 := Lib.hid (And.intro hr1 hb1)
      have HZ := Lib.hid (And.intro z0 z1)
      clear hgrow hr1 hb1 z0 z1 y0 y1
      have hlb : ∀ w, Below W.heap.size W w → b < w.heap.size := fun w hb => Nat.lt_of_lt_of_le zl hb.size
      have HLB := Lib.hid hlb
      clear hlb zl
      go_wp2_with fail
      go_loopg [6, 27] 3 (fun gh nv jv w => ∃ (p : Option Addr) (m c : Nat) (l : List ByteArray), nv = .slice p m c ∧ m = l.length ∧ HRow w W.heap.size 9 1 (.slice p m c) m (cellsS l) ∧ Below W.heap.size W w ∧ ((jv = .int .i64 0 ∧ l = [] ∧ 3 ≤ gh) ∨ (jv = .int .i64 1 ∧ l = a ∧ 2 ≤ gh) ∨ (jv = .int .i64 2 ∧ l = a ++ [x] ∧ 1 ≤ gh)))
      case atStart => exact ⟨p1, 0, G, [], rfl, rfl, H1.out.1, H1.out.2, .inl ⟨rfl, rfl, Nat.le_refl _⟩⟩
      case round =>
        obtain ⟨p, m, c, l, rfl, hm, hR, hB, hcase⟩ := hrel
        subst hm
        have y0 := bel_cell hB HZ.out.1
        have y1 := bel_cell hB HZ.out.2
        have yl := HLB.out _ hB
        rcases hcase with ⟨rfl, rfl, hg⟩ | ⟨rfl, rfl, hg⟩ | ⟨rfl, rfl, hg⟩
        · obtain ⟨p', c', w3, hrun, hr3, hg3⟩ := app_words (ty := 25) hR (HD.out.1.later hB) (by rw [HD.out.2.2.2]; simp; omega) hB.size
          rw [List.nil_append] at hrun hr3
          have H3 := Lib.hid (And.intro hr3 (below_row hR hg3 (Nat.le_refl _) hB.size |> hB.trans))
          clear hR hr3 hg3 hB
          go_wp2_with (at_builtin; refine wpList_append_run rfl (.tmp 31) (.tmp 32) 25 rfl rfl rfl hrun ?_)
          go_roundg 2
          case measure => omega
          case rel => exact ⟨_, _, _, a, rfl, rfl, H3.out.1, H3.out.2, .inr (.inl ⟨rfl, rfl, Nat.le_refl _⟩)⟩
        · obtain ⟨p', c', w3, hrun, hr3, hg3⟩ := app_words (ty := 25) hR (HD.out.2.1.later hB) (by rw [HD.out.2.2.2]; simp; omega) hB.size
          have H3 := Lib.hid (And.intro hr3 (below_row hR hg3 (Nat.le_refl _) hB.size |> hB.trans))
          clear hR hr3 hg3 hB
          go_wp2_with (at_builtin; refine wpList_append_run rfl (.tmp 31) (.tmp 32) 25 rfl rfl rfl hrun ?_)
          go_roundg 1
          case measure => omega
          case rel => exact ⟨_, _, _, l ++ [x], rfl, by simp, by have h := H3.out.1; rw [List.length_append] at h; exact h, H3.out.2, .inr (.inr ⟨rfl, rfl, Nat.le_refl _⟩)⟩
        · have H3 := Lib.hid (And.intro hR hB)
          clear hR hB
          go_wp2_with fail
          go_ret
          exact ⟨_, _, rfl, H3.out.1, H3.out.2⟩
end Go.Proofs.YtmfkkpogmmoflaaGreat
namespace Go.Proofs.YtmfkkpogmmoflaaGreat
open Go Go.RowKit Go.Proofs

theorem info24 : (Tryz.prog.info? 25).map (fun i => (i.zero, i.size, i.bytes)) = some (some (.slice none 0 0), 1, 24) := by kernel_rfl
/-- A row of ways, the call's own; each way lies in a block of words. -/
structure PR (base : Nat) (v : Value) (vs : List Value) (ps : List (List ByteArray)) (w : World) : Prop where
  row : HRow w base 25 1 v ps.length vs
  each : ∀ j (h : j < vs.length) (h' : j < ps.length), Wd w vs[j] ps[j]
section
variable {base : Nat} {v : Value} {vs us : List Value} {ps qs : List (List ByteArray)} {w w' : World}
theorem PR.n (h : PR base v vs ps w) : vs.length = ps.length := by have := h.row.1; omega
theorem PR.on (h : PR base v vs ps w) (hb : Below w.heap.size w w') : PR base v vs ps w' := ⟨h.row.later hb, fun j a b => (h.each j a b).later hb⟩
theorem PR.mono (h : PR base v vs ps w) {b : Nat} (hb : b ≤ base) : PR b v vs ps w := ⟨h.row.mono hb, h.each⟩
theorem PR.nil (base : Nat) (w : World) : PR base (.slice none 0 0) [] [] w := ⟨HRow.nil, fun j a => absurd a (Nat.not_lt_zero j)⟩
theorem PR.one (h : PR base v vs ps w) : ∀ u ∈ vs, u.oneCell' = true := fun u hu => by
  obtain ⟨j, hj, rfl⟩ := List.getElem_of_mem hu
  obtain ⟨p, c, e, _⟩ := (h.each j hj (by rw [← h.n]; exact hj)).slice
  rw [e]; rfl
/-- What is turned: rows of ways alone. -/
def Kn (w w' : World) : Prop := ∀ (b : Nat) (cur : Array Value) (e : TypeId) (m : Nat × Nat), w.heap[b]? = some (Obj.cells cur e m) → e ≠ 25 → w'.heap[b]? = some (Obj.cells cur e m)
theorem Kn.refl (w : World) : Kn w w := fun _ _ _ _ h _ => h
theorem Kn.kp9 (h : Kn w w') : Kp9 w w' := fun b cur m x => h b cur 9 m x (by decide)
theorem Kn.below (h : Below w.heap.size w w') : Kn w w' := fun b _ _ _ x _ => (h.block b (lt_of_heap x)).trans x
theorem Kn.trans {w'' : World} (h : Kn w w') (k : Kn w' w'') : Kn w w'' := fun b cur e m x y => k b cur e m (h b cur e m x y) y
theorem Kn.grown {n sz : Nat} {xs : List Value} (hr : HRow w base 25 sz v n xs) (hg : w.grownBy w' v.ownBlock) : Kn w w' := by
  intro q cur e m hq he
  refine (hg.block q (lt_of_heap hq) (fun eq => ?_)).trans hq
  obtain ⟨_, c, hb⟩ := hr.block q eq.symm
  rw [hb] at hq
  cases hq
  exact he rfl
/-- append of one way. -/
theorem PR.snoc (h : PR base v vs ps w) {u : Value} {a : List ByteArray} (hu : Wd w u a) (hl : ps.length ≤ 1000000 - 1) (hb : base ≤ w.heap.size) {m ty : Nat} (hm : ps.length + 1 = m) :
    ∃ g cap w', (Builtin.append_ #[23, 23] ty #[v, .slice (some ⟨w.heap.size, 0, none⟩) 1 1]).run Tryz.prog (w.alloc (.cells #[u] 25)) = .ok (.slice (some ⟨g, 0, none⟩) m cap) w' ∧
      PR base (.slice (some ⟨g, 0, none⟩) m cap) (vs ++ [u]) (ps ++ [a]) w' ∧ Below base w w' ∧ Kn w w' := by
  subst hm
  obtain ⟨p, c, e, _⟩ := hu.slice
  obtain ⟨g, cap, w', h1, h2, h3, _⟩ := app_one (ty := ty) Tryz.underlying23 info24 (by kernel_rfl) (by decide) (by decide) w base h.row (by omega) hb #[u] rfl (by
    intro x hx
    simp only [List.mem_cons, List.not_mem_nil, or_false] at hx
    subst hx
    rw [e]; rfl)
  have hk := Kp9.grown h.row (by decide) h3
  refine ⟨g, cap, w', h1, ⟨by rw [List.length_append]; exact h2, fun j x y => ?_⟩, below_row h.row h3 (Nat.le_refl _) hb, Kn.grown h.row h3⟩
  by_cases e : j < vs.length
  · have e2 : j < ps.length := by rw [← h.n]; exact e
    rw [List.getElem_append_left e, List.getElem_append_left e2]
    exact (h.each j e e2).kp hk
  · have hn := h.n
    have e2 : j = vs.length := by simp at x; omega
    subst e2
    have e3 : (vs ++ [u])[vs.length] = u := by simp
    have e4 : (ps ++ [a])[vs.length] = a := by simp [hn]
    rw [e3, e4]
    exact hu.kp hk
/-- append of a row of ways. -/
theorem PR.app (h : PR base v vs ps w) {u : Value} {b2 : Nat} (k : PR b2 u us qs w) (hl : ps.length + qs.length ≤ 1000000) (hb : base ≤ w.heap.size) {m ty : Nat} (hm : ps.length + qs.length = m) :
    ∃ p cap w', (Builtin.append_ #[23, 23] ty #[v, u]).run Tryz.prog w = .ok (.slice p m cap) w' ∧
      PR base (.slice p m cap) (vs ++ us) (ps ++ qs) w' ∧ Below base w w' ∧ Kn w w' := by
  subst hm
  obtain ⟨i0, hi0, hz0, hz1, hz2⟩ := info_parts info24
  obtain ⟨p, c, rfl, hpc, _⟩ := h.row.isslice
  have hn := h.n
  have hkn := k.n
  rcases Nat.eq_zero_or_pos qs.length with h0 | h0
  · have hq : qs = [] := List.eq_nil_of_length_eq_zero h0
    subst hq
    have hus : us = [] := List.eq_nil_of_length_eq_zero hkn
    subst hus
    obtain ⟨q, d, rfl, _, _⟩ := k.row.isslice
    rw [List.append_nil, List.append_nil]
    exact ⟨p, c, w, append_zero Tryz.underlying23 hi0 hpc, h, Below.refl _ _, Kn.refl _⟩
  · obtain ⟨g2, d, rfl, _, _⟩ := k.row.slice h0
    obtain ⟨g, cap, w', h1, h2, h3, _⟩ := run_append_has (P := Tryz.prog) w base 23 ty 25 i0 _ 1 24 Tryz.underlying23 hi0 hz0 hz1 hz2 rfl (by decide) h.row ⟨g2, 0, none⟩ qs.length d us k.row.1
      (fun j x hj => by
        rw [Addr.add_lit, Nat.zero_add]
        exact k.row.cell hj) k.one h0 (by unfold maxLen; omega) (by omega) hb
    have hk := Kp9.grown h.row (by decide) h3
    refine ⟨_, cap, w', h1, ⟨by rw [List.length_append]; exact h2, fun j x y => ?_⟩, below_row h.row h3 (Nat.le_refl _) hb, Kn.grown h.row h3⟩
    by_cases e : j < vs.length
    · have e2 : j < ps.length := by rw [← hn]; exact e
      rw [List.getElem_append_left e, List.getElem_append_left e2]
      exact (h.each j e e2).kp hk
    · have e2 : ¬ j < ps.length := by rw [← hn]; exact e
      rw [List.getElem_append_right (by omega), List.getElem_append_right (by omega)]
      have e5 : j - vs.length = j - ps.length := by omega
      have hjx : j - vs.length < us.length := by rw [List.length_append] at x; omega
      have hjy : j - vs.length < qs.length := by omega
      have := (k.each _ hjx hjy).kp hk
      simp only [← e5]
      exact this
end
theorem concat_is {a l : List ByteArray} {x : ByteArray} {b m : Nat} {va vb : Value} {W : World} (hb : W.heap[b]? = some (.cells #[va, vb] 25)) (ha : Wd W va a) (hx : Wd W vb [x]) (hl : a.length ≤ 4) (he : a ++ [x] = l) (hm : l.length = m) : Calls Tryz.prog 66 #[.slice (some ⟨b, 0, none⟩) 2 2] W fun e w' => ∃ p c, e = .returned (.slice p m c) ∧ Wd w' (.slice p m c) l ∧ Below W.heap.size W w' := by
  subst hm he
  exact (concat_any hb ha hx hl).mono fun e w' ⟨p, c, h1, h2, h3⟩ => ⟨p, c, h1, h2.wd, h3⟩
/-- One name, in a block of its own. -/
theorem Wd.lit {W : World} {b : Nat} {x : ByteArray} {m : Nat × Nat} (h : W.heap[b]? = some (.cells #[.string x] 9 m)) : Wd W (.slice (some ⟨b, 0, none⟩) 1 1) [x] :=
  ⟨_, 1, rfl, Nat.le_refl _, by decide, fun a h => (by cases h; rfl), fun _ => ⟨b, 0, _, m, rfl, h, fun j hj => by
    have : j = 0 := by simp at hj; omega
    subst this; rfl⟩⟩
def kids (ts : List T) (k : Nat) (a : List ByteArray) (c : C) : List (List ByteArray) := (a ++ [c.nm]) :: waysP ts k c.tgt (a ++ [c.nm])
def part (ts : List T) (k : Nat) (tb : ByteArray) (a : List ByteArray) (j : Nat) : List (List ByteArray) := ((colsAt ts tb).take j).flatMap (kids ts k a)
theorem part_zero (ts : List T) (k : Nat) (tb : ByteArray) (a : List ByteArray) : part ts k tb a 0 = [] := rfl
theorem part_all (ts : List T) (k : Nat) (tb : ByteArray) (a : List ByteArray) : part ts k tb a (colsAt ts tb).length = waysP ts (k + 1) tb a := by
  unfold part
  rw [List.take_length]; rfl
theorem part_succ (ts : List T) (k : Nat) (tb : ByteArray) (a : List ByteArray) {j : Nat} (h : j < (colsAt ts tb).length) : part ts k tb a (j + 1) = (part ts k tb a j ++ [a ++ [(colsAt ts tb)[j].nm]]) ++ waysP ts k (colsAt ts tb)[j].tgt (a ++ [(colsAt ts tb)[j].nm]) := by
  unfold part
  rw [List.take_succ_eq_append_getElem h, List.flatMap_append]
  simp [kids]
theorem part_len (ts : List T) (k : Nat) (tb : ByteArray) (a : List ByteArray) (j : Nat) : (part ts k tb a j).length ≤ (waysP ts (k + 1) tb a).length := by
  rw [← part_all]
  unfold part
  rw [List.take_length]
  conv => rhs; rw [← List.take_append_drop j (colsAt ts tb)]
  rw [List.flatMap_append, List.length_append]
  omega
theorem manyW_le : ∀ n, n ≤ 4 → manyW n ≤ 1554 := by decide
theorem grown_below {B : Nat} {w w' : World} {o : Option Nat} (h : w.grownBy w' o) (ho : ∀ q, o = some q → B ≤ q) (hB : B ≤ w.heap.size) : Below B w w' :=
  ⟨h.os, h.tape, h.output, h.size, fun b hb => h.block b (by omega) (fun e => by have := ho b e.symm; omega)⟩
theorem PR.elem {base n cap g : Nat} {vs : List Value} {ps : List (List ByteArray)} {w : World} (h : PR base (.slice (some ⟨g, 0, none⟩) n cap) vs ps w) {j : Nat} (hj : j < ps.length) : ∃ p c, w.cell? ⟨g, j, none⟩ = some (.slice p ps[j].length c) ∧ Wd w (.slice p ps[j].length c) ps[j] ∧ g < w.heap.size := by
  have hjv : j < vs.length := by rw [h.n]; exact hj
  have hn : n = ps.length := by
    obtain ⟨p, c, e, _⟩ := h.row.isslice
    exact (Value.slice.inj e).2.1
  have hc := HRow.cell (j := j) (hn ▸ h.row) (List.getElem?_eq_getElem hjv)
  have hw := h.each j hjv hj
  obtain ⟨p, c, e, _⟩ := hw.slice
  rw [e] at hc hw
  exact ⟨p, c, hc, hw, (h.row.lt g rfl).2⟩
end Go.Proofs.YtmfkkpogmmoflaaGreat
namespace Go.Proofs.YtmfkkpogmmoflaaGreat
open Go Go.RowKit Go.Proofs

/-- What ways answers. -/
def WaysOf (ts : List T) (n : Nat) (tb : ByteArray) (a : List ByteArray) (W : World) (e : Ending) (w' : World) : Prop := ∃ p m c vs, e = .returned (.slice p m c) ∧ m = (waysP ts n tb a).length ∧ PR W.heap.size (.slice p m c) vs (waysP ts n tb a) w' ∧ Below W.heap.size W w'
set_option maxRecDepth 100000 in
set_option maxHeartbeats 8000000 in
theorem ways_any {ts : List T} {pv : Value} (hf : AllFew ts) (hN : Nice ts) : ∀ (n : Nat) (tb : ByteArray) (a : List ByteArray) (va : Value) (W : World), a.length + n = 4 → SchP W pv ts → Wd W va a → Calls Tryz.prog 43 #[pv, .string tb, va] W (WaysOf ts n tb a W)
  | 0, tb, a, va, W, hl, hs, ha => by
    obtain ⟨pa, ca, rfl, hca, hma⟩ := ha.slice
    have hl4 : a.length = 4 := by omega
    rw [hl4]
    have e : waysP ts 0 tb a = [] := rfl
    unfold WaysOf
    rw [e]
    clear hs ha e hca hl
    go_enter Tryz.func43, Tryz.ntmps43
    go_wp2_with fail
    go_ret
    exact ⟨_, _, _, [], rfl, rfl, PR.nil _ _, Below.refl _ _⟩
  | k + 1, tb, a, va, W, hl, hs, ha => by
    obtain ⟨pa, ca, rfl, hca, hma⟩ := ha.slice
    have IH := Lib.hid (ways_any (pv := pv) hf hN k)
    obtain ⟨la, hla⟩ : ∃ x, a.length = x := ⟨_, rfl⟩
    rw [hla] at hca hl ha ⊢
    have hlen := ways_len hN (k + 1) tb a
    have hmany := manyW_le (k + 1) (by omega)
    have HL := Lib.hid (And.intro hla (And.intro hl (And.intro hs (And.intro ha (Nat.le_trans hlen hmany)))))
    unfold maxLen at hma
    have hne : ((la : Int) == 4) = false := by rw [beq_eq_false_iff_ne]; omega
    have hne2 : ¬ (la : Int) = 4 := by omega
    obtain ⟨t, ht⟩ : ∃ t, orT (findT ts tb) = t := ⟨_, rfl⟩
    have hfind := find_is (x := tb) hs hf ht rfl rfl rfl
    have hcols : colsAt ts tb = t.cols := by unfold colsAt; rw [ht]
    obtain ⟨nm, hnm⟩ : ∃ x, t.nm = x := ⟨_, rfl⟩
    obtain ⟨key, hkey⟩ : ∃ x, t.key = x := ⟨_, rfl⟩
    obtain ⟨ok, hok⟩ : ∃ x, hasT ts tb = x := ⟨_, rfl⟩
    rw [hnm, hkey, hok] at hfind
    have HT := Lib.hid (And.intro hcols hf)
    clear hs ha hla hl hlen hmany ht hcols hnm hkey hok
    go_enter Tryz.func43, Tryz.ntmps43
    go_upto_region 4 with fail
    go_upto_region 5 with (go_at_call 46; (with_reducible refine hfind.mono ?_); rintro e w1 ⟨p1, n1, c1, p2, n2, c2, rfl, hr, hb⟩)
    have hx5 := heap_alloc_new w1 (boxT nm (.slice p1 n1 c1) key (.slice p2 n2 c2))
    have hb6 := below_alloc w1 (boxT nm (.slice p1 n1 c1) key (.slice p2 n2 c2))
    obtain ⟨B, hBB⟩ : ∃ x, w1.heap.size = x := ⟨_, rfl⟩
    obtain ⟨w2, hw2⟩ : ∃ x, w1.alloc (boxT nm (.slice p1 n1 c1) key (.slice p2 n2 c2)) = x := ⟨_, rfl⟩
    have hr2 := hr.later hb6
    have hbw := below_on hb hb6
    rw [hBB, hw2] at hx5
    rw [hw2] at hr2 hbw
    rw [hBB, hw2]
    have hsl := hr2.c.slice
    obtain ⟨px, cx, e1, hnc, hcm⟩ := hsl
    obtain ⟨e2, e3, e4⟩ := Value.slice.inj e1
    subst e2 e4
    unfold maxLen at hcm
    rw [← e3] at hnc
    have HN := Lib.hid e3
    have H2 := Lib.hid (And.intro hr2.c (And.intro hbw hx5))
    have u1 := nd_cell hx5 1
    have ul := lt_of_heap hx5
    clear hfind hr hb hb6 hBB hw2 hr2 hbw hx5 e1 e3
    go_wp2_with fail
    go_loopg [7, 25] (n1 + 1) (fun gh av jv w => ∃ (j : Nat) (p : Option Addr) (m c : Nat) (vs : List Value), jv = .int .i64 (j : Int) ∧ j ≤ n1 ∧ n1 + 1 ≤ j + gh ∧ av = .slice p m c ∧ m = (part ts k tb a j).length ∧ PR w2.heap.size (.slice p m c) vs (part ts k tb a j) w ∧ Below w2.heap.size w2 w)
    case atStart => exact ⟨0, none, 0, 0, [], rfl, Nat.zero_le _, by omega, rfl, rfl, PR.nil _ _, Below.refl _ _⟩
    case round =>
      clear u1 ul
      obtain ⟨j, p, m, c, vs, rfl, hj, hg, rfl, hm, hP, hB⟩ := hrel
      have HI := Lib.hid (And.intro hP (And.intro hB hm))
      by_cases hlt : j < n1
      · have hjl : j < t.cols.length := by rw [← HN.out]; exact hlt
        have hjc : j < (colsAt ts tb).length := by rw [HT.out.1]; exact hjl
        have hps := part_succ ts k tb a hjc
        have hpl := part_len ts k tb a (j + 1)
        obtain ⟨bc, oc, rfl, hbc, c0, c1, c2, c3⟩ := RdC.col (RdC.later (H2.out.1) hB) hjl
        have hce : (colsAt ts tb)[j] = t.cols[j] := by simp only [HT.out.1]
        rw [hce] at hps
        obtain ⟨d, hd⟩ : ∃ d, t.cols[j] = d := ⟨_, rfl⟩
        rw [hd] at c0 c1 c2 c3 hps
        obtain ⟨x, kd, mu, tg⟩ := d
        simp only [] at c0 c1 c2 c3 hps
        have HPS := Lib.hid (And.intro hps (Nat.le_trans hpl HL.out.2.2.2.2))
        have hji : (j : Int) < (n1 : Int) := by omega
        clear hP hB hm hps hpl hd hce hjl hjc
        go_upto_region 8 with fail
        have hx5 := heap_alloc_new wr (.cells #[.string x, .int .i64 kd, .bool mu, .string tg] 54)
        have hb6 := below_alloc wr (.cells #[.string x, .int .i64 kd, .bool mu, .string tg] 54)
        obtain ⟨B3, hBB⟩ : ∃ x, wr.heap.size = x := ⟨_, rfl⟩
        obtain ⟨w3, hw3⟩ : ∃ y, wr.alloc (.cells #[.string x, .int .i64 kd, .bool mu, .string tg] 54) = y := ⟨_, rfl⟩
        have hP3 := HI.out.1.on hb6
        have hB3 := below_on HI.out.2.1 hb6
        rw [hBB, hw3] at hx5
        rw [hw3] at hP3 hB3
        rw [hBB, hw3]
        have u0 := nd_cell hx5 0
        have ul := lt_of_heap hx5
        have H3 := Lib.hid (And.intro hP3 (And.intro hB3 hx5))
        clear hb6 hBB hw3 hP3 hB3 hx5 c0 c1 c2 c3 hbc
        obtain ⟨l2, hl2⟩ : ∃ l2, a ++ [x] = l2 := ⟨_, rfl⟩
        obtain ⟨m2, hm2⟩ : ∃ m2, l2.length = m2 := ⟨_, rfl⟩
        have hcat : Calls Tryz.prog 66 #[.slice (some ⟨w3.heap.size + 1, 0, none⟩) 2 2] ((w3.alloc (.cells #[.string x] 9)).alloc (.cells #[.slice pa la ca, .slice (some ⟨w3.heap.size, 0, none⟩) 1 1] 25)) fun e w' => ∃ p c, e = .returned (.slice p m2 c) ∧ Wd w' (.slice p m2 c) l2 ∧ Below w3.heap.size w3 w' := by
          have b1 := below_alloc w3 (.cells #[.string x] 9)
          have b2 := below_alloc (w3.alloc (.cells #[.string x] 9)) (.cells #[.slice pa la ca, .slice (some ⟨w3.heap.size, 0, none⟩) 1 1] 25)
          have k2 := heap_alloc_new (w3.alloc (.cells #[.string x] 9)) (.cells #[.slice pa la ca, .slice (some ⟨w3.heap.size, 0, none⟩) 1 1] 25)
          rw [World.size_alloc] at k2
          refine (concat_is k2 (HL.out.2.2.2.1.later ((H2.out.2.1.trans (H3.out.2.1.mono H2.out.2.1.size)).trans ((below_on b1 b2).mono ?_))) ((Wd.lit (heap_alloc_new w3 (.cells #[.string x] 9))).later b2) (by rw [HL.out.1]; have := HL.out.2.1; omega) hl2 hm2).mono (fun e w' ⟨p, c, h1, h2, h3⟩ => ⟨p, c, h1, h2, below_on (below_on b1 b2) h3⟩)
          exact Nat.le_trans H2.out.2.1.size H3.out.2.1.size
        have HL2 := Lib.hid (And.intro hl2 hm2)
        clear hl2 hm2
        go_upto_region 9 with (go_at_call 66; (with_reducible refine hcat.mono ?_); rintro e w5 ⟨pp, cp, rfl, hw5, hb5⟩)
        have HB5 := Lib.hid (below_on H3.out.2.1 hb5)
        obtain ⟨g, cap, w6, hrun1, h6, hb6, hk6⟩ := (H3.out.1.on hb5).snoc (ty := 23) (m := m + 1) hw5 (by have := part_len ts k tb a j; have := HL.out.2.2.2.2; omega) HB5.out.size (by rw [HI.out.2.2])
        have hx6 := hk6 _ _ _ _ (heap_on hb5 H3.out.2.2) (by decide)
        have v3 := nd_cell hx6 3
        have vl := lt_of_heap hx6
        have hb26 := HB5.out.trans hb6
        have hw6 := hw5.kp hk6.kp9
        have hbW6 : Below W.heap.size W w6 := H2.out.2.1.trans (hb26.mono H2.out.2.1.size)
        have hcall := IH.out tg l2 (.slice pp m2 cp) w6 (by rw [← HL2.out.1, List.length_append]; have := HL.out.1; have := HL.out.2.1; simp only [List.length_cons, List.length_nil]; omega) (HL.out.2.2.1.later hbW6) hw6
        have H6 := Lib.hid (And.intro h6 hb26)
        clear hw5 hb5 hcat h6 hb6 hk6 hx6 hb26 hw6 hbW6
        go_upto_region 10 with (at_builtin; refine wpList_append_run rfl (.tmp 35) (.tmp 37) 23 rfl rfl rfl hrun1 ?_)
        go_upto_region 11 with (first
          | (go_at_call 43; (with_reducible refine hcall.mono ?_); rintro e w7 ⟨p7, m7, c7, vs7, rfl, hm7, h7, hb7⟩; obtain ⟨p8, cap8, w8, hrun2, h8, hb8, _⟩ := (H6.out.1.on hb7).app (ty := 23) (m := m + 1 + m7) h7 (by have e := HPS.out.2; rw [HPS.out.1, HL2.out.1, List.length_append] at e; omega) (Nat.le_trans H6.out.2.size hb7.size) (by rw [List.length_append, ← HI.out.2.2, hm7]; rfl); have H8 := Lib.hid (And.intro h8 (And.intro ((below_on H6.out.2 hb7).trans hb8) hm7)); clear h7 hb7 h8 hb8 hcall hm7)
          | (at_builtin; refine wpList_append_run rfl (.tmp 39) (.tmp 44) 23 rfl rfl rfl hrun2 ?_))
        go_wp2_with fail
        go_roundg (n1 - j)
        case measure => omega
        case rel =>
          refine ⟨j + 1, _, _, _, _, by go_num, by omega, by omega, rfl, ?_, by rw [HPS.out.1, HL2.out.1]; exact H8.out.1, H8.out.2.1⟩
          rw [HPS.out.1, HL2.out.1, List.length_append, List.length_append, ← HI.out.2.2, H8.out.2.2]; rfl
      · obtain rfl : j = n1 := by omega
        go_wp2_with fail
        go_ret
        have e : part ts k tb a j = waysP ts (k + 1) tb a := by rw [← part_all, HT.out.1, HN.out]
        rw [e] at HI
        exact ⟨_, _, _, vs, rfl, HI.out.2.2, HI.out.1.mono H2.out.2.1.size, H2.out.2.1.trans (HI.out.2.1.mono H2.out.2.1.size)⟩
end Go.Proofs.YtmfkkpogmmoflaaGreat
