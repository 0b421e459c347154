/- The reference's Copy: its memory. The reference's Copy. -/
import Derived.Test.YtffpmmphpdkkbaaGreatMDK
namespace Go.Proofs.YtffpmmphpdkkbaaGreat
open Go Go.RowKit Go.Proofs Co Co.S
theorem HRow.rebase {w : World} {base base' : Nat} {e : TypeId} {size : Nat} {v : Value} {n : Nat} {xs : List Value} (h : HRow w base e size v n xs) (hb : ∀ q, v.ownBlock = some q → base' ≤ q) : HRow w base' e size v n xs := by
  refine ⟨h.1, ?_⟩
  rcases h.2 with h1 | ⟨g, cap, cur, rfl, hbg, rest⟩
  · exact .inl h1
  · exact .inr ⟨g, cap, cur, rfl, hb g rfl, rest⟩
theorem HRow.apart {w : World} {base base' : Nat} {e e' : TypeId} {s s' : Nat} {v v' : Value} {n n' : Nat} {xs xs' : List Value} (h : HRow w base e s v n xs) (h' : HRow w base' e' s' v' n' xs') (hne : e ≠ e') {q : Nat} (hq : v.ownBlock = some q) : v'.ownBlock ≠ some q := fun hq' => by
  obtain ⟨_, c1, h1⟩ := h.block q hq
  obtain ⟨_, c2, h2⟩ := h'.block q hq'
  rw [h1] at h2
  simp at h2
  exact hne h2.2
/-- One element copied. -/
theorem app_nil {t e : TypeId} {z : Value} {size bytes : Nat} (ht : Tryz.prog.underlying t = some (.slice e)) (hinf : (Tryz.prog.info? e).map (fun i => (i.zero, i.size, i.bytes)) = some (some z, size, bytes)) (hzs : z.cells.size = size) (hsz : 0 < size) (hby : bytes ≤ 80)
    (y : World) {v : Value} {xs : List Value} {base : Nat} (hr : HRow y base e size v 1 xs) (h1 : ∀ u ∈ xs, u.oneCell' = true) :
    ∃ v' w', (Builtin.append_ #[t, t] t #[.slice none 0 0, v]).run Tryz.prog y = .ok v' w' ∧ HRow w' y.heap.size e size v' 1 xs ∧ Below y.heap.size y w' := by
  obtain ⟨i0, hi0, hz0, hz1, hz2⟩ := info_parts hinf
  obtain ⟨g, c, rfl, _, _⟩ := hr.slice (by decide)
  obtain ⟨g', cap, w', h2, h3, h4, _⟩ := run_append_has (P := Tryz.prog) y y.heap.size t t e i0 z size bytes ht hi0 hz0 hz1 hz2 hzs hsz (HRow.nil (w := y) (base := y.heap.size)) ⟨g, 0, none⟩ 1 c xs hr.1 (fun j u hj => hr.cells_add hj) h1 (by decide) (by unfold maxLen; omega) (by omega) (Nat.le_refl _)
  rw [Nat.zero_add, List.nil_append] at *
  exact ⟨_, w', h2, h3, h4.os, h4.tape, h4.output, h4.size, fun q hq => h4.block q hq (by simp [Value.ownBlock])⟩
theorem infoTable : (Tryz.prog.info? 29).map (fun i => (i.zero, i.size, i.bytes)) = some (some (.agg #[.string e0, .slice none 0 0, .string e0, .slice none 0 0]), 4, 80) := by kernel_rfl
theorem infoRows : (Tryz.prog.info? 88).map (fun i => (i.zero, i.size, i.bytes)) = some (some (.slice none 0 0), 1, 24) := by kernel_rfl
/-- The copy, as far as it is laid. -/
structure CpD (W w : World) (O : Nat) (t : T) (next : Nat) (fc fd sv ov nv rv : Value) (A : List R1) (vs : List Value) : Prop where
  bl : Below W.heap.size W w
  lo : W.heap.size ≤ O
  box : w.heap[O]? = some (.cells #[sv, ov, nv] 37)
  form : HRow w W.heap.size 29 4 sv 1 [.string t.nm, fc, .string t.key, fd]
  nx : HRow w W.heap.size 3 1 nv 1 [.int .i64 (next : Int)]
  rows : HRow w W.heap.size 90 2 rv A.length (cellsR A vs)
  n : vs.length = A.length
  vals : ∀ k (h : k < A.length) (h' : k < vs.length), HRow w W.heap.size 53 3 vs[k] A[k].2.length (cells3 A[k].2)
  sep : ∀ j k (hj : j < vs.length) (hk : k < vs.length), j ≠ k → ∀ q, vs[j].ownBlock = some q → vs[k].ownBlock ≠ some q
section
variable {W w w' : World} {O : Nat} {t : T} {next : Nat} {fc fd sv ov nv rv : Value} {A : List R1} {vs : List Value}
theorem CpD.later (h : CpD W w O t next fc fd sv ov nv rv A vs) (hb : Below w.heap.size w w') : CpD W w' O t next fc fd sv ov nv rv A vs :=
  ⟨below_on h.bl hb, h.lo, heap_on hb h.box, h.form.later hb, h.nx.later hb, h.rows.later hb, h.n, fun k a b => (h.vals k a b).later hb, h.sep⟩
theorem snoc_at {vs : List Value} {v : Value} {k : Nat} (hk : k < (vs ++ [v]).length) : (∃ hk' : k < vs.length, (vs ++ [v])[k] = vs[k]) ∨ (k = vs.length ∧ (vs ++ [v])[k] = v) := by
  by_cases e : k < vs.length
  · exact .inl ⟨e, List.getElem_append_left e⟩
  · have e2 : k = vs.length := by simp at hk; omega
    subst e2
    exact .inr ⟨rfl, by simp⟩
/-- A row more. -/
theorem CpD.round (h : CpD W w O t next fc fd sv ov nv rv A vs) {a : R1} {v : Value} (hv : HRow w' 0 53 3 v a.2.length (cells3 a.2)) (hvb : ∀ q, v.ownBlock = some q → w.heap.size ≤ q) {rv' : Value} (hr : HRow w' 0 90 2 rv' (A.length + 1) (cellsR A vs ++ [.int .i64 a.1, v])) (hg : w.grownBy w' rv.ownBlock)
    (ho : ∀ g, rv'.ownBlock = some g → rv.ownBlock = some g ∨ w.heap.size ≤ g) : CpD W w' O t next fc fd sv ov nv rv' (A ++ [a]) (vs ++ [v]) := by
  have hrl : ∀ q, rv.ownBlock = some q → W.heap.size ≤ q := fun q hq => (HRow.lt h.rows q hq).1
  have hOne : rv.ownBlock ≠ some O := fun e => by
    obtain ⟨_, c1, h1⟩ := h.rows.block O e
    rw [h.box] at h1
    simp at h1
  have hkeep : ∀ {base : Nat} {e : TypeId} {s : Nat} {u : Value} {n : Nat} {xs : List Value}, HRow w base e s u n xs → e ≠ 90 → HRow w' base e s u n xs := fun hu hne => hu.of (fun q hq => hg.block q (HRow.lt hu q hq).2 (fun e => hu.apart h.rows hne hq e.symm))
  refine ⟨h.bl.trans ⟨hg.os, hg.tape, hg.output, hg.size, fun q hq => hg.block q (Nat.lt_of_lt_of_le hq h.bl.size) (fun e => by have := hrl q e.symm; omega)⟩, h.lo, (hg.block O (lt_of_heap h.box) (fun e => hOne e.symm)).trans h.box, hkeep h.form (by decide), hkeep h.nx (by decide), ?_, by simp [h.n], fun k hk hk' => ?_, fun j k hj hk hne q hq => ?_⟩
  · rw [cellsR_snoc h.n, List.length_append]
    exact hr.rebase (fun q hq => by
      rcases ho q hq with h1 | h1
      · exact hrl q h1
      · exact Nat.le_trans h.bl.size h1)
  · rcases snoc_at hk' with ⟨e1, e2⟩ | ⟨e1, e2⟩
    · have hkA : k < A.length := by rw [← h.n]; exact e1
      rw [e2, List.getElem_append_left hkA]
      exact hkeep (h.vals k hkA e1) (by decide)
    · rw [e2]
      have hkA : k = A.length := e1.trans h.n
      subst hkA
      have e3 : (A ++ [a])[A.length]'hk = a := by simp
      rw [e3]
      exact hv.rebase (fun q hq => Nat.le_trans h.bl.size (hvb q hq))
  · have hvl : ∀ k (hk : k < vs.length) q, vs[k].ownBlock = some q → q < w.heap.size := fun k hk q hq => (HRow.lt (h.vals k (by rw [← h.n]; exact hk) hk) q hq).2
    rcases snoc_at hj with ⟨a1, a2⟩ | ⟨a1, a2⟩ <;> rcases snoc_at hk with ⟨b1, b2⟩ | ⟨b1, b2⟩
    · rw [a2] at hq; rw [b2]
      exact h.sep j k a1 b1 hne q hq
    · rw [a2] at hq; rw [b2]
      intro e
      have := hvl j a1 q hq
      have := hvb q e
      omega
    · rw [a2] at hq; rw [b2]
      intro e
      have := hvl k b1 q e
      have := hvb q hq
      omega
    · omega
/-- The copy is laid. -/
theorem CpD.fin {b : Nat} {i : DI} {lab : Nat → Nat} (hd : DbM W b t next A i lab) (h : CpD W w O t next i.fc i.fd sv ov nv rv A vs) (ho : HRow w W.heap.size 88 1 ov 1 [rv]) : ∃ i' lab', DbM w O t next A i' lab' ∧ (∀ q, lab' q ≠ 0 → W.heap.size ≤ q) ∧ Below W.heap.size W w := by
  have hO : ∀ {base : Nat} {e : TypeId} {s : Nat} {u : Value} {n : Nat} {xs : List Value}, HRow w base e s u n xs → e ≠ 37 → ∀ q, u.ownBlock = some q → q ≠ O := fun hu hne q hq e => by
    obtain ⟨_, c1, h1⟩ := hu.block q hq
    rw [e, h.box] at h1
    simp at h1
    exact hne h1.2.symm
  have hrow : ∀ k (hk : k < vs.length), HRow w W.heap.size 53 3 vs[k] (A[k]'(by rw [← h.n]; exact hk)).2.length (cells3 (A[k]'(by rw [← h.n]; exact hk)).2) := fun k hk => h.vals k (by rw [← h.n]; exact hk) hk
  have hany : ∀ q, vs.any (fun v => decide (v.ownBlock = some q)) = true → ∃ k, ∃ hk : k < vs.length, vs[k].ownBlock = some q := fun q hq => by
    obtain ⟨v, hv, h2⟩ := List.any_eq_true.1 hq
    obtain ⟨k, hk, rfl⟩ := List.getElem_of_mem hv
    exact ⟨k, hk, by simpa using h2⟩
  have hin : ∀ q, (if q = O then 1 else if ov.ownBlock = some q then 2 else if rv.ownBlock = some q then 3 else if nv.ownBlock = some q then 4 else if vs.any (fun v => decide (v.ownBlock = some q)) = true then 5 else 0) ≠ 0 → W.heap.size ≤ q ∧ q < w.heap.size := fun q hq => by
    by_cases e1 : q = O
    · rw [e1]; exact ⟨h.lo, lt_of_heap h.box⟩
    rw [if_neg e1] at hq
    by_cases e2 : ov.ownBlock = some q
    · exact HRow.lt ho q e2
    rw [if_neg e2] at hq
    by_cases e3 : rv.ownBlock = some q
    · exact HRow.lt h.rows q e3
    rw [if_neg e3] at hq
    by_cases e4 : nv.ownBlock = some q
    · exact HRow.lt h.nx q e4
    rw [if_neg e4] at hq
    by_cases e5 : vs.any (fun v => decide (v.ownBlock = some q)) = true
    · obtain ⟨k, hk, e⟩ := hany q e5
      exact HRow.lt (hrow k hk) q e
    · rw [if_neg e5] at hq; exact absurd rfl hq
  refine ⟨⟨i.fc, i.fd, sv, ov, nv, rv, vs⟩, fun q => if q = O then 1 else if ov.ownBlock = some q then 2 else if rv.ownBlock = some q then 3 else if nv.ownBlock = some q then 4 else if vs.any (fun v => decide (v.ownBlock = some q)) = true then 5 else 0,
    ⟨h.box, HRow.mono h.form (Nat.zero_le _), hd.rd.kp (Tn.of_below (S := fun _ => False) h.bl).kpX, HRow.mono ho (Nat.zero_le _), HRow.mono h.rows (Nat.zero_le _), h.n, fun k a c => HRow.mono (h.vals k a c) (Nat.zero_le _), HRow.mono h.nx (Nat.zero_le _), h.sep, if_pos rfl, fun q hq => ?_, fun q hq => ?_, fun q hq => ?_, fun k hk q hq => ?_, fun q hq => (hin q hq).2, hd.len, hd.srt⟩, fun q hq => (hin q hq).1, h.bl⟩
  · have hq : ov.ownBlock = some q := hq
    show (if q = O then 1 else _) = 2
    rw [if_neg (hO ho (by decide) q hq), if_pos hq]
  · have hq : rv.ownBlock = some q := hq
    show (if q = O then 1 else if ov.ownBlock = some q then 2 else _) = 3
    rw [if_neg (hO h.rows (by decide) q hq), if_neg (h.rows.apart ho (by decide) hq), if_pos hq]
  · have hq : nv.ownBlock = some q := hq
    show (if q = O then 1 else if ov.ownBlock = some q then 2 else if rv.ownBlock = some q then 3 else _) = 4
    rw [if_neg (hO h.nx (by decide) q hq), if_neg (h.nx.apart ho (by decide) hq), if_neg (h.nx.apart h.rows (by decide) hq), if_pos hq]
  · have hq : vs[k].ownBlock = some q := hq
    have hk : k < vs.length := hk
    show (if q = O then 1 else if ov.ownBlock = some q then 2 else if rv.ownBlock = some q then 3 else if nv.ownBlock = some q then 4 else _) = 5
    have hr := hrow k hk
    rw [if_neg (hO hr (by decide) q hq), if_neg (hr.apart ho (by decide) hq), if_neg (hr.apart h.rows (by decide) hq), if_neg (hr.apart h.nx (by decide) hq), if_pos (List.any_eq_true.2 ⟨_, List.getElem_mem hk, by simp [hq]⟩)]
end
end Go.Proofs.YtffpmmphpdkkbaaGreat
namespace Go.Proofs.YtffpmmphpdkkbaaGreat
open Go Go.RowKit Go.Proofs Co Co.S
/-- What holds where a row is appended to the copy. -/
structure KJ (W0 : World) (E : Nat → Value) (rv : Value) (n : Nat) (xs : List Value) (id : Int) (vals : List T3) (l : Nat → Bool) (vs : Nat → Value) (w : World) : Prop where
  gb : W0.grownBy w rv.ownBlock
  f0 : l 26 = false → Below W0.heap.size W0 w
  ev : ∀ j, j < 23 → l j = true → vs j = E j
  f23 : l 23 = true → ∃ g c, vs 23 = .slice (some ⟨g, 0, none⟩) vals.length c ∧ HRow w 0 53 3 (.slice (some ⟨g, 0, none⟩) vals.length c) vals.length (cells3 vals) ∧ W0.heap.size ≤ g
  f24 : l 24 = true → vs 24 = .agg #[.int .i64 id, vs 23]
  f25 : l 25 = true → l 26 = false → ∃ y, w = y.alloc (.cells #[.int .i64 id, vs 23] 90) ∧ vs 25 = .slice (some ⟨y.heap.size, 0, none⟩) 1 1 ∧ Below W0.heap.size W0 y ∧ ∀ q, (vs 23).ownBlock = some q → q < y.heap.size
  f26 : l 26 = true → ∃ g cap, vs 26 = .slice (some ⟨g, 0, none⟩) (n + 1) cap ∧ HRow w 0 90 2 (.slice (some ⟨g, 0, none⟩) (n + 1) cap) (n + 1) (xs ++ [.int .i64 id, vs 23]) ∧ (rv.ownBlock = some g ∨ W0.heap.size ≤ g) ∧ ∀ q, (vs 23).ownBlock = some q → q ≠ g
section
open Par
variable {W0 w w' : World} {E : Nat → Value} {rv : Value} {n : Nat} {xs : List Value} {id : Int} {vals : List T3} {l : Nat → Bool} {vs : Nat → Value}
theorem KJ.up (h : KJ W0 E rv n xs id vals l vs w) (i : Nat) (hi : i < 23) : KJ W0 E rv n xs id vals (upB l i) (upV vs i (E i)) w := by
  have k : ∀ j, j = 23 ∨ j = 24 ∨ j = 25 ∨ j = 26 → upB l i j = l j ∧ upV vs i (E i) j = vs j := fun j hj => ⟨upB_ne (by omega), upV_ne (by omega)⟩
  refine ⟨h.gb, fun hl => h.f0 ((k 26 (by simp)).1 ▸ hl), fun j hj hl => ?_, fun hl => ?_, fun hl => ?_, fun h1 h2 => ?_, fun hl => ?_⟩
  · by_cases e : j = i
    · subst e; rw [upV_eq]
    · rw [upV_ne e]; rw [upB_ne e] at hl; exact h.ev j hj hl
  · rw [(k 23 (by simp)).1] at hl
    rw [(k 23 (by simp)).2]; exact h.f23 hl
  · rw [(k 24 (by simp)).1] at hl
    rw [(k 24 (by simp)).2, (k 23 (by simp)).2]; exact h.f24 hl
  · rw [(k 25 (by simp)).1] at h1
    rw [(k 26 (by simp)).1] at h2
    rw [(k 25 (by simp)).2, (k 23 (by simp)).2]; exact h.f25 h1 h2
  · rw [(k 26 (by simp)).1] at hl
    rw [(k 26 (by simp)).2, (k 23 (by simp)).2]; exact h.f26 hl
theorem KJ.s23 (h : KJ W0 E rv n xs id vals l vs w) (h15 : l 24 = false) (h16 : l 25 = false) (h17 : l 26 = false) {g c : Nat} (hr : HRow w' w.heap.size 53 3 (.slice (some ⟨g, 0, none⟩) vals.length c) vals.length (cells3 vals)) (hb : Below w.heap.size w w') :
    KJ W0 E rv n xs id vals (upB l 23) (upV vs 23 (.slice (some ⟨g, 0, none⟩) vals.length c)) w' := by
  have hb2 := below_on (h.f0 h17) hb
  refine ⟨grownB hb2, fun _ => hb2, fun j hj hl => ?_, fun _ => ⟨g, c, upV_eq, HRow.mono hr (Nat.zero_le _), Nat.le_trans (h.f0 h17).size (HRow.lt hr g rfl).1⟩, fun hl => ?_, fun hl => ?_, fun hl => ?_⟩
  · rw [upV_ne (by omega)]; rw [upB_ne (by omega)] at hl; exact h.ev j hj hl
  · rw [upB_ne (by decide), h15] at hl; cases hl
  · rw [upB_ne (by decide), h16] at hl; cases hl
  · rw [upB_ne (by decide), h17] at hl; cases hl
theorem KJ.s24 (h : KJ W0 E rv n xs id vals l vs w) (h16 : l 25 = false) (h17 : l 26 = false) : KJ W0 E rv n xs id vals (upB l 24) (upV vs 24 (.agg #[.int .i64 id, vs 23])) w := by
  refine ⟨h.gb, fun _ => h.f0 h17, fun j hj hl => ?_, fun hl => ?_, fun _ => ?_, fun hl => ?_, fun hl => ?_⟩
  · rw [upV_ne (by omega)]; rw [upB_ne (by omega)] at hl; exact h.ev j hj hl
  · rw [upB_ne (by decide)] at hl
    rw [upV_ne (by decide)]; exact h.f23 hl
  · rw [upV_eq, upV_ne (by decide)]
  · rw [upB_ne (by decide), h16] at hl; cases hl
  · rw [upB_ne (by decide), h17] at hl; cases hl
theorem KJ.s25 (h : KJ W0 E rv n xs id vals l vs w) (h14 : l 23 = true) (h17 : l 26 = false) : KJ W0 E rv n xs id vals (upB l 25) (upV vs 25 (.slice (some ⟨w.heap.size, 0, none⟩) 1 1)) (w.alloc (.cells #[.int .i64 id, vs 23] 90)) := by
  have hb2 := below_on (h.f0 h17) (below_alloc w (.cells #[.int .i64 id, vs 23] 90))
  obtain ⟨g, c, e, h1, h2⟩ := h.f23 h14
  refine ⟨grownB hb2, fun _ => hb2, fun j hj hl => ?_, fun hl => ?_, fun hl => ?_, fun _ _ => ⟨w, ?_, upV_eq, h.f0 h17, fun q hq => ?_⟩, fun hl => ?_⟩
  · rw [upV_ne (by omega)]; rw [upB_ne (by omega)] at hl; exact h.ev j hj hl
  · rw [upV_ne (by decide)]; exact ⟨g, c, e, h1.later (below_alloc _ _), h2⟩
  · rw [upB_ne (by decide)] at hl
    rw [upV_ne (by decide), upV_ne (by decide)]; exact h.f24 hl
  · rw [upV_ne (by decide)]
  · rw [upV_ne (by decide), e] at hq
    exact (HRow.lt h1 q hq).2
  · rw [upB_ne (by decide), h17] at hl; cases hl
theorem KJ.s26 (h : KJ W0 E rv n xs id vals l vs w) (h14 : l 23 = true) (hW : HRow W0 0 90 2 rv n xs) {y : World} {v : Value} (h16 : w = y.alloc (.cells #[.int .i64 id, vs 23] 90)) (hy : Below W0.heap.size W0 y) (h14y : ∀ q, (vs 23).ownBlock = some q → q < y.heap.size) {g cap : Nat}
    (hv : v = .slice (some ⟨g, 0, none⟩) (n + 1) cap) (hr : HRow w' 0 90 2 (.slice (some ⟨g, 0, none⟩) (n + 1) cap) (n + 1) (xs ++ [.int .i64 id, vs 23])) (hg : y.grownBy w' rv.ownBlock) (ho : rv.ownBlock = some g ∨ y.heap.size ≤ g) :
    KJ W0 E rv n xs id vals (upB l 26) (upV vs 26 v) w' := by
  obtain ⟨g14, c, e, h1, h2⟩ := h.f23 h14
  have hrl : ∀ q, rv.ownBlock = some q → q < W0.heap.size := fun q hq => (HRow.lt hW q hq).2
  have hlt : g14 < y.heap.size := h14y g14 (by rw [e]; rfl)
  have hgb : W0.grownBy w' rv.ownBlock := ⟨hg.os.trans hy.os, hg.tape.trans hy.tape, hg.output.trans hy.output, Nat.le_trans hy.size hg.size, fun q hq hn => (hg.block q (Nat.lt_of_lt_of_le hq hy.size) hn).trans (hy.block q hq)⟩
  refine ⟨hgb, fun hl => ?_, fun j hj hl => ?_, fun hl => ?_, fun hl => ?_, fun _ hl => ?_, fun _ => ⟨g, cap, upV_eq.trans hv, ?_, ho.imp (fun h => h) (fun h => Nat.le_trans hy.size h), fun q hq e2 => ?_⟩⟩
  · rw [upB_eq] at hl; cases hl
  · rw [upV_ne (by omega)]; rw [upB_ne (by omega)] at hl; exact h.ev j hj hl
  · rw [upV_ne (by decide)]
    refine ⟨g14, c, e, h1.of (fun k hk => ?_), h2⟩
    cases hk
    rw [hg.block g14 hlt (fun e => by have := hrl g14 e.symm; omega), h16]
    exact (below_alloc y _).block g14 hlt |>.symm
  · rw [upB_ne (by decide)] at hl
    rw [upV_ne (by decide), upV_ne (by decide)]; exact h.f24 hl
  · rw [upB_eq] at hl; cases hl
  · rw [upV_ne (by decide)]; exact hr
  · rw [upV_ne (by decide), e] at hq
    cases hq
    subst e2
    rcases ho with h3 | h3
    · have := hrl g14 h3; omega
    · exact absurd hlt (Nat.not_lt.2 h3)
end

/-- What holds where the form and the numbers are copied. -/
structure RJ (W : World) (E : Nat → Value) (xs ys : List Value) (l : Nat → Bool) (vs : Nat → Value) (w : World) : Prop where
  bl : Below W.heap.size W w
  ev : ∀ j, j ≠ 4 → j ≠ 9 → j ≠ 10 → l j = true → vs j = E j
  f4 : l 4 = true → HRow w W.heap.size 29 4 (vs 4) 1 xs
  f9 : l 9 = true → HRow w W.heap.size 3 1 (vs 9) 1 ys
  f10 : l 10 = true → vs 10 = .agg #[vs 4, .slice none 0 0, vs 9]
section
open Par
variable {W w w' : World} {E : Nat → Value} {xs ys : List Value} {l : Nat → Bool} {vs : Nat → Value}
theorem RJ.v4 (h : RJ W E xs ys l vs w) (h4 : l 4 = true) : ∃ p c, vs 4 = .slice p 1 c := by
  obtain ⟨p, c, e, _⟩ := (h.f4 h4).isslice
  exact ⟨p, c, e⟩
theorem RJ.v9 (h : RJ W E xs ys l vs w) (h4 : l 9 = true) : ∃ p c, vs 9 = .slice p 1 c := by
  obtain ⟨p, c, e, _⟩ := (h.f9 h4).isslice
  exact ⟨p, c, e⟩
theorem RJ.up (h : RJ W E xs ys l vs w) (i : Nat) (hi : i ≠ 4 ∧ i ≠ 9 ∧ i ≠ 10) : RJ W E xs ys (upB l i) (upV vs i (E i)) w := by
  have e : ∀ j, j = 4 ∨ j = 9 ∨ j = 10 → upB l i j = l j ∧ upV vs i (E i) j = vs j := fun j hj => ⟨upB_ne (by omega), upV_ne (by omega)⟩
  refine ⟨h.bl, fun j a b c hl => ?_, fun hl => ?_, fun hl => ?_, fun hl => ?_⟩
  · by_cases e : j = i
    · subst e; rw [upV_eq]
    · rw [upV_ne e]; rw [upB_ne e] at hl; exact h.ev j a b c hl
  · rw [(e 4 (by simp)).1] at hl
    rw [(e 4 (by simp)).2]; exact h.f4 hl
  · rw [(e 9 (by simp)).1] at hl
    rw [(e 9 (by simp)).2]; exact h.f9 hl
  · rw [(e 10 (by simp)).1] at hl
    rw [(e 10 (by simp)).2, (e 4 (by simp)).2, (e 9 (by simp)).2]; exact h.f10 hl
theorem RJ.s4 (h : RJ W E xs ys l vs w) (h10 : l 10 = false) {v : Value} (hr : HRow w' w.heap.size 29 4 v 1 xs) (hb : Below w.heap.size w w') : RJ W E xs ys (upB l 4) (upV vs 4 v) w' := by
  refine ⟨below_on h.bl hb, fun j a b c hl => ?_, fun hl => ?_, fun hl => ?_, fun hl => ?_⟩
  · rw [upV_ne a]; rw [upB_ne a] at hl; exact h.ev j a b c hl
  · rw [upV_eq]; exact HRow.mono hr h.bl.size
  · rw [upB_ne (by decide)] at hl
    rw [upV_ne (by decide)]; exact (h.f9 hl).later hb
  · rw [upB_ne (by decide), h10] at hl; cases hl
theorem RJ.s9 (h : RJ W E xs ys l vs w) (h10 : l 10 = false) {v : Value} (hr : HRow w' w.heap.size 3 1 v 1 ys) (hb : Below w.heap.size w w') : RJ W E xs ys (upB l 9) (upV vs 9 v) w' := by
  refine ⟨below_on h.bl hb, fun j a b c hl => ?_, fun hl => ?_, fun hl => ?_, fun hl => ?_⟩
  · rw [upV_ne b]; rw [upB_ne b] at hl; exact h.ev j a b c hl
  · rw [upB_ne (by decide)] at hl
    rw [upV_ne (by decide)]; exact (h.f4 hl).later hb
  · rw [upV_eq]; exact HRow.mono hr h.bl.size
  · rw [upB_ne (by decide), h10] at hl; cases hl
theorem RJ.s10 (h : RJ W E xs ys l vs w) : RJ W E xs ys (upB l 10) (upV vs 10 (.agg #[vs 4, .slice none 0 0, vs 9])) w := by
  refine ⟨h.bl, fun j a b c hl => ?_, fun hl => ?_, fun hl => ?_, fun hl => ?_⟩
  · rw [upV_ne c]; rw [upB_ne c] at hl; exact h.ev j a b c hl
  · rw [upB_ne (by decide)] at hl
    rw [upV_ne (by decide)]; exact h.f4 hl
  · rw [upB_ne (by decide)] at hl
    rw [upV_ne (by decide)]; exact h.f9 hl
  · rw [upV_eq, upV_ne (by decide), upV_ne (by decide)]
end
section
variable {W w w' : World} {O : Nat} {t : T} {next : Nat} {fc fd sv ov nv rv : Value} {A : List R1} {vs : List Value}
/-- The list of rows is laid. -/
theorem CpD.setouter (h : CpD W w O t next fc fd sv ov nv rv A vs) {v : Value} (hv : HRow w' W.heap.size 88 1 v 1 [rv]) (hb : Below w.heap.size w w') : CpD W (w'.setCell ⟨O, 1, none⟩ v) O t next fc fd sv v nv rv A vs ∧ HRow (w'.setCell ⟨O, 1, none⟩ v) W.heap.size 88 1 v 1 [rv] := by
  have h' := h.later hb
  have hO : ∀ {base : Nat} {e : TypeId} {s : Nat} {u : Value} {n : Nat} {xs : List Value}, HRow w' base e s u n xs → e ≠ 37 → ∀ q, u.ownBlock = some q → q ≠ O := fun hu hne q hq e => by
    obtain ⟨_, c1, h1⟩ := hu.block q hq
    rw [e, h'.box] at h1
    simp at h1
    exact hne h1.2.symm
  have hk : ∀ {base : Nat} {e : TypeId} {s : Nat} {u : Value} {n : Nat} {xs : List Value}, HRow w' base e s u n xs → e ≠ 37 → HRow (w'.setCell ⟨O, 1, none⟩ v) base e s u n xs := fun hu hne => hu.of (fun q hq => heap_setCell_other _ ⟨O, 1, none⟩ q _ (hO hu hne q hq))
  refine ⟨⟨h'.bl.trans ⟨rfl, rfl, rfl, by simp, fun q hq => heap_setCell_other _ ⟨O, 1, none⟩ q _ (by have := h.lo; show q ≠ O; omega)⟩, h.lo, heap_setCell_same _ O 1 _ _ _ h'.box, hk h'.form (by decide), hk h'.nx (by decide), hk h'.rows (by decide), h.n, fun k a b => hk (h'.vals k a b) (by decide), h.sep⟩, hk hv (by decide)⟩
end
section
variable {W : World} {b next : Nat} {t : T} {A : List R1} {i : DI} {lab : Nat → Nat}
set_option maxRecDepth 100000 in
set_option maxHeartbeats 8000000 in
theorem dcopy_any (h : DbM W b t next A i lab) (hAl : A.length ≤ 100000) (h0 : 0 < t.cols.length) (hc : t.cols.length ≤ 1000) :
    Calls Tryz.prog 11 #[(Value.pointer (some ⟨b, 0, none⟩))] W fun e w' => ∃ ob i' lab', e = .returned (Value.pointer (some ⟨ob, 0, none⟩)) ∧ DbM w' ob t next A i' lab' ∧ (∀ q, lab' q ≠ 0 → W.heap.size ≤ q) ∧ Below W.heap.size W w' := by
  obtain ⟨go, co, o1, o2, o3, o4⟩ := h.outerC
  obtain ⟨pr, cr, hrv, _, _⟩ := h.rows.isslice
  obtain ⟨n, hn⟩ : ∃ n, A.length = n := ⟨_, rfl⟩
  have hn2 : (n : Int) ≤ 100000 := by omega
  have xl := lt_of_heap h.box
  have hone : ∀ u ∈ [Value.string t.nm, i.fc, .string t.key, i.fd], u.oneCell' = true := by
    obtain ⟨_, _, e1, _⟩ := h.rd.1.slice
    obtain ⟨_, _, e2, _⟩ := h.rd.2.slice
    rw [e1, e2]
    intro u hu
    rcases List.mem_cons.1 hu with rfl | hu
    · rfl
    rcases List.mem_cons.1 hu with rfl | hu
    · rfl
    rcases List.mem_cons.1 hu with rfl | hu
    · rfl
    · rw [List.mem_singleton.1 hu]; rfl
  have x0 : W.cell? ⟨b, 0, none⟩ = some i.sv := nd_cell h.box 0
  have x2 : W.cell? ⟨b, 2, none⟩ = some i.nv := nd_cell h.box 2
  have HX : Hid (∀ w, Below W.heap.size W w → b < w.heap.size ∧ w.cell? ⟨b, 0, none⟩ = some i.sv ∧ w.cell? ⟨b, 2, none⟩ = some i.nv) := Lib.hid (fun w hg =>
    ⟨Nat.lt_of_lt_of_le xl hg.size, (World.cell?_of_block (w := W) (hg.block b xl)).trans x0, (World.cell?_of_block (w := W) (hg.block b xl)).trans x2⟩)
  have HD := Lib.hid (And.intro h (And.intro o1 hone))
  have HN := Lib.hid (And.intro hn hAl)
  have HC0 := Lib.hid (And.intro h0 hc)
  rw [hrv, hn] at o3
  have HO := Lib.hid (And.intro o2 (And.intro o3 (And.intro o4 (And.intro xl hrv))))
  clear h o1 o2 o3 o4 hrv hn hAl hone x0 x2 xl h0 hc
  go_enter Tryz.func11, Tryz.ntmps11
  go_upto_region 1 with fail
  refine Par.wp_region_par4 11 (RJ W (fun idx => [(Value.pointer (some ⟨b, 0, none⟩)), (Value.pointer (some ⟨b, 0, none⟩)), (Value.pointer (some ⟨b, 0, none⟩)), i.sv, undef, (Value.pointer (some ⟨b, 0, none⟩)), (Value.pointer (some ⟨b, 0, none⟩)), (Value.pointer (some ⟨b, 2, none⟩)), i.nv].getD idx undef) [.string t.nm, i.fc, .string t.key, i.fd] [.int .i64 (next : Int)]) ?AA ?hmA ?hBA ?hAA ?hJA ?hopA ?hTA
  case hmA => kernel_rfl
  case hBA => kernel_rfl
  case hAA =>
    intro vs
    simp only [Par.putA, Par.dstAt, Act.put, List.getElem?_toArray, List.getElem?_cons_zero, List.getElem?_cons_succ, Option.bind_some, List.setIfInBounds_toArray, List.set_cons_zero, List.set_cons_succ]
    rfl
  case hJA =>
    intro vs
    exact ⟨below_drew W, fun _ _ _ _ h => (by cases h), fun h => (by cases h), fun h => (by cases h), fun h => (by cases h)⟩
  case hopA =>
    simp only [List.take_succ_cons, List.take_zero, Par.GiveAllK, and_true]
    refine ⟨fun l vs w hJ hl hd hcl => ?_, fun l vs w hJ hl hd hcl => ?_, fun l vs w hJ hl hd hcl => ?_, fun l vs w hJ hl hd hcl => ?_, fun l vs w hJ hl hd hcl => ?_, fun l vs w hJ hl hd hcl => ?_, fun l vs w hJ hl hd hcl => ?_, fun l vs w hJ hl hd hcl => ?_, fun l vs w hJ hl hd hcl => ?_, fun l vs w hJ hl hd hcl => ?_, fun l vs w hJ hl hd hcl => ?_⟩
    · have HJ := Lib.hid hJ
      obtain ⟨y1, y2, y3⟩ := HX.out w hJ.bl
      clear hJ hd hcl
      simp only [Par.GivesW]
      go_simp
      all_goals exact HJ.out.up 0 (by decide)
    · have HJ := Lib.hid hJ
      obtain ⟨y1, y2, y3⟩ := HX.out w hJ.bl
      have d0 : vs 0 = (Value.pointer (some ⟨b, 0, none⟩)) := hJ.ev 0 (by decide) (by decide) (by decide) (hd 0 (by kernel_rfl))
      clear hJ hd hcl
      simp only [Par.GivesW, d0]
      go_simp
      all_goals exact HJ.out.up 1 (by decide)
    · have HJ := Lib.hid hJ
      obtain ⟨y1, y2, y3⟩ := HX.out w hJ.bl
      have d1 : vs 1 = (Value.pointer (some ⟨b, 0, none⟩)) := hJ.ev 1 (by decide) (by decide) (by decide) (hd 1 (by kernel_rfl))
      clear hJ hd hcl
      simp only [Par.GivesW, d1]
      go_simp
      all_goals exact HJ.out.up 2 (by decide)
    · have HJ := Lib.hid hJ
      obtain ⟨y1, y2, y3⟩ := HX.out w hJ.bl
      have d2 : vs 2 = (Value.pointer (some ⟨b, 0, none⟩)) := hJ.ev 2 (by decide) (by decide) (by decide) (hd 2 (by kernel_rfl))
      clear hJ hd hcl
      simp only [Par.GivesW, d2]
      go_simp
      all_goals exact HJ.out.up 3 (by decide)
    · have h10 : l 10 = false := by cases h : l 10 with | false => rfl | true => exact absurd (hcl 10 4 (by kernel_rfl) h) (by simp [hl])
      have d3 : vs 3 = i.sv := hJ.ev 3 (by decide) (by decide) (by decide) (hd 3 (by kernel_rfl))
      obtain ⟨v', w6, hrun, hr6, hb6⟩ := app_nil Tryz.underlying33 infoTable rfl (by decide) (by decide) w (HD.out.1.later hJ.bl).form (by intro u hu; exact HD.out.2.2 u hu)
      exact Par.gives_append rfl (.const (.slice none 0 0)) (.tmp 10) 33 33 rfl rfl d3 hrun (hJ.s4 h10 hr6 hb6)
    · have HJ := Lib.hid hJ
      obtain ⟨y1, y2, y3⟩ := HX.out w hJ.bl
      clear hJ hd hcl
      simp only [Par.GivesW]
      go_simp
      all_goals exact HJ.out.up 5 (by decide)
    · have HJ := Lib.hid hJ
      obtain ⟨y1, y2, y3⟩ := HX.out w hJ.bl
      have d5 : vs 5 = (Value.pointer (some ⟨b, 0, none⟩)) := hJ.ev 5 (by decide) (by decide) (by decide) (hd 5 (by kernel_rfl))
      clear hJ hd hcl
      simp only [Par.GivesW, d5]
      go_simp
      all_goals exact HJ.out.up 6 (by decide)
    · have HJ := Lib.hid hJ
      obtain ⟨y1, y2, y3⟩ := HX.out w hJ.bl
      have d6 : vs 6 = (Value.pointer (some ⟨b, 0, none⟩)) := hJ.ev 6 (by decide) (by decide) (by decide) (hd 6 (by kernel_rfl))
      clear hJ hd hcl
      simp only [Par.GivesW, d6]
      go_simp
      all_goals exact HJ.out.up 7 (by decide)
    · have HJ := Lib.hid hJ
      obtain ⟨y1, y2, y3⟩ := HX.out w hJ.bl
      have d7 : vs 7 = (Value.pointer (some ⟨b, 2, none⟩)) := hJ.ev 7 (by decide) (by decide) (by decide) (hd 7 (by kernel_rfl))
      clear hJ hd hcl
      simp only [Par.GivesW, d7]
      go_simp
      all_goals exact HJ.out.up 8 (by decide)
    · have h10 : l 10 = false := by cases h : l 10 with | false => rfl | true => exact absurd (hcl 10 9 (by kernel_rfl) h) (by simp [hl])
      have d8 : vs 8 = i.nv := hJ.ev 8 (by decide) (by decide) (by decide) (hd 8 (by kernel_rfl))
      obtain ⟨v', w6, hrun, hr6, hb6⟩ := app_nil Tryz.underlying35 info3 rfl (by decide) (by decide) w (HD.out.1.later hJ.bl).nx (by intro u hu; rw [List.mem_singleton.1 hu]; rfl)
      exact Par.gives_append rfl (.const (.slice none 0 0)) (.tmp 15) 35 35 rfl rfl d8 hrun (hJ.s9 h10 hr6 hb6)
    · obtain ⟨p4, c4, e4⟩ := hJ.v4 (hd 4 (by kernel_rfl))
      obtain ⟨p9, c9, e9⟩ := hJ.v9 (hd 9 (by kernel_rfl))
      have HJ := Lib.hid hJ.s10
      rw [e4, e9] at HJ
      clear hJ hd hcl
      simp only [Par.GivesW, e4, e9]
      go_simp
      all_goals exact HJ.out
  case hTA =>
    intro l vs w4 hl hJ
    simp only [List.drop_succ_cons, List.drop_zero]
    obtain ⟨p4, c4, e4⟩ := hJ.v4 (hl 4 (by decide))
    obtain ⟨p9, c9, e9⟩ := hJ.v9 (hl 9 (by decide))
    have e10 := hJ.f10 (hl 10 (by decide))
    have f4 := hJ.f4 (hl 4 (by decide))
    have f9 := hJ.f9 (hl 9 (by decide))
    rw [e4, e9] at e10
    rw [e4] at f4
    rw [e9] at f9
    have hbl := hJ.bl
    simp only [e10]
    generalize vs 0 = s0
    generalize vs 1 = s1
    generalize vs 2 = s2
    generalize vs 3 = s3
    generalize vs 5 = s5
    generalize vs 6 = s6
    generalize vs 7 = s7
    generalize vs 8 = s8
    simp only [e4, e9]
    clear hJ hl e4 e9 e10
    go_upto_region 2 with fail
    have hx := heap_alloc_new w4 (.cells #[.slice p4 1 c4, .slice none 0 0, .slice p9 1 c9] 37)
    have hb4 := below_alloc w4 (.cells #[.slice p4 1 c4, .slice none 0 0, .slice p9 1 c9] 37)
    have hcp : CpD W (w4.alloc (.cells #[.slice p4 1 c4, .slice none 0 0, .slice p9 1 c9] 37)) w4.heap.size t next i.fc i.fd (.slice p4 1 c4) (.slice none 0 0) (.slice p9 1 c9) (.slice none 0 0) [] [] :=
      ⟨below_on hbl hb4, hbl.size, hx, f4.later hb4, f9.later hb4, HRow.nil, rfl, fun _ h => (by cases h), fun _ _ h => (by cases h)⟩
    obtain ⟨w5, hw5⟩ : ∃ w5, w4.alloc (.cells #[.slice p4 1 c4, .slice none 0 0, .slice p9 1 c9] 37) = w5 := ⟨_, rfl⟩
    obtain ⟨O, hO⟩ : ∃ O, w4.heap.size = O := ⟨_, rfl⟩
    rw [hw5, hO] at hcp
    rw [hw5, hO]
    have HCP := Lib.hid hcp
    clear hx hb4 hw5 hO hcp f4 f9 hbl
    go_wp2_with fail
    go_loopg [4] 2 (fun gh iv w => (iv = .int .i64 0 ∧ 2 ≤ gh ∧ CpD W w O t next i.fc i.fd (.slice p4 1 c4) (.slice none 0 0) (.slice p9 1 c9) (.slice none 0 0) [] []) ∨ (iv = .int .i64 1 ∧ 1 ≤ gh ∧ ∃ ov rv vs, CpD W w O t next i.fc i.fd (.slice p4 1 c4) ov (.slice p9 1 c9) rv A vs ∧ HRow w W.heap.size 88 1 ov 1 [rv]))
    case atStart => exact .inl ⟨rfl, Nat.le_refl _, HCP.out⟩
    case round =>
      rcases hrel with ⟨rfl, hg, hC⟩ | ⟨rfl, hg, ov, rv, vsf, hC, hov⟩
      · obtain ⟨o2, o3, o4, xl, hrv⟩ := HO.out
        have x1 := (World.cell?_of_block (w := W) (hC.bl.block b xl)).trans o4
        have xl := Nat.lt_of_lt_of_le xl hC.bl.size
        have HC1 := Lib.hid hC
        clear o2 o3 o4 hrv hC
        go_upto_block 2 with fail
        go_cut [5] from 300 to 300 (fun lv wx => ∃ vs, CpD W wx O t next i.fc i.fd (.slice p4 1 c4) (.slice none 0 0) (.slice p9 1 c9) lv A vs)
        case first =>
          clear x1 xl
          go_wp2_with fail
          go_loopg [5, 6] (n + 1) (fun gh l0 kv w => ∃ (k : Nat) (vs : List Value) (lv : Value), lv = l0 ∧ kv = .int .i64 (k : Int) ∧ k ≤ n ∧ n + 1 ≤ k + gh ∧ CpD W w O t next i.fc i.fd (.slice p4 1 c4) (.slice none 0 0) (.slice p9 1 c9) lv (A.take k) vs)
          case atStart => exact ⟨0, [], _, rfl, rfl, Nat.zero_le _, by omega, HC1.out⟩
          case round =>
            obtain ⟨k, vl, lv, rfl, rfl, hk, hg, hC⟩ := hrel
            obtain ⟨o2, o3, o4, xl, hrv⟩ := HO.out
            have x1 := (World.cell?_of_block (w := W) (hC.bl.block b xl)).trans o4
            have x2 := (World.cell?_of_block (w := W) (hC.bl.block go o2)).trans o3
            have xl := Nat.lt_of_lt_of_le xl hC.bl.size
            by_cases hlt : k < n
            · have hki : (k : Int) < (n : Int) := by omega
              have hkA : k < A.length := by rw [HN.out.1]; exact hlt
              have hdW := HD.out.1.later hC.bl
              have hkv : k < i.vs.length := by rw [hdW.n]; exact hkA
              obtain ⟨gr, cr', e1, _, _⟩ := hdW.rows.slice (by omega)
              rw [hrv] at e1
              cases e1
              have hrows := hdW.rows
              rw [hrv] at hrows
              have hvals := hdW.vals k hkA hkv
              have hlen := hdW.len _ (List.getElem_mem hkA)
              obtain ⟨c1, c2⟩ := cellsR_at hdW.n hkA
              have z1 := hrows.cell c1
              have z2 := hrows.cell c2
              have zg := (HRow.lt hrows gr rfl).2
              obtain ⟨gv, cv, ev, _, _⟩ := hvals.slice (by rw [hlen]; exact HC0.out.1)
              obtain ⟨a, ha⟩ : ∃ a, A[k] = a := ⟨_, rfl⟩
              obtain ⟨m, hm⟩ : ∃ m, a.2.length = m := ⟨_, rfl⟩
              rw [ev] at z2 hvals
              rw [ha] at z1 z2 hvals hlen
              rw [hm] at z2 hvals hlen
              have hml : 0 < m ∧ m ≤ 1000 := by have := HC0.out; omega
              have HA := Lib.hid (And.intro ha (And.intro hm (And.intro hml (And.intro hvals trivial))))
              have hbk : ∀ w q, wr.grownBy w lv.ownBlock → q < W.heap.size → w.heap[q]? = wr.heap[q]? := fun w q hgb hq => hgb.block q (Nat.lt_of_lt_of_le hq hC.bl.size) (fun e => by have := (HRow.lt hC.rows q e.symm).1; omega)
              have hgrW : gr < W.heap.size := by
                have := HD.out.1.rows
                rw [hrv] at this
                exact (HRow.lt this gr rfl).2
              have hxW := HO.out.2.2.2.1
              have HX : Hid (∀ w, wr.grownBy w lv.ownBlock → b < w.heap.size ∧ gr < w.heap.size ∧ w.cell? ⟨b, 1, none⟩ = some (.slice (some ⟨go, 0, none⟩) 1 co) ∧ w.cell? ⟨go, 0, none⟩ = some (.slice (some ⟨gr, 0, none⟩) n cr) ∧ w.cell? ⟨gr, k * 2, none⟩ = some (.int .i64 a.1) ∧ w.cell? ⟨gr, k * 2 + 1, none⟩ = some (.slice (some ⟨gv, 0, none⟩) m cv) ∧ True) := Lib.hid (fun w hgb =>
                ⟨Nat.lt_of_lt_of_le xl hgb.size, Nat.lt_of_lt_of_le zg hgb.size, (World.cell?_of_block (w := wr) (hbk w b hgb hxW)).trans x1, (World.cell?_of_block (w := wr) (hbk w go hgb o2)).trans x2, (World.cell?_of_block (w := wr) (hbk w gr hgb hgrW)).trans z1, (World.cell?_of_block (w := wr) (hbk w gr hgb hgrW)).trans z2, trivial⟩)
              obtain ⟨Ak, hAk⟩ : ∃ Ak, A.take k = Ak := ⟨_, rfl⟩
              have hAkl : Ak.length ≤ 100000 := by rw [← hAk, List.length_take]; omega
              rw [hAk] at hC
              have HC := Lib.hid hC
              have HK := Lib.hid (And.intro hAk hAkl)
              clear o2 o3 o4 hrv hC hAk hAkl hdW hkv hrows hvals hlen c1 c2 z1 z2 zg ev ha hm hml hbk hgrW hxW
              go_upto_region 9 with fail
              clear x1 x2 xl
              refine Par.wp_region_par4 27 (KJ wr (fun idx => [lv, (Value.pointer (some ⟨b, 0, none⟩)), (Value.pointer (some ⟨b, 0, none⟩)), (Value.pointer (some ⟨b, 1, none⟩)), .slice (some ⟨go, 0, none⟩) 1 co, (Value.int .i64 (0)), (Value.pointer (some ⟨go, 0, none⟩)), .slice (some ⟨gr, 0, none⟩) n cr, (Value.int .i64 ((k : Int))), (Value.pointer (some ⟨gr, k * 2, none⟩)), (Value.pointer (some ⟨gr, k * 2, none⟩)), (Value.int .i64 (a.1)),
                (Value.pointer (some ⟨b, 0, none⟩)), (Value.pointer (some ⟨b, 0, none⟩)), (Value.pointer (some ⟨b, 1, none⟩)), .slice (some ⟨go, 0, none⟩) 1 co, (Value.int .i64 (0)), (Value.pointer (some ⟨go, 0, none⟩)), .slice (some ⟨gr, 0, none⟩) n cr, (Value.int .i64 ((k : Int))), (Value.pointer (some ⟨gr, k * 2, none⟩)), (Value.pointer (some ⟨gr, k * 2 + 1, none⟩)), .slice (some ⟨gv, 0, none⟩) m cv].getD idx undef) lv Ak.length (cellsR Ak vl) a.1 a.2) ?AB ?hmB ?hBB ?hAB ?hJB ?hopB ?hTB
              case hmB => kernel_rfl
              case hBB => kernel_rfl
              case hAB =>
                intro vs
                simp only [Par.putA, Par.dstAt, Act.put, List.getElem?_toArray, List.getElem?_cons_zero, List.getElem?_cons_succ, Option.bind_some, List.setIfInBounds_toArray, List.set_cons_zero, List.set_cons_succ]
                rfl
              case hJB =>
                intro vs
                have hd := below_drew wr
                exact ⟨grownB hd, fun _ => hd, fun _ _ h => (by cases h), fun h => (by cases h), fun h => (by cases h), fun h => (by cases h), fun h => (by cases h)⟩
              case hopB =>
                simp only [List.take_succ_cons, List.take_zero, Par.GiveAllK, and_true]
                refine ⟨fun l vs w hJ hl hd hcl => ?_, fun l vs w hJ hl hd hcl => ?_, fun l vs w hJ hl hd hcl => ?_, fun l vs w hJ hl hd hcl => ?_, fun l vs w hJ hl hd hcl => ?_, fun l vs w hJ hl hd hcl => ?_, fun l vs w hJ hl hd hcl => ?_, fun l vs w hJ hl hd hcl => ?_, fun l vs w hJ hl hd hcl => ?_, fun l vs w hJ hl hd hcl => ?_, fun l vs w hJ hl hd hcl => ?_, fun l vs w hJ hl hd hcl => ?_, fun l vs w hJ hl hd hcl => ?_, fun l vs w hJ hl hd hcl => ?_, fun l vs w hJ hl hd hcl => ?_, fun l vs w hJ hl hd hcl => ?_, fun l vs w hJ hl hd hcl => ?_, fun l vs w hJ hl hd hcl => ?_, fun l vs w hJ hl hd hcl => ?_, fun l vs w hJ hl hd hcl => ?_, fun l vs w hJ hl hd hcl => ?_, fun l vs w hJ hl hd hcl => ?_, fun l vs w hJ hl hd hcl => ?_, fun l vs w hJ hl hd hcl => ?_, fun l vs w hJ hl hd hcl => ?_, fun l vs w hJ hl hd hcl => ?_, fun l vs w hJ hl hd hcl => ?_⟩
                · have HJ := Lib.hid hJ
                  obtain ⟨y1, y2, y3, y4, y5, y6, y7⟩ := HX.out w hJ.gb
                  clear hJ hd hcl
                  simp only [Par.GivesW]
                  go_simp
                  all_goals exact HJ.out.up 0 (by decide)
                · have HJ := Lib.hid hJ
                  obtain ⟨y1, y2, y3, y4, y5, y6, y7⟩ := HX.out w hJ.gb
                  clear hJ hd hcl
                  simp only [Par.GivesW]
                  go_simp
                  all_goals exact HJ.out.up 1 (by decide)
                · have HJ := Lib.hid hJ
                  obtain ⟨y1, y2, y3, y4, y5, y6, y7⟩ := HX.out w hJ.gb
                  have d1 : vs 1 = (Value.pointer (some ⟨b, 0, none⟩)) := hJ.ev 1 (by decide) (hd 1 (by kernel_rfl))
                  clear hJ hd hcl
                  simp only [Par.GivesW, d1]
                  go_simp
                  all_goals exact HJ.out.up 2 (by decide)
                · have HJ := Lib.hid hJ
                  obtain ⟨y1, y2, y3, y4, y5, y6, y7⟩ := HX.out w hJ.gb
                  have d2 : vs 2 = (Value.pointer (some ⟨b, 0, none⟩)) := hJ.ev 2 (by decide) (hd 2 (by kernel_rfl))
                  clear hJ hd hcl
                  simp only [Par.GivesW, d2]
                  go_simp
                  all_goals exact HJ.out.up 3 (by decide)
                · have HJ := Lib.hid hJ
                  obtain ⟨y1, y2, y3, y4, y5, y6, y7⟩ := HX.out w hJ.gb
                  have d3 : vs 3 = (Value.pointer (some ⟨b, 1, none⟩)) := hJ.ev 3 (by decide) (hd 3 (by kernel_rfl))
                  clear hJ hd hcl
                  simp only [Par.GivesW, d3]
                  go_simp
                  all_goals exact HJ.out.up 4 (by decide)
                · have HJ := Lib.hid hJ
                  obtain ⟨y1, y2, y3, y4, y5, y6, y7⟩ := HX.out w hJ.gb
                  clear hJ hd hcl
                  simp only [Par.GivesW]
                  go_simp
                  all_goals exact HJ.out.up 5 (by decide)
                · have HJ := Lib.hid hJ
                  obtain ⟨y1, y2, y3, y4, y5, y6, y7⟩ := HX.out w hJ.gb
                  have d4 : vs 4 = .slice (some ⟨go, 0, none⟩) 1 co := hJ.ev 4 (by decide) (hd 4 (by kernel_rfl))
                  have d5 : vs 5 = (Value.int .i64 (0)) := hJ.ev 5 (by decide) (hd 5 (by kernel_rfl))
                  clear hJ hd hcl
                  simp only [Par.GivesW, d4, d5]
                  go_simp
                  all_goals exact HJ.out.up 6 (by decide)
                · have HJ := Lib.hid hJ
                  obtain ⟨y1, y2, y3, y4, y5, y6, y7⟩ := HX.out w hJ.gb
                  have d6 : vs 6 = (Value.pointer (some ⟨go, 0, none⟩)) := hJ.ev 6 (by decide) (hd 6 (by kernel_rfl))
                  clear hJ hd hcl
                  simp only [Par.GivesW, d6]
                  go_simp
                  all_goals exact HJ.out.up 7 (by decide)
                · have HJ := Lib.hid hJ
                  obtain ⟨y1, y2, y3, y4, y5, y6, y7⟩ := HX.out w hJ.gb
                  clear hJ hd hcl
                  simp only [Par.GivesW]
                  go_simp
                  all_goals exact HJ.out.up 8 (by decide)
                · have HJ := Lib.hid hJ
                  obtain ⟨y1, y2, y3, y4, y5, y6, y7⟩ := HX.out w hJ.gb
                  have d7 : vs 7 = .slice (some ⟨gr, 0, none⟩) n cr := hJ.ev 7 (by decide) (hd 7 (by kernel_rfl))
                  have d8 : vs 8 = (Value.int .i64 ((k : Int))) := hJ.ev 8 (by decide) (hd 8 (by kernel_rfl))
                  clear hJ hd hcl
                  simp only [Par.GivesW, d7, d8]
                  go_simp
                  all_goals exact HJ.out.up 9 (by decide)
                · have HJ := Lib.hid hJ
                  obtain ⟨y1, y2, y3, y4, y5, y6, y7⟩ := HX.out w hJ.gb
                  have d9 : vs 9 = (Value.pointer (some ⟨gr, k * 2, none⟩)) := hJ.ev 9 (by decide) (hd 9 (by kernel_rfl))
                  clear hJ hd hcl
                  simp only [Par.GivesW, d9]
                  go_simp
                  all_goals exact HJ.out.up 10 (by decide)
                · have HJ := Lib.hid hJ
                  obtain ⟨y1, y2, y3, y4, y5, y6, y7⟩ := HX.out w hJ.gb
                  have d10 : vs 10 = (Value.pointer (some ⟨gr, k * 2, none⟩)) := hJ.ev 10 (by decide) (hd 10 (by kernel_rfl))
                  clear hJ hd hcl
                  simp only [Par.GivesW, d10]
                  go_simp
                  all_goals exact HJ.out.up 11 (by decide)
                · have HJ := Lib.hid hJ
                  obtain ⟨y1, y2, y3, y4, y5, y6, y7⟩ := HX.out w hJ.gb
                  clear hJ hd hcl
                  simp only [Par.GivesW]
                  go_simp
                  all_goals exact HJ.out.up 12 (by decide)
                · have HJ := Lib.hid hJ
                  obtain ⟨y1, y2, y3, y4, y5, y6, y7⟩ := HX.out w hJ.gb
                  have d12 : vs 12 = (Value.pointer (some ⟨b, 0, none⟩)) := hJ.ev 12 (by decide) (hd 12 (by kernel_rfl))
                  clear hJ hd hcl
                  simp only [Par.GivesW, d12]
                  go_simp
                  all_goals exact HJ.out.up 13 (by decide)
                · have HJ := Lib.hid hJ
                  obtain ⟨y1, y2, y3, y4, y5, y6, y7⟩ := HX.out w hJ.gb
                  have d13 : vs 13 = (Value.pointer (some ⟨b, 0, none⟩)) := hJ.ev 13 (by decide) (hd 13 (by kernel_rfl))
                  clear hJ hd hcl
                  simp only [Par.GivesW, d13]
                  go_simp
                  all_goals exact HJ.out.up 14 (by decide)
                · have HJ := Lib.hid hJ
                  obtain ⟨y1, y2, y3, y4, y5, y6, y7⟩ := HX.out w hJ.gb
                  have d14 : vs 14 = (Value.pointer (some ⟨b, 1, none⟩)) := hJ.ev 14 (by decide) (hd 14 (by kernel_rfl))
                  clear hJ hd hcl
                  simp only [Par.GivesW, d14]
                  go_simp
                  all_goals exact HJ.out.up 15 (by decide)
                · have HJ := Lib.hid hJ
                  obtain ⟨y1, y2, y3, y4, y5, y6, y7⟩ := HX.out w hJ.gb
                  clear hJ hd hcl
                  simp only [Par.GivesW]
                  go_simp
                  all_goals exact HJ.out.up 16 (by decide)
                · have HJ := Lib.hid hJ
                  obtain ⟨y1, y2, y3, y4, y5, y6, y7⟩ := HX.out w hJ.gb
                  have d15 : vs 15 = .slice (some ⟨go, 0, none⟩) 1 co := hJ.ev 15 (by decide) (hd 15 (by kernel_rfl))
                  have d16 : vs 16 = (Value.int .i64 (0)) := hJ.ev 16 (by decide) (hd 16 (by kernel_rfl))
                  clear hJ hd hcl
                  simp only [Par.GivesW, d15, d16]
                  go_simp
                  all_goals exact HJ.out.up 17 (by decide)
                · have HJ := Lib.hid hJ
                  obtain ⟨y1, y2, y3, y4, y5, y6, y7⟩ := HX.out w hJ.gb
                  have d17 : vs 17 = (Value.pointer (some ⟨go, 0, none⟩)) := hJ.ev 17 (by decide) (hd 17 (by kernel_rfl))
                  clear hJ hd hcl
                  simp only [Par.GivesW, d17]
                  go_simp
                  all_goals exact HJ.out.up 18 (by decide)
                · have HJ := Lib.hid hJ
                  obtain ⟨y1, y2, y3, y4, y5, y6, y7⟩ := HX.out w hJ.gb
                  clear hJ hd hcl
                  simp only [Par.GivesW]
                  go_simp
                  all_goals exact HJ.out.up 19 (by decide)
                · have HJ := Lib.hid hJ
                  obtain ⟨y1, y2, y3, y4, y5, y6, y7⟩ := HX.out w hJ.gb
                  have d18 : vs 18 = .slice (some ⟨gr, 0, none⟩) n cr := hJ.ev 18 (by decide) (hd 18 (by kernel_rfl))
                  have d19 : vs 19 = (Value.int .i64 ((k : Int))) := hJ.ev 19 (by decide) (hd 19 (by kernel_rfl))
                  clear hJ hd hcl
                  simp only [Par.GivesW, d18, d19]
                  go_simp
                  all_goals exact HJ.out.up 20 (by decide)
                · have HJ := Lib.hid hJ
                  obtain ⟨y1, y2, y3, y4, y5, y6, y7⟩ := HX.out w hJ.gb
                  have d20 : vs 20 = (Value.pointer (some ⟨gr, k * 2, none⟩)) := hJ.ev 20 (by decide) (hd 20 (by kernel_rfl))
                  clear hJ hd hcl
                  simp only [Par.GivesW, d20]
                  go_simp
                  all_goals exact HJ.out.up 21 (by decide)
                · have HJ := Lib.hid hJ
                  obtain ⟨y1, y2, y3, y4, y5, y6, y7⟩ := HX.out w hJ.gb
                  have d21 : vs 21 = (Value.pointer (some ⟨gr, k * 2 + 1, none⟩)) := hJ.ev 21 (by decide) (hd 21 (by kernel_rfl))
                  clear hJ hd hcl
                  simp only [Par.GivesW, d21]
                  go_simp
                  all_goals exact HJ.out.up 22 (by decide)
                · have h24 : l 24 = false := by cases h : l 24 with | false => rfl | true => exact absurd (hcl 24 23 (by kernel_rfl) h) (by simp [hl])
                  have h25 : l 25 = false := by cases h : l 25 with | false => rfl | true => exact absurd (hcl 25 24 (by kernel_rfl) h) (by simp [h24])
                  have h26 : l 26 = false := by cases h : l 26 with | false => rfl | true => exact absurd (hcl 26 25 (by kernel_rfl) h) (by simp [h25])
                  have d22 : vs 22 = .slice (some ⟨gv, 0, none⟩) m cv := hJ.ev 22 (by decide) (hd 22 (by kernel_rfl))
                  obtain ⟨g1, k1, w6, hrun, hw6, hb6⟩ := app_vals (InV.of_row (HA.out.2.2.2.1.later (hJ.f0 h26)) HA.out.2.1.symm.symm) (by have := HA.out.2.1; have := HA.out.2.2.1; omega) (by have := HA.out.2.1; have := HA.out.2.2.1; omega)
                  exact Par.gives_append rfl (.const (.slice none 0 0)) (.tmp 62) 40 40 rfl rfl d22 hrun (hJ.s23 h24 h25 h26 hw6 hb6)
                · have h25 : l 25 = false := by cases h : l 25 with | false => rfl | true => exact absurd (hcl 25 24 (by kernel_rfl) h) (by simp [hl])
                  have h26 : l 26 = false := by cases h : l 26 with | false => rfl | true => exact absurd (hcl 26 25 (by kernel_rfl) h) (by simp [h25])
                  have d11 : vs 11 = (Value.int .i64 (a.1)) := hJ.ev 11 (by decide) (hd 11 (by kernel_rfl))
                  obtain ⟨g4, c4, e14, r14, z14⟩ := hJ.f23 (hd 23 (by kernel_rfl))
                  have HJ := Lib.hid (hJ.s24 h25 h26)
                  rw [e14] at HJ
                  clear hJ hd hcl r14
                  simp only [Par.GivesW, d11, e14]
                  go_simp
                  all_goals exact HJ.out
                · have h26 : l 26 = false := by cases h : l 26 with | false => rfl | true => exact absurd (hcl 26 25 (by kernel_rfl) h) (by simp [hl])
                  have h24 := hd 24 (by kernel_rfl)
                  have d24 := hJ.f24 h24
                  have h23 := hcl 24 23 (by kernel_rfl) h24
                  obtain ⟨g4, c4, e14, r14, z14⟩ := hJ.f23 h23
                  have HJ := Lib.hid (hJ.s25 h23 h26)
                  rw [e14] at HJ d24
                  clear hJ hd hcl r14
                  simp only [Par.GivesW, d24]
                  go_simp
                  all_goals exact HJ.out
                · have h25 := hd 25 (by kernel_rfl)
                  have h23 := hcl 24 23 (by kernel_rfl) (hcl 25 24 (by kernel_rfl) h25)
                  obtain ⟨y, rfl, e16, hy, h14y⟩ := hJ.f25 h25 hl
                  obtain ⟨g4, c4, e14, r14, z14⟩ := hJ.f23 h23
                  have d0 : vs 0 = lv := hJ.ev 0 (by decide) (hd 0 (by kernel_rfl))
                  have hrw := HC.out.rows.mono (Nat.zero_le _)
                  obtain ⟨g, cg, w6, hrun, hr6, hg6, ho6⟩ := app_row y (hrw.later hy) (by have := HK.out.2; omega) a.1 (vs 23) (by rw [e14]; rfl)
                  exact Par.gives_append rfl (.tmp 40) (.tmp 65) 88 88 rfl d0 e16 hrun (hJ.s26 h23 hrw rfl hy h14y rfl hr6 hg6 ho6)
              case hTB =>
                intro l vs w4 hl hJ
                simp only [List.drop_succ_cons, List.drop_zero]
                obtain ⟨g4, c4, e14, r14, z14⟩ := hJ.f23 (hl 23 (by decide))
                obtain ⟨g7, c7, e17, r17, z17, s17⟩ := hJ.f26 (hl 26 (by decide))
                rw [e14] at r17
                have hrd := HC.out.round (a := a) r14 (fun q hq => by cases hq; exact z14) r17 hJ.gb (fun g hg => by cases hg; exact z17)
                have HR := Lib.hid hrd
                simp only [e17]
                clear hrd hJ hl e14 r14 z14 r17 z17 s17 e17
                go_wp2_with fail
                go_roundg (n - k)
                case measure => omega
                case rel =>
                  have hkA : k < A.length := by rw [HN.out.1]; exact hlt
                  have et : A.take (k + 1) = A.take k ++ [a] := by rw [List.take_add_one, List.getElem?_eq_getElem hkA, HA.out.1]; rfl
                  rw [HK.out.1] at et
                  exact ⟨k + 1, _, _, rfl, rfl, by omega, by omega, by rw [et]; exact HR.out⟩
            · obtain rfl : k = n := by omega
              have HC := Lib.hid hC
              clear hrv o2 o3 o4 hC
              go_wp2_with fail
              go_meet
              have h1 := HC.out
              rw [List.take_of_length_le (by have := HN.out.1; omega)] at h1
              exact ⟨vl, h1⟩
        case rest =>
          obtain ⟨vl, hC⟩ := hcut
          obtain ⟨pl, cl, rfl, _, _⟩ := hC.rows.isslice
          have y1 := nd_cell hC.box 1
          have yl := lt_of_heap hC.box
          obtain ⟨g, cg, w6, hrun, hr6, hg6, _⟩ := app_one Tryz.underlying34 (ty := 34) infoRows rfl (by decide) (by decide) wc W.heap.size (HRow.nil (w := wc) (base := W.heap.size)) (by decide) hC.bl.size #[.slice pl A.length cl] rfl (by intro u hu; rw [List.mem_singleton.1 hu]; rfl)
          have hb6 : Below wc.heap.size wc w6 := ⟨hg6.os, hg6.tape, hg6.output, hg6.size, fun q hq => hg6.block q hq (by simp [Value.ownBlock])⟩
          have hso := hC.setouter hr6 hb6
          have z6 := hC.later hb6
          have u1 := nd_cell z6.box 1
          have u2 := lt_of_heap z6.box
          have u3 := frozen_of_row w6 O 1 _ _ z6.box
          have HS := Lib.hid hso
          clear hC hr6 hg6 hb6 hso z6 x1 xl
          go_wp2_with (at_builtin; refine wpList_append_run rfl (.tmp 71) (.tmp 73) 34 rfl rfl rfl hrun ?_)
          go_roundg 1
          case measure => omega
          case rel => exact .inr ⟨rfl, Nat.le_refl _, _, _, _, HS.out.1, HS.out.2⟩
      · obtain ⟨o2, o3, o4, xl, hrv⟩ := HO.out
        have x1 := (World.cell?_of_block (w := W) (hC.bl.block b xl)).trans o4
        have xl := Nat.lt_of_lt_of_le xl hC.bl.size
        have HF := Lib.hid (CpD.fin HD.out.1 hC hov)
        clear o2 o3 o4 hrv hC hov
        go_wp2_with fail
        go_ret
        obtain ⟨i', lab', q1, q2, q3⟩ := HF.out
        exact ⟨O, i', lab', rfl, q1, q2, q3⟩
end
end Go.Proofs.YtffpmmphpdkkbaaGreat
