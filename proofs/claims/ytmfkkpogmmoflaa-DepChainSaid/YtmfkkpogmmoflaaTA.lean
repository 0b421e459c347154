/- What came in; Cut, Path. Table. Tables; what is kept of a list. -/
import Derived.Test.YtmfkkpogmmoflaaSA
import Derived.Test.YtmfkkpogmmoflaaLS
namespace Go.Proofs.Ytmfkkpogmmoflaa
open Go Go.RowKit Go.Proofs

/-- A slice that came in. -/
def InR (W : World) (v : Value) (n k : Nat) (xs : List Value) : Prop := xs.length = n * k ∧ ∃ p cap, v = .slice p n cap ∧ n ≤ cap ∧ cap ≤ maxLen ∧ (0 < n → ∃ b off, p = some ⟨b, off, none⟩ ∧ b < W.heap.size ∧ ∀ j u, xs[j]? = some u → W.cell? ⟨b, off + j, none⟩ = some u)
theorem InR.on {W w : World} {v : Value} {n k : Nat} {xs : List Value} (h : InR W v n k xs) (hb : Below W.heap.size W w) : InR w v n k xs := by
  obtain ⟨h0, p, cap, h1, h2, h3, h4⟩ := h
  refine ⟨h0, p, cap, h1, h2, h3, fun hn => ?_⟩
  obtain ⟨b, off, h5, h6, h7⟩ := h4 hn
  exact ⟨b, off, h5, Nat.lt_of_lt_of_le h6 hb.size, fun j u hj => (World.cell?_of_block (w := W) (hb.block b h6)).trans (h7 j u hj)⟩
theorem InR.slice {W : World} {v : Value} {n k : Nat} {xs : List Value} (h : InR W v n k xs) : ∃ p cap, v = .slice p n cap ∧ n ≤ cap ∧ cap ≤ maxLen := by
  obtain ⟨h0, p, cap, h1, h2, h3, h4⟩ := h
  exact ⟨p, cap, h1, h2, h3⟩
theorem InR.at {W : World} {p : Option Addr} {n k cap : Nat} {xs : List Value} (h : InR W (.slice p n cap) n k xs) (hn : 0 < n) : ∃ b off, p = some ⟨b, off, none⟩ ∧ b < W.heap.size ∧ ∀ j u, xs[j]? = some u → W.cell? ⟨b, off + j, none⟩ = some u := by
  obtain ⟨h0, p', cap', h1, h2, h3, h4⟩ := h
  obtain ⟨rfl, -, rfl⟩ := Value.slice.inj h1
  exact h4 hn
def InC (W : World) (v : Value) (l : List C) : Prop := InR W v l.length 4 (cellsC l)
def InS (W : World) (v : Value) (l : List ByteArray) : Prop := InR W v l.length 1 (cellsS l)
def InD (W : World) (v : Value) (ds : List D) : Prop := ∃ ps : List Value, ps.length = ds.length ∧ InR W v ds.length 2 (cellsD ps ds) ∧ ∀ j (h : j < ps.length) (h' : j < ds.length), InS W ps[j] ds[j].left
def InT (W : World) (cv dv : Value) (t : T) : Prop := InC W cv t.cols ∧ InD W dv t.deps
def InTs (W : World) (v : Value) (ts : List T) : Prop := ∃ xs, InR W v ts.length 4 xs ∧ ∀ j (h : j < ts.length), ∃ cv dv, xs[j * 4]? = some (.string ts[j].nm) ∧ xs[j * 4 + 1]? = some cv ∧ xs[j * 4 + 2]? = some (.string ts[j].key) ∧ xs[j * 4 + 3]? = some dv ∧ InT W cv dv ts[j]
theorem InS.on {W w : World} {v : Value} {l : List ByteArray} (h : InS W v l) (hb : Below W.heap.size W w) : InS w v l := InR.on h hb
theorem InC.on {W w : World} {v : Value} {l : List C} (h : InC W v l) (hb : Below W.heap.size W w) : InC w v l := InR.on h hb
theorem InD.on {W w : World} {v : Value} {l : List D} (h : InD W v l) (hb : Below W.heap.size W w) : InD w v l := by
  obtain ⟨ps, h1, h2, h3⟩ := h
  exact ⟨ps, h1, h2.on hb, fun j a b => (h3 j a b).on hb⟩
theorem InT.on {W w : World} {cv dv : Value} {t : T} (h : InT W cv dv t) (hb : Below W.heap.size W w) : InT w cv dv t := ⟨h.1.on hb, h.2.on hb⟩
theorem InTs.on {W w : World} {v : Value} {ts : List T} (h : InTs W v ts) (hb : Below W.heap.size W w) : InTs w v ts := by
  obtain ⟨xs, h1, h2⟩ := h
  refine ⟨xs, h1.on hb, fun j hj => ?_⟩
  obtain ⟨cv, dv, a0, a1, a2, a3, a4⟩ := h2 j hj
  exact ⟨cv, dv, a0, a1, a2, a3, a4.on hb⟩
theorem InS.word {W : World} {p : Option Addr} {n cap : Nat} {l : List ByteArray} (h : InS W (.slice p n cap) l) {i : Nat} (hi : i < l.length) : ∃ b off, p = some ⟨b, off, none⟩ ∧ b < W.heap.size ∧ W.cell? ⟨b, off + i, none⟩ = some (.string l[i]) := by
  obtain ⟨_, _, e, _, _⟩ := InR.slice h
  obtain ⟨rfl, rfl, rfl⟩ := Value.slice.inj e
  obtain ⟨b, off, h1, h2, h3⟩ := InR.at h (by omega)
  exact ⟨b, off, h1, h2, h3 _ _ (by unfold cellsS; rw [List.getElem?_map, List.getElem?_eq_getElem hi]; rfl)⟩
theorem InC.col {W : World} {p : Option Addr} {n cap : Nat} {l : List C} (h : InC W (.slice p n cap) l) {i : Nat} (hi : i < l.length) : ∃ b off, p = some ⟨b, off, none⟩ ∧ b < W.heap.size ∧
    W.cell? ⟨b, off + i * 4, none⟩ = some (.string l[i].nm) ∧ W.cell? ⟨b, off + i * 4 + 1, none⟩ = some (.int .i64 l[i].kd) ∧ W.cell? ⟨b, off + i * 4 + 2, none⟩ = some (.bool l[i].mu) ∧ W.cell? ⟨b, off + i * 4 + 3, none⟩ = some (.string l[i].tgt) := by
  obtain ⟨_, _, e, _, _⟩ := InR.slice h
  obtain ⟨rfl, rfl, rfl⟩ := Value.slice.inj e
  obtain ⟨b, off, h1, h2, h3⟩ := InR.at h (by omega)
  obtain ⟨c0, c1, c2, c3⟩ := cellsC_at l i hi
  exact ⟨b, off, h1, h2, h3 _ _ c0, by rw [Nat.add_assoc]; exact h3 _ _ c1, by rw [Nat.add_assoc]; exact h3 _ _ c2, by rw [Nat.add_assoc]; exact h3 _ _ c3⟩
theorem InD.slice {W : World} {v : Value} {ds : List D} (h : InD W v ds) : ∃ p cap, v = .slice p ds.length cap ∧ ds.length ≤ cap ∧ cap ≤ maxLen := by
  obtain ⟨ps, h1, h2, h3⟩ := h
  exact InR.slice h2
theorem InD.dep {W : World} {p : Option Addr} {n cap : Nat} {ds : List D} (h : InD W (.slice p n cap) ds) {i : Nat} (hi : i < ds.length) : ∃ b off lv, p = some ⟨b, off, none⟩ ∧ b < W.heap.size ∧
    W.cell? ⟨b, off + i * 2, none⟩ = some lv ∧ W.cell? ⟨b, off + i * 2 + 1, none⟩ = some (.string ds[i].right) ∧ InS W lv ds[i].left := by
  obtain ⟨ps, k1, k2, k3⟩ := h
  obtain ⟨_, _, e, _, _⟩ := InR.slice k2
  obtain ⟨rfl, rfl, rfl⟩ := Value.slice.inj e
  obtain ⟨b, off, h1, h2, h3⟩ := InR.at k2 (by omega)
  obtain ⟨c0, c1⟩ := cellsD_at ps ds i (by omega) hi
  exact ⟨b, off, _, h1, h2, h3 _ _ c0, by rw [Nat.add_assoc]; exact h3 _ _ c1, k3 i (by omega) hi⟩
theorem InTs.slice {W : World} {v : Value} {ts : List T} (h : InTs W v ts) : ∃ p cap, v = .slice p ts.length cap ∧ ts.length ≤ cap ∧ cap ≤ maxLen := by
  obtain ⟨xs, h1, h2⟩ := h
  exact InR.slice h1
theorem InTs.tab {W : World} {p : Option Addr} {n cap : Nat} {ts : List T} (h : InTs W (.slice p n cap) ts) {i : Nat} (hi : i < ts.length) : ∃ b off cv dv, p = some ⟨b, off, none⟩ ∧ b < W.heap.size ∧
    W.cell? ⟨b, off + i * 4, none⟩ = some (.string ts[i].nm) ∧ W.cell? ⟨b, off + i * 4 + 1, none⟩ = some cv ∧ W.cell? ⟨b, off + i * 4 + 2, none⟩ = some (.string ts[i].key) ∧ W.cell? ⟨b, off + i * 4 + 3, none⟩ = some dv ∧ InT W cv dv ts[i] := by
  obtain ⟨xs, k1, k2⟩ := h
  obtain ⟨_, _, e, _, _⟩ := InR.slice k1
  obtain ⟨rfl, rfl, rfl⟩ := Value.slice.inj e
  obtain ⟨b, off, h1, h2, h3⟩ := InR.at k1 (by omega)
  obtain ⟨cv, dv, c0, c1, c2, c3, c4⟩ := k2 i hi
  exact ⟨b, off, cv, dv, h1, h2, h3 _ _ c0, by rw [Nat.add_assoc]; exact h3 _ _ c1, by rw [Nat.add_assoc]; exact h3 _ _ c2, by rw [Nat.add_assoc]; exact h3 _ _ c3, c4⟩

def cutB (m : Nat) (s : ByteArray) : ByteArray := if m < s.size then s.extract 0 m else s
theorem cutB_le (m : Nat) (s : ByteArray) : (cutB m s).size ≤ m := by
  unfold cutB; split
  · simp; omega
  · omega
theorem cut_any (s : ByteArray) (w : World) : Calls Try.prog 28 #[.string s, .int .i64 20] w fun e w' => e = .returned (.string (cutB 20 s)) ∧ w' = w := by
  unfold cutB
  by_cases h : 20 < s.size
  · rw [if_pos h]
    go_enter Try.func28, Try.ntmps28
    go_wp2
    go_ret
    exact ⟨rfl, rfl⟩
  · rw [if_neg h]
    go_enter Try.func28, Try.ntmps28
    go_wp2
    go_ret
    exact ⟨rfl, rfl⟩
def pathP (l : List ByteArray) : List ByteArray := (l.map (cutB 20)).take 6
theorem pathP_len (l : List ByteArray) : (pathP l).length ≤ 6 := by unfold pathP; rw [List.length_take]; omega
set_option maxRecDepth 100000 in
set_option maxHeartbeats 2000000 in
theorem path_any {l : List ByteArray} {v : Value} {W : World} (h : InS W v l) : Calls Try.prog 15 #[v] W fun e w' => ∃ p n c, e = .returned (.slice p n c) ∧ n = (pathP l).length ∧ HRow w' W.heap.size 9 1 (.slice p n c) n (cellsS (pathP l)) ∧ Below W.heap.size W w' := by
  obtain ⟨p, cap, rfl, hc, hm⟩ := InR.slice h
  obtain ⟨n, hn⟩ : ∃ n, l.length = n := ⟨_, rfl⟩
  unfold maxLen at hm
  rw [hn] at hc h ⊢
  have HR := Lib.hid h
  have HN := Lib.hid hn
  clear h hn
  go_enter Try.func15, Try.ntmps15
  go_wp2_with fail
  go_loopg [3, 4] (n + 1) (fun gh rv jv w => ∃ (j : Nat) (q : Option Addr) (cq : Nat), jv = .int .i64 (j : Int) ∧ j ≤ n ∧ j ≤ 6 ∧ n + 1 ≤ j + gh ∧ rv = .slice q j cq ∧ HRow w W.heap.size 9 1 (.slice q j cq) j (cellsS ((l.map (cutB 20)).take j)) ∧ Below W.heap.size W w)
  case atStart => exact ⟨0, none, 0, rfl, Nat.zero_le _, Nat.zero_le _, by omega, rfl, HRow.nil, Below.refl _ _⟩
  case round =>
    obtain ⟨j, q, cq, rfl, hj, hj6, hg, rfl, hR, hB⟩ := hrel
    have HI := Lib.hid (And.intro hR hB)
    by_cases hlt : j < n
    · by_cases hlt6 : j < 6
      · have hjl : j < l.length := by rw [HN.out]; exact hlt
        obtain ⟨b, off, rfl, hb, c0⟩ := InS.word (HR.out.on hB) hjl
        obtain ⟨x, hx⟩ : ∃ x, l[j] = x := ⟨_, rfl⟩
        rw [hx] at c0
        obtain ⟨y, hy⟩ : ∃ y, cutB 20 x = y := ⟨_, rfl⟩
        have htk : cellsS ((l.map (cutB 20)).take (j + 1)) = cellsS ((l.map (cutB 20)).take j) ++ [.string y] := by rw [List.take_succ_eq_append_getElem (by simpa using hjl), List.getElem_map, hx, hy]; simp [cellsS]
        have hcut := cut_any x wr
        rw [hy] at hcut
        obtain ⟨g, cap', w3, hrun, r3, g3, o3⟩ := app_one (ty := 34) Try.underlying34 info9 (by kernel_rfl) (by decide) (by decide) wr W.heap.size hR (by omega) hB.size #[.string y] rfl (by intro u hu; simp only [List.mem_cons, List.not_mem_nil, or_false] at hu; subst hu; rfl)
        have H3 := Lib.hid (And.intro r3 (And.intro (hB.trans (below_row hR g3 (Nat.le_refl _) hB.size)) htk))
        clear hR hB r3 g3 o3 hx hy htk
        go_wp2_with (first
          | (at_builtin; refine wpList_append_run rfl (.tmp 15) (.tmp 21) 34 rfl rfl rfl hrun ?_)
          | (go_at_call 28; (with_reducible refine hcut.mono ?_); rintro e w2 ⟨rfl, hw2⟩; subst w2))
        go_roundg (n - j)
        case measure => omega
        case rel => exact ⟨j + 1, _, _, by go_num, by omega, by omega, by omega, rfl, by rw [H3.out.2.2]; exact H3.out.1, H3.out.2.1⟩
      · obtain rfl : j = 6 := by omega
        clear hR hB
        go_wp2_with fail
        go_ret
        have e : pathP l = (l.map (cutB 20)).take 6 := rfl
        exact ⟨_, _, _, rfl, by rw [e, List.length_take, List.length_map, HN.out]; omega, by rw [e]; exact HI.out.1, HI.out.2⟩
    · obtain rfl : j = n := by omega
      clear hR hB
      go_wp2_with fail
      go_ret
      have e : pathP l = (l.map (cutB 20)).take j := by
        unfold pathP
        rw [List.take_of_length_le (by rw [List.length_map, HN.out]; exact hj6), List.take_of_length_le (by rw [List.length_map, HN.out]; exact Nat.le_refl _)]
      exact ⟨_, _, _, rfl, by rw [e, List.length_take, List.length_map, HN.out]; omega, by rw [e]; exact HI.out.1, HI.out.2⟩
end Go.Proofs.Ytmfkkpogmmoflaa
namespace Go.Proofs.Ytmfkkpogmmoflaa
open Go Go.RowKit Go.Proofs

abbrev oC (c : C) : Obj := .cells #[.string c.nm, .int .i64 c.kd, .bool c.mu, .string c.tgt] 38
def cutC (c : C) : C := ⟨cutB 20 c.nm, c.kd, c.mu, cutB 20 c.tgt⟩
def cutD (d : D) : D := ⟨pathP d.left, cutB 20 d.right⟩
def cutT (t : T) : T := ⟨cutB 20 t.nm, (t.cols.map cutC).take 8, cutB 20 t.key, (t.deps.map cutD).take 5⟩
theorem cutb_any (s : ByteArray) (w : World) {y : ByteArray} (h : cutB 20 s = y) : Calls Try.prog 28 #[.string s, .int .i64 20] w fun e w' => e = .returned (.string y) ∧ Below w.heap.size w w' :=
  h ▸ (cut_any s w).mono (fun _ _ h => ⟨h.1, h.2 ▸ Below.refl _ _⟩)
/-- append of a column that lies in memory. -/
theorem app_at {y : World} {base n g : Nat} {v : Value} {xs : List Value} {c : C} (hr : HRow y base 38 4 v n xs) (hn : n ≤ 1000) (hb : base ≤ y.heap.size) (hC : y.heap[g]? = some (oC c)) :
    ∃ g' cap w', (Builtin.append_ #[39, 39] 39 #[v, .slice (some ⟨g, 0, none⟩) 1 1]).run Try.prog y = .ok (.slice (some ⟨g', 0, none⟩) (n + 1) cap) w' ∧
      HRow w' base 38 4 (.slice (some ⟨g', 0, none⟩) (n + 1) cap) (n + 1) (xs ++ [.string c.nm, .int .i64 c.kd, .bool c.mu, .string c.tgt]) ∧ y.grownBy w' v.ownBlock ∧ (v.ownBlock = some g' ∨ y.heap.size ≤ g') := by
  obtain ⟨i0, hi0, hz0, hz1, hz2⟩ := info_parts info43
  exact run_append_has (P := Try.prog) y base 39 39 38 i0 _ 4 48 Try.underlying39 hi0 hz0 hz1 hz2 rfl (by decide) hr ⟨g, 0, none⟩ 1 1 [.string c.nm, .int .i64 c.kd, .bool c.mu, .string c.tgt] rfl (fun j u hj => by
    rw [Addr.add_lit, Nat.zero_add, nd_cell hC]
    rw [List.getElem?_toArray]; exact hj) (by
    intro u hu
    simp only [List.mem_cons, List.not_mem_nil, or_false] at hu
    rcases hu with rfl | rfl | rfl | rfl <;> rfl) (by decide) (by unfold maxLen; omega) (by omega) hb
/-- append of a dep that lies in memory. -/
theorem app_dat {y : World} {base n g : Nat} {v : Value} {xs : List Value} {p : Option Addr} {m k : Nat} {r : ByteArray} (hr : HRow y base 41 2 v n xs) (hn : n ≤ 1000) (hb : base ≤ y.heap.size) (hC : y.heap[g]? = some (.cells #[.slice p m k, .string r] 41)) :
    ∃ g' cap w', (Builtin.append_ #[42, 42] 42 #[v, .slice (some ⟨g, 0, none⟩) 1 1]).run Try.prog y = .ok (.slice (some ⟨g', 0, none⟩) (n + 1) cap) w' ∧
      HRow w' base 41 2 (.slice (some ⟨g', 0, none⟩) (n + 1) cap) (n + 1) (xs ++ [.slice p m k, .string r]) ∧ y.grownBy w' v.ownBlock ∧ (v.ownBlock = some g' ∨ y.heap.size ≤ g') := by
  obtain ⟨i0, hi0, hz0, hz1, hz2⟩ := info_parts info53
  exact run_append_has (P := Try.prog) y base 42 42 41 i0 _ 2 40 Try.underlying42 hi0 hz0 hz1 hz2 rfl (by decide) hr ⟨g, 0, none⟩ 1 1 [.slice p m k, .string r] rfl (fun j u hj => by
    rw [Addr.add_lit, Nat.zero_add, nd_cell hC]
    rw [List.getElem?_toArray]; exact hj) (by
    intro u hu
    simp only [List.mem_cons, List.not_mem_nil, or_false] at hu
    rcases hu with rfl | rfl <;> rfl) (by decide) (by unfold maxLen; omega) (by omega) hb
/-- What Table keeps. -/
structure TI (S TB : Nat) (W : World) (t : T) (cv dv : Value) (nm key : ByteArray) (cs : List C) (ds : List D) (cu du : Value) (ps : List Value) (w : World) : Prop where
  src : w.heap[S]? = some (boxT t.nm cv t.key dv)
  res : w.heap[S + 1]? = some (boxT e0 (.slice none 0 0) e0 (.slice none 0 0))
  box : w.heap[TB]? = some (boxT nm cu key du)
  c : HRow w (TB + 1) 38 4 cu cs.length (cellsC cs)
  d : DepsI w (TB + 1) du ds ps
  below : Below S W w
  hT : S + 2 ≤ TB
section
variable {S TB : Nat} {W w w' : World} {t : T} {cv dv : Value} {nm key : ByteArray} {cs : List C} {ds : List D} {cu du : Value} {ps : List Value}
theorem TI.sz (h : TI S TB W t cv dv nm key cs ds cu du ps w) : TB + 1 ≤ w.heap.size := lt_of_heap h.box
theorem TI.on (h : TI S TB W t cv dv nm key cs ds cu du ps w) (hb : Below w.heap.size w w') : TI S TB W t cv dv nm key cs ds cu du ps w' :=
  ⟨heap_on hb h.src, heap_on hb h.res, heap_on hb h.box, h.c.later hb, h.d.later hb, h.below.trans (hb.mono (by have := h.sz; have := h.hT; omega)), h.hT⟩
theorem TI.col (h : TI S TB W t cv dv nm key cs ds cu du ps w) {c : C} {cu' : Value} (hr : HRow w' (TB + 1) 38 4 cu' (cs.length + 1) (cellsC cs ++ [.string c.nm, .int .i64 c.kd, .bool c.mu, .string c.tgt])) (hg : w.grownBy w' cu.ownBlock) :
    TI S TB W t cv dv nm key (cs ++ [c]) ds cu' du ps (w'.setCell ⟨TB, 1, none⟩ cu') := by
  have hb := below_row (n := TB + 1) h.c hg (Nat.le_refl _) h.sz
  have hT := h.hT
  have ho : ∀ q : Nat, q ≠ TB → (w'.setCell ⟨TB, 1, none⟩ cu').heap[q]? = w'.heap[q]? := fun q hq => heap_setCell_other w' ⟨TB, 1, none⟩ q _ hq
  refine ⟨(ho _ (by omega)).trans ((hb.block S (by omega)).trans h.src), (ho _ (by omega)).trans ((hb.block (S + 1) (by omega)).trans h.res), heap_setCell_same w' TB 1 _ _ _ ((hb.block TB (by omega)).trans h.box), ?_, ?_, (h.below.trans (hb.mono (by omega))).setCell (p := ⟨TB, 1, none⟩) (by show S ≤ TB; omega) _, hT⟩
  · rw [cellsC_append, List.length_append]
    exact hr.of (fun q hq => ho q (by have := (hr.lt q hq).1; omega))
  · exact ⟨h.d.n, (h.d.d.beside h.c (by decide) hg).of (fun q hq => ho q (by have := (h.d.d.lt q hq).1; omega)), fun j a b => ((h.d.l j a b).beside h.c (by decide) hg).of (fun q hq => ho q (by have := ((h.d.l j a b).lt q hq).1; omega))⟩
theorem TI.dep (h : TI S TB W t cv dv nm key cs ds cu du ps w) {d : D} {du' lv : Value} (hl : HRow w (TB + 1) 9 1 lv d.left.length (cellsS d.left)) (hr : HRow w' (TB + 1) 41 2 du' (ds.length + 1) (cellsD ps ds ++ [lv, .string d.right])) (hg : w.grownBy w' du.ownBlock) :
    TI S TB W t cv dv nm key cs (ds ++ [d]) cu du' (ps ++ [lv]) (w'.setCell ⟨TB, 3, none⟩ du') := by
  have hb := below_row (n := TB + 1) h.d.d hg (Nat.le_refl _) h.sz
  have hT := h.hT
  have ho : ∀ q : Nat, q ≠ TB → (w'.setCell ⟨TB, 3, none⟩ du').heap[q]? = w'.heap[q]? := fun q hq => heap_setCell_other w' ⟨TB, 3, none⟩ q _ hq
  have hd := h.d.snoc hl hr hg
  refine ⟨(ho _ (by omega)).trans ((hb.block S (by omega)).trans h.src), (ho _ (by omega)).trans ((hb.block (S + 1) (by omega)).trans h.res), heap_setCell_same w' TB 3 _ _ _ ((hb.block TB (by omega)).trans h.box), ?_, ?_, (h.below.trans (hb.mono (by omega))).setCell (p := ⟨TB, 3, none⟩) (by show S ≤ TB; omega) _, hT⟩
  · exact (h.c.beside h.d.d (by decide) hg).of (fun q hq => ho q (by have := (h.c.lt q hq).1; omega))
  · exact ⟨hd.n, hd.d.of (fun q hq => ho q (by have := (hd.d.lt q hq).1; omega)), fun j a b => (hd.l j a b).of (fun q hq => ho q (by have := ((hd.l j a b).lt q hq).1; omega))⟩
end
def lvW (B : Nat) (l : List ByteArray) : Par.VW := ⟨fun v w => ∃ p n c, v = .slice p n c ∧ n = (pathP l).length ∧ HRow w B 9 1 (.slice p n c) n (cellsS (pathP l)), fun v w w' h hb => by
  obtain ⟨p, n, c, h1, h2, h3⟩ := h
  exact ⟨p, n, c, h1, h2, h3.later hb⟩⟩
def ldW (B : Nat) (l : List ByteArray) (r : ByteArray) : Par.VW := ⟨fun v w => ∃ p n c, v = .agg #[.slice p n c, .string r] ∧ n = (pathP l).length ∧ HRow w B 9 1 (.slice p n c) n (cellsS (pathP l)), fun v w w' h hb => by
  obtain ⟨p, n, c, h1, h2, h3⟩ := h
  exact ⟨p, n, c, h1, h2, h3.later hb⟩⟩
def lsW (B : Nat) (l : List ByteArray) (r : ByteArray) : Par.VW := ⟨fun v w => ∃ g p n c, v = .slice (some ⟨g, 0, none⟩) 1 1 ∧ w.heap[g]? = some (.cells #[.slice p n c, .string r] 41) ∧ n = (pathP l).length ∧ HRow w B 9 1 (.slice p n c) n (cellsS (pathP l)), fun v w w' h hb => by
  obtain ⟨g, p, n, c, h1, h0, h2, h3⟩ := h
  exact ⟨g, p, n, c, h1, heap_on hb h0, h2, h3.later hb⟩⟩

end Go.Proofs.Ytmfkkpogmmoflaa
namespace Go.Proofs.Ytmfkkpogmmoflaa
open Go Go.RowKit Go.Proofs

/-- A row of tables of one's own. -/
structure TR (B : Nat) (us : List T) (v : Value) (xs : List Value) (w : World) : Prop where
  row : HRow w B 44 4 v us.length xs
  tabs : TabsC w xs us
  sz : B ≤ w.heap.size
theorem rd_row {w : World} {B : Nat} {v : Value} {us : List T} {xs : List Value} (hr : HRow w B 44 4 v us.length xs) (ht : TabsC w xs us) : RdTs w v us := by
  have hx := ht.1
  rcases hr.2 with ⟨h1, h2⟩ | ⟨g, cap, cur, h1, h2, h3, h4, h5, h6, h7⟩
  · have : us = [] := List.eq_nil_of_length_eq_zero h2
    subst this
    rw [h1]; exact RdTs.nil w
  · refine ⟨some ⟨g, 0, none⟩, cap, xs, h1, h4, h5, fun _ => ⟨g, 0, rfl, lt_of_heap h3, fun j u hj => ?_⟩, ht⟩
    rw [Nat.zero_add, nd_cell h3]
    rw [← h7, List.getElem?_take] at hj
    split at hj
    · rw [← Array.getElem?_toList]; exact hj
    · cases hj
section
variable {B : Nat} {w w' : World} {us : List T} {v : Value} {xs : List Value}
theorem TR.on (h : TR B us v xs w) (hb : Below w.heap.size w w') : TR B us v xs w' := ⟨h.row.later hb, h.tabs.kp (.below hb), Nat.le_trans h.sz hb.size⟩
theorem TR.nil (h : B ≤ w.heap.size) : TR B [] (.slice none 0 0) [] w := ⟨HRow.nil, TabsC.nil w, h⟩
theorem TR.app (h : TR B us v xs w) {t : T} {p1 p2 : Option Addr} {n1 c1 n2 c2 ty : Nat} {nm key : ByteArray} (hn : t.nm = nm) (hk : t.key = key) (ht : RdT w (.slice p1 n1 c1) (.slice p2 n2 c2) t) (hl : us.length ≤ 1000) (hty : Try.prog.underlying ty = some (.slice 44)) :
    ∃ g cap w', (Builtin.append_ #[ty, ty] ty #[v, .slice (some ⟨w.heap.size, 0, none⟩) 1 1]).run Try.prog (w.alloc (boxT nm (.slice p1 n1 c1) key (.slice p2 n2 c2))) = .ok (.slice (some ⟨g, 0, none⟩) (us.length + 1) cap) w' ∧
      TR B (us ++ [t]) (.slice (some ⟨g, 0, none⟩) (us.length + 1) cap) (xs ++ [.string nm, .slice p1 n1 c1, .string key, .slice p2 n2 c2]) w' ∧ Below B w w' := by
  subst hn hk
  obtain ⟨g, cap, w', h1, h2, h3, h4⟩ := app_one (ty := ty) hty info34 (by kernel_rfl) (by decide) (by decide) w B h.row (by omega) h.sz #[.string t.nm, .slice p1 n1 c1, .string t.key, .slice p2 n2 c2] rfl (by
    intro u hu
    simp only [List.mem_cons, List.not_mem_nil, or_false] at hu
    rcases hu with rfl | rfl | rfl | rfl <;> rfl)
  have hk := Kp.grown h.row h3
  have hbel : Below B w w' := below_row h.row h3 (Nat.le_refl _) h.sz
  exact ⟨g, cap, w', h1, ⟨by rw [List.length_append]; exact h2, (h.tabs.kp hk).snoc (ht.kp hk), Nat.le_trans h.sz hbel.size⟩, hbel⟩
end
/-! ### What is kept of a list -/
def kept (us : List T) (i : Nat) : List T := (us.take i).foldl addT []
theorem kept_zero (us : List T) : kept us 0 = [] := rfl
theorem kept_succ (us : List T) (i : Nat) (h : i < us.length) : kept us (i + 1) = addT (kept us i) us[i] := by
  unfold kept
  rw [List.take_succ_eq_append_getElem h, List.foldl_append]; rfl
theorem kept_all : ∀ (l ts : List T), Inv ts → AllFew ts → Inv (l.foldl addT ts) ∧ AllFew (l.foldl addT ts)
  | [], _, h, k => ⟨h, k⟩
  | t :: r, ts, h, k => kept_all r (addT ts t) (h.add t) (k.add t)
theorem kept_inv (us : List T) (i : Nat) : Inv (kept us i) ∧ AllFew (kept us i) := kept_all _ [] nil_inv AllFew.nil
theorem cols_of {ts : List T} {t : T} (h : mayP ts t = 0) : 0 < t.cols.length := by
  obtain ⟨h1, _, _, _⟩ := mayP_zero h
  unfold lim at h1
  simp only [Bool.or_eq_false_iff, decide_eq_false_iff_not] at h1
  omega
theorem cut_sm (t : T) : Sm (cutT t) := by
  refine ⟨Nat.le_trans (cutB_le 20 t.nm) (by decide), fun c hc => ?_⟩
  have hc := List.mem_of_mem_take hc
  obtain ⟨c', _, rfl⟩ := List.mem_map.1 hc
  exact Nat.le_trans (cutB_le 20 c'.nm) (by decide)
theorem cuts_sm (l : List T) : ∀ t ∈ (l.map cutT).take 12, Sm t := fun t ht => by
  obtain ⟨t', _, rfl⟩ := List.mem_map.1 (List.mem_of_mem_take ht)
  exact cut_sm t'
end Go.Proofs.Ytmfkkpogmmoflaa
