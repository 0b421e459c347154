/- A queue of ways in memory; Join. -/
import Derived.Test.YtcgceigcegddlaaQA
import Derived.Test.YtcgceigcegddlaaPK
import Derived.Test.YtcgceigcegddlaaPar2
import Derived.ArgAppend
namespace Go.Proofs.Ytcgceigcegddlaa
open Go Go.RowKit Go.Proofs

/-- A row of ways that may begin in the midst of its block. -/
def QR (B g off n cap : Nat) (vs : List Value) (w : World) : Prop := vs.length = n ∧ B ≤ g ∧ n ≤ cap ∧ cap ≤ maxLen ∧ ∃ cur, w.heap[g]? = some (.cells cur 24 (0, 0)) ∧ off + cap ≤ cur.size ∧ ∀ j u, vs[j]? = some u → cur[off + j]? = some u
section
variable {B g off n cap : Nat} {vs : List Value} {w w' : World}
theorem QR.of (h : QR B g off n cap vs w) (hk : w'.heap[g]? = w.heap[g]?) : QR B g off n cap vs w' := by
  obtain ⟨h1, h2, h3, h4, cur, h5, h6⟩ := h
  exact ⟨h1, h2, h3, h4, cur, hk.trans h5, h6⟩
theorem QR.lt (h : QR B g off n cap vs w) : g < w.heap.size := by
  obtain ⟨h1, h2, h3, h4, cur, h5, h6⟩ := h
  exact lt_of_heap h5
theorem QR.cell (h : QR B g off n cap vs w) {j : Nat} {u : Value} (hj : vs[j]? = some u) : w.cell? ⟨g, off + j, none⟩ = some u := by
  obtain ⟨h1, h2, h3, h4, cur, h5, _, h6⟩ := h
  rw [nd_cell h5]; exact h6 j u hj
theorem QR.tail {u : Value} {r : List Value} (h : QR B g off (n + 1) (cap + 1) (u :: r) w) : QR B g (off + 1) n cap r w := by
  obtain ⟨h1, h2, h3, h4, cur, h5, h6, h7⟩ := h
  refine ⟨by simpa using h1, h2, by omega, by omega, cur, h5, by omega, fun j x hj => ?_⟩
  have := h7 (j + 1) x (by simpa using hj)
  rw [show off + 1 + j = off + (j + 1) by omega]; exact this
/-- append of one value. -/
theorem QR.snoc (h : QR B g off n cap vs w) {gb c1 : Nat} {u : Value} (hb : w.heap[gb]? = some (.cells #[u] 24)) (hu : u.oneCell' = true) (hn : n ≤ 100000) (hB : B ≤ w.heap.size) {ty : Nat} :
    ∃ g' off' cap' w', (Builtin.append_ #[42, 42] ty #[.slice (some ⟨g, off, none⟩) n cap, .slice (some ⟨gb, 0, none⟩) 1 c1]).run Try.prog w = .ok (.slice (some ⟨g', off', none⟩) (n + 1) cap') w' ∧
      QR B g' off' (n + 1) cap' (vs ++ [u]) w' ∧ w.grownBy w' (some g) ∧ (g' = g ∨ w.heap.size ≤ g') := by
  obtain ⟨h1, h2, h3, h4, cur, h5, h6, h7⟩ := h
  obtain ⟨i0, hi0, hz0, hz1, hz2⟩ := info_parts info24
  have hnews : ∀ j x, [u][j]? = some x → w.cell? ((⟨gb, 0, none⟩ : Addr).add j) = some x := fun j x hj => by
    rw [Addr.add_lit, Nat.zero_add, nd_cell hb, List.getElem?_toArray]; exact hj
  have h1u : ∀ x ∈ [u], x.oneCell' = true := fun x hx => by
    rw [List.mem_singleton] at hx
    subst hx; exact hu
  by_cases hroom : n + 1 ≤ cap
  · have hlt : off + n < cur.size := by omega
    have hr := run_append_room_cells (P := Try.prog) w 42 ty 24 i0 Try.underlying42 hi0 g off n cap ⟨gb, 0, none⟩ 1 c1 [u] (by rw [hz1]; rfl) hnews h1u hroom (fun j hj => by
      have : j = 0 := by simp at hj; omega
      subst this
      rw [hz1, Nat.mul_one, Nat.add_zero, nd_cell h5, Array.getElem?_eq_getElem hlt]; rfl) (fun j _ => frozen_of_row w g _ _ _ h5)
    rw [hz1, Nat.mul_one] at hr
    refine ⟨g, off, cap, _, hr, ⟨by rw [List.length_append, h1]; rfl, h2, hroom, h4, cur.setIfInBounds (off + n) u, heap_setCell_same w g (off + n) _ _ u h5, by rw [Array.size_setIfInBounds]; exact h6, fun j x hj => ?_⟩, ⟨rfl, rfl, rfl, by simp [World.setCells, World.setCell], fun k hk hne => ?_⟩, .inl rfl⟩
    · rw [Array.getElem?_setIfInBounds]
      by_cases e : j < vs.length
      · rw [List.getElem?_append_left e] at hj
        rw [if_neg (by omega)]
        exact h7 j x hj
      · rw [List.getElem?_append_right (by omega)] at hj
        have e0 : j - vs.length = 0 := by
          rcases Nat.eq_zero_or_pos (j - vs.length) with e | e
          · exact e
          · rw [List.getElem?_eq_none (by simp; omega)] at hj; cases hj
        rw [e0] at hj
        cases hj
        rw [if_pos (by omega), if_pos (by omega)]
    · exact heap_setCell_other w ⟨g, off + n, none⟩ k u (fun e => hne (by rw [e]))
  · obtain ⟨v', w', r1, r2, r3⟩ := run_append_arg_grows (P := Try.prog) w 42 ty 24 i0 _ 1 24 Try.underlying42 hi0 hz0 hz1 hz2 rfl (by decide) ⟨g, off, none⟩ n cap vs (by omega) (fun j x hj => by
      rw [Addr.add_lit, nd_cell h5]; exact h7 j x hj) ⟨gb, 0, none⟩ 1 c1 [u] rfl hnews (by omega) (by unfold maxLen; omega) (by omega)
    have hrow := HRow.of_own r2
    obtain ⟨g', cap', rfl, hc1, hc2⟩ := hrow.slice (by omega)
    obtain ⟨cur', hb', hg', _, _, hcs', ht'⟩ := hrow.form
    have hlen := hrow.1
    refine ⟨g', 0, cap', w', r1, ⟨by rw [List.length_append, h1]; rfl, Nat.le_trans hB hb', hc1, hc2, cur', hg', by omega, fun j x hj => ?_⟩, ⟨r3.os, r3.tape, r3.output, r3.size, fun k hk _ => r3.block k hk (by simp)⟩, .inr hb'⟩
    rw [← ht', List.getElem?_take] at hj
    split at hj
    · rw [Nat.zero_add, ← Array.getElem?_toList]; exact hj
    · cases hj
end
theorem appw_nil {y : World} {u : Value} {k : List ByteArray} {ty : TypeId} (hs : Wd y u k) (hl : k.length ≤ 1000) : ∃ p c w', (Builtin.append_ #[24, 24] ty #[.slice none 0 0, u]).run Try.prog y = .ok (.slice p k.length c) w' ∧ HRow w' y.heap.size 9 1 (.slice p k.length c) k.length (cellsS k) ∧ Below y.heap.size y w' := by
  obtain ⟨p, c, w', h1, h2, h3⟩ := app_words (y := y) (base := y.heap.size) (l := []) (ty := ty) HRow.nil hs (by simp; omega) (Nat.le_refl _)
  exact ⟨p, c, w', h1, h2, below_row (HRow.nil (w := y) (base := y.heap.size) (e := 9) (size := 1)) h3 (Nat.le_refl _) (Nat.le_refl _)⟩
theorem appw_lit {y : World} {base : Nat} {v : Value} {l : List ByteArray} {x : ByteArray} {ty m : Nat} (hr : HRow y base 9 1 v l.length (cellsS l)) (hl : l.length ≤ 1000) (hb : base ≤ y.heap.size) (hm : l.length + 1 = m) : ∃ g c w', (Builtin.append_ #[24, 24] ty #[v, .slice (some ⟨y.heap.size, 0, none⟩) 1 1]).run Try.prog (y.alloc (.cells #[.string x] 9)) = .ok (.slice (some ⟨g, 0, none⟩) m c) w' ∧ HRow w' base 9 1 (.slice (some ⟨g, 0, none⟩) m c) m (cellsS (l ++ [x])) ∧ Below base y w' := by
  subst hm
  obtain ⟨g, cap, w', h1, h2, h3, _⟩ := app_one (ty := ty) Try.underlying24 info9 (by kernel_rfl) (by decide) (by decide) y base hr (by omega) hb #[.string x] rfl (by intro u hu; simp only [List.mem_cons, List.not_mem_nil, or_false] at hu; subst hu; rfl)
  have e : cellsS (l ++ [x]) = cellsS l ++ (#[Value.string x]).toList := by unfold cellsS; rw [List.map_append]; rfl
  exact ⟨g, cap, w', h1, by rw [e]; exact h2, below_row hr h3 (Nat.le_refl _) hb⟩
set_option maxRecDepth 100000 in
set_option maxHeartbeats 1000000 in
theorem join_is {p q : List ByteArray} {v : Value} {x : ByteArray} {m : Nat} {W : World} (h : Wd W v p) (hl : p.length ≤ 10) (hq : p ++ [x] = q) (hm : q.length = m) : Calls Try.prog 38 #[v, .string x] W fun e w' => ∃ a c, e = .returned (.slice a m c) ∧ Wd w' (.slice a m c) q ∧ Below W.heap.size W w' := by
  obtain ⟨pa, ca, w1, hrun1, hr1, hb1⟩ := appw_nil (ty := 24) h (by omega)
  obtain ⟨g, cg, w2, hrun2, hr2, hb2⟩ := appw_lit (x := x) (ty := 24) (m := m) hr1 (by omega) hb1.size (by rw [← hm, ← hq, List.length_append]; rfl)
  obtain ⟨pv, cv, rfl, _, _⟩ := h.slice
  have hw := hr2.wd
  rw [hq] at hw
  have HF := Lib.hid (And.intro hw (hb1.trans hb2))
  obtain ⟨n, hn⟩ : ∃ n, p.length = n := ⟨_, rfl⟩
  rw [hn] at hrun1 hrun2 ⊢
  clear h hl hq hm hr1 hb1 hr2 hb2 hw hn
  go_enter Try.func38, Try.ntmps38
  go_wp2_with (first
    | (at_builtin; refine wpList_append_run rfl (.const (.slice none 0 0)) (.tmp 5) 24 rfl rfl rfl hrun1 ?_)
    | (at_builtin; refine wpList_append_run rfl (.tmp 6) (.tmp 8) 24 rfl rfl rfl hrun2 ?_))
  go_ret
  exact ⟨_, _, rfl, HF.out.1, HF.out.2⟩
end Go.Proofs.Ytcgceigcegddlaa
