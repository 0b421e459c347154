/- Grow, Concat of a way and one name. -/
import Derived.Test.YtcgceigcegddlaaPC
import Derived.Lib.AppendZerosOnto
namespace Go.Proofs.Ytcgceigcegddlaa
open Go Go.RowKit Go.Proofs

theorem append_zero {P : Program} {w : World} {t e ty : TypeId} {i : TypeInfo} {p q : Option Addr} {n c d : Nat} (ht : P.underlying t = some (.slice e)) (hi : P.info? e = some i) (hn : n ≤ c) : (Builtin.append_ #[t, t] ty #[.slice p n c, .slice q 0 d]).run P w = .ok (.slice p n c) w := by
  cases p <;> cases q <;> simp [Builtin.append_, run_underlying ht, Builtin.lenOf, Builtin.firstCells, sizeOf, typeInfo, hi, hn, loadCells, loadCellsFrom, storeCells]
/-- append of words. -/
theorem app_words {y : World} {base : Nat} {v u : Value} {l k : List ByteArray} {ty : TypeId} (hr : HRow y base 9 1 v l.length (cellsS l)) (hs : Wd y u k) (hl : l.length + k.length ≤ 1000000) (hb : base ≤ y.heap.size) :
    ∃ p c w', (Builtin.append_ #[24, 24] ty #[v, u]).run Try.prog y = .ok (.slice p (l ++ k).length c) w' ∧ HRow w' base 9 1 (.slice p (l ++ k).length c) (l ++ k).length (cellsS (l ++ k)) ∧ y.grownBy w' v.ownBlock := by
  obtain ⟨i0, hi0, hz0, hz1, hz2⟩ := info_parts info9
  obtain ⟨q, d, rfl, _, _⟩ := hs.slice
  obtain ⟨p, c, rfl, hpc, _⟩ := hr.isslice
  rcases Nat.eq_zero_or_pos k.length with h0 | h0
  · have hk : k = [] := List.eq_nil_of_length_eq_zero h0
    subst hk
    rw [List.append_nil]
    exact ⟨p, c, y, append_zero Try.underlying24 hi0 hpc, hr, ⟨rfl, rfl, rfl, Nat.le_refl _, fun _ _ _ => rfl⟩⟩
  · obtain ⟨b, off, rfl, _, _⟩ := hs.word (i := 0) h0
    obtain ⟨g, cap, w', h1, h2, h3, _⟩ := run_append_has (P := Try.prog) y base 24 ty 9 i0 _ 1 16 Try.underlying24 hi0 hz0 hz1 hz2 rfl (by decide) hr ⟨b, off, none⟩ k.length d (cellsS k) (cellsS_len k)
      (fun j x hj => by
        unfold cellsS at hj
        rw [List.getElem?_map] at hj
        obtain ⟨z, hz, hv⟩ := Option.map_eq_some_iff.1 hj
        obtain ⟨hjl, hz2⟩ := List.getElem?_eq_some_iff.1 hz
        obtain ⟨b', off', e, _, c0⟩ := hs.word hjl
        cases e
        rw [Addr.add_lit, c0, hz2, ← hv]) (one_cellsS k) h0 (by unfold maxLen; omega) (by omega) hb
    have e : cellsS (l ++ k) = cellsS l ++ cellsS k := by unfold cellsS; rw [List.map_append]
    rw [List.length_append, e]
    exact ⟨_, _, w', h1, h2, h3⟩
set_option maxRecDepth 100000 in
set_option maxHeartbeats 1000000 in
theorem grow_any {n : Nat} (h0 : 0 < n) (hn : n ≤ 1000) (W : World) : Calls Try.prog 70 #[.slice none 0 0, .int .i64 n] W fun e w' => ∃ p G, e = .returned (.slice p 0 G) ∧ HRow w' W.heap.size 9 1 (.slice p 0 G) 0 [] ∧ Below W.heap.size W w' := by
  obtain ⟨i0, hi0, hz0, hz1, hz2⟩ := info_parts info9
  have hold : (Builtin.firstCells i0.size 0 (.slice none 0 0)).run Try.prog W.drew = .ok ([] : List Value).toArray W.drew := run_firstCells_none W.drew i0.size 0 0 0
  have hrz : ∀ ty, (Builtin.append_ #[24, 3] ty #[.slice none 0 0, .int .i64 n]).run Try.prog W = _ := fun ty => Lib.run_append_grow_zeros W 24 3 ty 9 i0 _ .i64 .i64 Try.underlying24 Try.underlying3 hi0 hz0 none 0 0 [] hold n h0 (by rw [hz1]; decide) (by omega) (by omega) (by rw [hz2]; omega) (by rw [hz2]; exact growslice_fits (by omega) (by omega))
  have hG0 : n ≤ grownCap W (0 + n) 0 9 := by have := grownCap_ge W (0 + n) 0 9; omega
  have hG1 := grownCap_le_maxLen W (0 + n) 0 9 (by unfold maxLen; omega)
  obtain ⟨G, hG⟩ : ∃ G, grownCap W (0 + n) 0 9 = G := ⟨_, rfl⟩
  rw [hG] at hrz hG0 hG1
  obtain ⟨cs, hcs⟩ : ∃ cs, (([] : List Value).toArray ++ Builtin.zeroCells (Value.string e0).cells n ++ Builtin.zeroCells (Value.string e0).cells (G - (0 + n))) = cs := ⟨_, rfl⟩
  have hcl : cs.size = G := by rw [← hcs]; simp [Builtin.zeroCells, Value.cells]; omega
  have hrz2 : ∀ ty, (Builtin.append_ #[24, 3] ty #[.slice none 0 0, .int .i64 n]).run Try.prog W = .ok (.slice (some ⟨W.heap.size, 0, none⟩) (0 + n) G) (W.drew.alloc (.cells cs 9)) := fun ty => by rw [← hcs]; exact hrz ty
  rw [Nat.zero_add] at hrz2
  have hfin : HRow (W.drew.alloc (.cells cs 9)) W.heap.size 9 1 (.slice (some ⟨W.heap.size, 0, none⟩) 0 G) 0 [] ∧ Below W.heap.size W (W.drew.alloc (.cells cs 9)) :=
    ⟨⟨rfl, .inr ⟨W.heap.size, G, cs, rfl, Nat.le_refl _, heap_alloc_new W.drew _, Nat.zero_le _, hG1, by omega, by simp⟩⟩, (below_drew W).trans ((below_alloc W.drew _).mono (Nat.le_refl _))⟩
  obtain ⟨w1, hw1⟩ : ∃ w1, W.drew.alloc (.cells cs 9) = w1 := ⟨_, rfl⟩
  rw [hw1] at hrz2 hfin
  have HF := Lib.hid hfin
  unfold maxLen at hG1
  clear hrz hold hcs hcl hG hw1 hfin
  obtain ⟨S, hS⟩ : ∃ S, W.heap.size = S := ⟨_, rfl⟩
  rw [hS] at hrz2 HF ⊢
  clear hS
  go_enter Try.func70, Try.ntmps70
  go_wp2_with (at_builtin; refine Lib.wpList_append_run _ rfl _ _ _ _ rfl _ _ rfl rfl _ _ (hrz2 _) ?_)
  go_ret
  exact ⟨_, _, rfl, HF.out.1, HF.out.2⟩
set_option maxRecDepth 100000 in
set_option maxHeartbeats 2000000 in
theorem concat_any {a : List ByteArray} {x : ByteArray} {b : Nat} {va vb : Value} {W : World} (hb : W.heap[b]? = some (.cells #[va, vb] 24)) (ha : Wd W va a) (hx : Wd W vb [x]) (hl : a.length ≤ 4) : Calls Try.prog 52 #[.slice (some ⟨b, 0, none⟩) 2 2] W fun e w' => ∃ p c, e = .returned (.slice p (a ++ [x]).length c) ∧ HRow w' W.heap.size 9 1 (.slice p (a ++ [x]).length c) (a ++ [x]).length (cellsS (a ++ [x])) ∧ Below W.heap.size W w' := by
  obtain ⟨pa, ca, rfl, hca, hma⟩ := ha.slice
  obtain ⟨pb, cb, rfl, hcb, hmb⟩ := hx.slice
  obtain ⟨n, hn⟩ : ∃ n, a.length = n := ⟨_, rfl⟩
  have hn1 : [x].length = 1 := rfl
  unfold maxLen at hma hmb
  rw [hn] at hca ha hl hb
  rw [hn1] at hcb hx hb
  have HD := Lib.hid (And.intro ha (And.intro hx (And.intro hb hn)))
  have z0 := nd_cell hb 0
  have z1 := nd_cell hb 1
  have zl := lt_of_heap hb
  have hgrow := grow_any (n := n + 1) (by omega) (by omega) W
  rw [show ((n + 1 : Nat) : Int) = (n : Int) + 1 from rfl] at hgrow
  clear ha hx hb hn
  go_enter Try.func52, Try.ntmps52
  go_wp2_with fail
  go_loopg [3, 11] 3 (fun gh sv jv w => ((jv = .int .i64 0 ∧ sv = .int .i64 0 ∧ 3 ≤ gh) ∨ (jv = .int .i64 1 ∧ sv = .int .i64 n ∧ 2 ≤ gh) ∨ (jv = .int .i64 2 ∧ sv = .int .i64 ((n : Int) + 1) ∧ 1 ≤ gh)) ∧ w = W)
  case atStart => exact ⟨.inl ⟨rfl, rfl, Nat.le_refl _⟩, rfl⟩
  case round =>
    obtain ⟨hcase, hw⟩ := hrel
    have hw := hw.symm
    subst hw
    rcases hcase with ⟨rfl, rfl, hg⟩ | ⟨rfl, rfl, hg⟩ | ⟨rfl, rfl, hg⟩
    · go_wp2_with fail
      go_roundg 2
      case measure => omega
      case rel => exact ⟨.inr (.inl ⟨rfl, by go_num, Nat.le_refl _⟩), rfl⟩
    · go_wp2_with fail
      go_roundg 1
      case measure => omega
      case rel => exact ⟨.inr (.inr ⟨rfl, by go_num, Nat.le_refl _⟩), rfl⟩
    · go_wp2_with (go_at_call 70; (with_reducible refine hgrow.mono ?_); rintro e w1 ⟨p1, G, rfl, hr1, hb1⟩)
      have y0 := bel_cell hb1 z0
      have y1 := bel_cell hb1 z1
      have H1 := Lib.hid (And.intro hr1 hb1)
      have HZ := Lib.hid (And.intro z0 z1)
      clear hgrow hr1 hb1 z0 z1 y0 y1
      have hlb : ∀ w, Below W.heap.size W w → b < w.heap.size := fun w hb => Nat.lt_of_lt_of_le zl hb.size
      have HLB := Lib.hid hlb
      clear hlb zl
      go_wp2_with fail
      go_loopg [6, 27] 3 (fun gh nv jv w => ∃ (p : Option Addr) (m c : Nat) (l : List ByteArray), nv = .slice p m c ∧ m = l.length ∧ HRow w W.heap.size 9 1 (.slice p m c) m (cellsS l) ∧ Below W.heap.size W w ∧ ((jv = .int .i64 0 ∧ l = [] ∧ 3 ≤ gh) ∨ (jv = .int .i64 1 ∧ l = a ∧ 2 ≤ gh) ∨ (jv = .int .i64 2 ∧ l = a ++ [x] ∧ 1 ≤ gh)))
      case atStart => exact ⟨p1, 0, G, [], rfl, rfl, H1.out.1, H1.out.2, .inl ⟨rfl, rfl, Nat.le_refl _⟩⟩
      case round =>
        obtain ⟨p, m, c, l, rfl, hm, hR, hB, hcase⟩ := hrel
        subst hm
        have y0 := bel_cell hB HZ.out.1
        have y1 := bel_cell hB HZ.out.2
        have yl := HLB.out _ hB
        rcases hcase with ⟨rfl, rfl, hg⟩ | ⟨rfl, rfl, hg⟩ | ⟨rfl, rfl, hg⟩
        · obtain ⟨p', c', w3, hrun, hr3, hg3⟩ := app_words (ty := 24) hR (HD.out.1.later hB) (by rw [HD.out.2.2.2]; simp; omega) hB.size
          rw [List.nil_append] at hrun hr3
          have H3 := Lib.hid (And.intro hr3 (below_row hR hg3 (Nat.le_refl _) hB.size |> hB.trans))
          clear hR hr3 hg3 hB
          go_wp2_with (at_builtin; refine wpList_append_run rfl (.tmp 31) (.tmp 32) 24 rfl rfl rfl hrun ?_)
          go_roundg 2
          case measure => omega
          case rel => exact ⟨_, _, _, a, rfl, rfl, H3.out.1, H3.out.2, .inr (.inl ⟨rfl, rfl, Nat.le_refl _⟩)⟩
        · obtain ⟨p', c', w3, hrun, hr3, hg3⟩ := app_words (ty := 24) hR (HD.out.2.1.later hB) (by rw [HD.out.2.2.2]; simp; omega) hB.size
          have H3 := Lib.hid (And.intro hr3 (below_row hR hg3 (Nat.le_refl _) hB.size |> hB.trans))
          clear hR hr3 hg3 hB
          go_wp2_with (at_builtin; refine wpList_append_run rfl (.tmp 31) (.tmp 32) 24 rfl rfl rfl hrun ?_)
          go_roundg 1
          case measure => omega
          case rel => exact ⟨_, _, _, l ++ [x], rfl, by simp, by have h := H3.out.1; rw [List.length_append] at h; exact h, H3.out.2, .inr (.inr ⟨rfl, rfl, Nat.le_refl _⟩)⟩
        · have H3 := Lib.hid (And.intro hR hB)
          clear hR hB
          go_wp2_with fail
          go_ret
          exact ⟨_, _, rfl, H3.out.1, H3.out.2⟩
end Go.Proofs.Ytcgceigcegddlaa
