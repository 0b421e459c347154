/- Words in memory; two ways held against each other. -/
import Derived.Test.YtcgceigcegddlaaPA
import Derived.Test.YtcgceigcegddlaaHG
import Derived.Laws.Cover1
namespace Go.Proofs.Ytcgceigcegddlaa
open Go Go.RowKit Go.Proofs

/-- Words that can be read, in a block of words. -/
def Wd (W : World) (v : Value) (l : List ByteArray) : Prop := ∃ p cap, v = .slice p l.length cap ∧ l.length ≤ cap ∧ cap ≤ maxLen ∧ (∀ a, p = some a → a.spot = none) ∧ (0 < l.length → ∃ b off cur m, p = some ⟨b, off, none⟩ ∧ W.heap[b]? = some (.cells cur 9 m) ∧ ∀ j (h : j < l.length), cur[off + j]? = some (.string l[j]))
/-- What is turned: no block of words. -/
def Kp9 (W W' : World) : Prop := ∀ (b : Nat) (cur : Array Value) (m : Nat × Nat), W.heap[b]? = some (Obj.cells cur 9 m) → W'.heap[b]? = some (Obj.cells cur 9 m)
theorem Kp9.refl (W : World) : Kp9 W W := fun _ _ _ h => h
theorem Kp9.trans {A B C : World} (h : Kp9 A B) (k : Kp9 B C) : Kp9 A C := fun b cur m x => k b cur m (h b cur m x)
theorem Kp9.below {W W' : World} (h : Below W.heap.size W W') : Kp9 W W' := fun b _ _ x => (h.block b (lt_of_heap x)).trans x
theorem Kp9.of_chg {W W' : World} {S : Nat → Prop} (h : Chg S W W') (hs : ∀ b cur m, S b → W.heap[b]? ≠ some (Obj.cells cur 9 m)) : Kp9 W W' := fun b cur m x => by
  refine (h.block b (lt_of_heap x) (fun hb => hs b cur m hb x)).trans x
theorem Kp9.grown {w w' : World} {base n sz : Nat} {t : TypeId} {v : Value} {xs : List Value} (hr : HRow w base t sz v n xs) (ht : t ≠ 9) (hg : w.grownBy w' v.ownBlock) : Kp9 w w' := by
  intro q cur m hq
  refine (hg.block q (lt_of_heap hq) (fun eq => ?_)).trans hq
  obtain ⟨_, c, hb⟩ := hr.block q eq.symm
  rw [hb] at hq
  cases hq
  exact ht rfl
section
variable {W W' : World} {v : Value} {l : List ByteArray}
theorem Wd.kp (h : Wd W v l) (hk : Kp9 W W') : Wd W' v l := by
  obtain ⟨p, cap, h1, h2, h3, h4, h5⟩ := h
  refine ⟨p, cap, h1, h2, h3, h4, fun hn => ?_⟩
  obtain ⟨b, off, cur, m, a1, a2, a3⟩ := h5 hn
  exact ⟨b, off, cur, m, a1, hk _ _ _ a2, a3⟩
theorem Wd.later (h : Wd W v l) (hb : Below W.heap.size W W') : Wd W' v l := h.kp (.below hb)
theorem Wd.slice (h : Wd W v l) : ∃ p cap, v = .slice p l.length cap ∧ l.length ≤ cap ∧ cap ≤ maxLen := by
  obtain ⟨p, cap, h1, h2, h3, _⟩ := h
  exact ⟨p, cap, h1, h2, h3⟩
theorem Wd.nil (W : World) : Wd W (.slice none 0 0) [] := ⟨none, 0, rfl, Nat.le_refl _, Nat.zero_le _, fun a h => (by cases h), fun h => absurd h (Nat.lt_irrefl _)⟩
theorem Wd.word {p : Option Addr} {n cap : Nat} (h : Wd W (.slice p n cap) l) {i : Nat} (hi : i < l.length) : ∃ b off, p = some ⟨b, off, none⟩ ∧ b < W.heap.size ∧ W.cell? ⟨b, off + i, none⟩ = some (.string l[i]) := by
  obtain ⟨p', cap', h1, h2, h3, h4, h5⟩ := h
  obtain ⟨rfl, -, rfl⟩ := Value.slice.inj h1
  obtain ⟨b, off, cur, m, a1, a2, a3⟩ := h5 (by omega)
  exact ⟨b, off, a1, lt_of_heap a2, by simp only [World.cell?, a2]; exact a3 i hi⟩
theorem HRow.wd {base n : Nat} (h : HRow W base 9 1 v n (cellsS l)) : Wd W v l := by
  have hl : l.length = n := by have := h.1; rw [cellsS_len] at this; omega
  subst hl
  rcases h.2 with ⟨rfl, hn⟩ | ⟨g, cap, cur, rfl, hb, hg, hn, hc, hs, ht⟩
  · exact ⟨none, 0, by rw [hn], by omega, Nat.zero_le _, fun a h => (by cases h), fun h => absurd h (by omega)⟩
  · refine ⟨some ⟨g, 0, none⟩, cap, rfl, hn, hc, fun a h => (by cases h; rfl), fun _ => ⟨g, 0, cur, _, rfl, hg, fun j hj => ?_⟩⟩
    have e : (cellsS l)[j]? = some (.string l[j]) := by unfold cellsS; rw [List.getElem?_map, List.getElem?_eq_getElem hj]; rfl
    rw [← ht, List.getElem?_take] at e
    split at e
    · rw [Nat.zero_add, ← Array.getElem?_toList]; exact e
    · cases e
theorem Wd.rd (h : Wd W v l) : RdS W v l := by
  obtain ⟨p, cap, h1, h2, h3, h4, h5⟩ := h
  refine ⟨cellsS_len l, p, cap, h1, h2, h3, h4, fun hn => ?_⟩
  obtain ⟨b, off, cur, m, a1, a2, a3⟩ := h5 hn
  refine ⟨b, off, cur, 9, m, a1, a2, by decide, by decide, fun j u hj => ?_⟩
  unfold cellsS at hj
  rw [List.getElem?_map] at hj
  by_cases hjl : j < l.length
  · rw [List.getElem?_eq_getElem hjl] at hj
    cases hj
    exact a3 j hjl
  · rw [List.getElem?_eq_none (by omega)] at hj; cases hj
end

set_option maxRecDepth 100000 in
theorem nan_any (x : ByteArray) (W : World) : Calls Try.prog 69 #[.string x] W fun e w' => e = .returned (.bool false) ∧ w' = W := by
  go_enter Try.func69, Try.ntmps69
  go_wp2_with fail
  go_ret
  simp
set_option maxRecDepth 100000 in
theorem cmp50_any (x y : ByteArray) (W : World) : Calls Try.prog 50 #[.string x, .string y] W fun e w' => e = .returned (.int .i64 (cmpS x y)) ∧ w' = W := by
  have hsw := cmpS_swap x y
  unfold cmpS at hsw ⊢
  have h4 := cb_cases y.data.toList x.data.toList
  rcases cb_cases x.data.toList y.data.toList with ⟨h1, h2, _⟩ | ⟨h1, h2, h3⟩ | ⟨h1, h2, h3⟩
  · rw [h1]
    rw [← ByteArray.toList_eq, ← ByteArray.toList_eq] at h2
    clear h1 h4 hsw
    go_enter Try.func50, Try.ntmps50
    go_wp2_with (go_at_call 69; refine (nan_any _ _).mono ?_; rintro e w' ⟨rfl, hw⟩; have hw := hw.symm; subst hw)
    go_ret
    exact ⟨rfl, rfl⟩
  · rw [h1]
    obtain rfl := toL_inj h2
    rw [← ByteArray.toList_eq] at h3
    have h6 : (x.toList == x.toList) = true := by simp
    clear h1 h4 hsw h2
    go_enter Try.func50, Try.ntmps50
    go_wp2_with (go_at_call 69; refine (nan_any _ _).mono ?_; rintro e w' ⟨rfl, hw⟩; have hw := hw.symm; subst hw)
    go_ret
    exact ⟨rfl, rfl⟩
  · have h5 : Op.bytesLess y.data.toList x.data.toList = true := by
      rcases h4 with ⟨_, h, _⟩ | ⟨h, _, _⟩ | ⟨h, _, _⟩
      · exact h
      · omega
      · omega
    rw [h1]
    have h6 : (x.toList == y.toList) = false := by
      rw [ByteArray.toList_eq, ByteArray.toList_eq, beq_eq_false_iff_ne]; exact h3
    rw [← ByteArray.toList_eq, ← ByteArray.toList_eq] at h2 h5
    clear h1 h4 hsw h3
    go_enter Try.func50, Try.ntmps50
    go_wp2_with (go_at_call 69; refine (nan_any _ _).mono ?_; rintro e w' ⟨rfl, hw⟩; have hw := hw.symm; subst hw)
    go_ret
    exact ⟨rfl, rfl⟩

set_option maxRecDepth 100000 in
set_option maxHeartbeats 1000000 in
theorem cmp34_any {a b : List ByteArray} {va vb : Value} {W : World} (ha : Wd W va a) (hb : Wd W vb b) : Calls Try.prog 34 #[va, vb] W fun e w' => e = .returned (.int .i64 (cmpP a b)) ∧ w' = W := by
  obtain ⟨p, cap, rfl, hc, hm⟩ := ha.slice
  obtain ⟨q, capq, rfl, hcq, hmq⟩ := hb.slice
  obtain ⟨n, hn⟩ : ∃ n, a.length = n := ⟨_, rfl⟩
  obtain ⟨m, hk⟩ : ∃ n, b.length = n := ⟨_, rfl⟩
  unfold maxLen at hm hmq
  rw [hn] at hc ha ⊢
  rw [hk] at hcq hb ⊢
  have HA := Lib.hid ha
  have HB := Lib.hid hb
  have HN := Lib.hid (And.intro hn hk)
  obtain ⟨r, hr⟩ : ∃ r, cmpP a b = r := ⟨_, rfl⟩
  rw [hr]
  have hr0 : cmpP (a.drop 0) (b.drop 0) = r := hr
  clear ha hb hn hk hr
  go_enter Try.func34, Try.ntmps34
  go_wp2_with fail
  go_loopg [11] (n + 1) (fun gh jv w => ∃ (j : Nat), jv = .int .i64 (j : Int) ∧ j ≤ n ∧ j ≤ m ∧ n + 1 ≤ j + gh ∧ cmpP (a.drop j) (b.drop j) = r ∧ w = W)
  case atStart => exact ⟨0, rfl, Nat.zero_le _, Nat.zero_le _, by omega, hr0, rfl⟩
  case round =>
    clear hr0
    obtain ⟨j, rfl, hj, hjm, hg, hr, rfl⟩ := hrel
    by_cases hlt : j < n
    · have hjl : j < a.length := by rw [HN.out.1]; exact hlt
      obtain ⟨b1, o1, rfl, hb1, c1⟩ := HA.out.word hjl
      by_cases hlt2 : j < m
      · have hjk : j < b.length := by rw [HN.out.2]; exact hlt2
        obtain ⟨b2, o2, rfl, hb2, c2⟩ := HB.out.word hjk
        rw [cmpP_at hjl hjk] at hr
        generalize a[j] = x at c1 hr
        generalize b[j] = y at c2 hr
        by_cases hz : cmpS x y = 0
        · rw [if_pos hz] at hr
          have H := Lib.hid hr
          clear hr
          have hcm := cmp50_any x y wr
          rw [hz] at hcm
          clear hz
          go_wp2_with (go_at_call 50; refine hcm.mono ?_; rintro e w' ⟨rfl, hw⟩; have hw := hw.symm; subst hw)
          go_roundg (n - j)
          case measure => omega
          case rel => exact ⟨j + 1, by go_num, by omega, by omega, by omega, H.out, rfl⟩
        · rw [if_neg hz] at hr
          have hcm := cmp50_any x y wr
          rw [hr] at hcm hz
          clear hr
          have hz2 : (r != 0) = true := by simp [hz]
          have hz3 : decide (r = 0) = false := decide_eq_false hz
          go_wp2_with (go_at_call 50; refine hcm.mono ?_; rintro e w' ⟨rfl, hw⟩; have hw := hw.symm; subst hw)
          go_ret
          exact ⟨rfl, rfl⟩
      · have hl := cmpP_long (b := b) hjl (by rw [HN.out.2]; omega)
        rw [hr] at hl
        subst hl
        obtain rfl : j = m := by omega
        clear hr
        go_wp2_with fail
        go_ret
        exact ⟨rfl, rfl⟩
    · obtain rfl : j = n := by omega
      by_cases hlt2 : j < m
      · have hl := cmpP_short (a := a) (b := b) (j := j) (by rw [HN.out.1]; exact Nat.le_refl _) (by rw [HN.out.2]; exact hlt2)
        rw [hr] at hl
        subst hl
        clear hr
        go_wp2_with fail
        go_ret
        exact ⟨rfl, rfl⟩
      · have hl := cmpP_done (a := a) (b := b) (j := j) (by rw [HN.out.1]; exact Nat.le_refl _) (by rw [HN.out.2]; omega)
        rw [hr] at hl
        subst hl
        clear hr
        go_wp2_with fail
        go_ret
        exact ⟨rfl, rfl⟩
set_option maxRecDepth 100000 in
theorem pcmp_any {a b : List ByteArray} {va vb : Value} {W : World} (ha : Wd W va a) (hb : Wd W vb b) : Calls Try.prog 16 #[va, vb] W fun e w' => e = .returned (.int .i64 (cmpP a b)) ∧ w' = W := by
  have hc := cmp34_any ha hb
  obtain ⟨p, cap, rfl, _, _⟩ := ha.slice
  obtain ⟨q, capq, rfl, _, _⟩ := hb.slice
  clear ha hb
  generalize cmpP a b = r at hc ⊢
  generalize a.length = n at hc ⊢
  generalize b.length = m at hc ⊢
  go_enter Try.func16, Try.ntmps16
  go_wp2_with (go_at_call 34; refine hc.mono ?_; rintro e w' ⟨rfl, hw⟩; have hw := hw.symm; subst hw)
  go_ret
  exact ⟨rfl, rfl⟩
theorem Below.of_eq {W w : World} (h : w = W) : Below W.heap.size W w := h ▸ Below.refl _ _
end Go.Proofs.Ytcgceigcegddlaa
