/- Words in memory; two ways held against each other. The reference's Compare and EqPath; path.Col. The reference's Col. -/
import Derived.Test.YtmfkkpogmmoflaaGreatPA
import Derived.Test.YtmfkkpogmmoflaaGreatHE
import Derived.Laws.Cover1
import Derived.Test.YtmfkkpogmmoflaaGreatSA
import Derived.Test.YtmfkkpogmmoflaaGreatLS
namespace Go.Proofs.YtmfkkpogmmoflaaGreat
open Go Go.RowKit Go.Proofs

/-- Words that can be read, in a block of words. -/
def Wd (W : World) (v : Value) (l : List ByteArray) : Prop := ∃ p cap, v = .slice p l.length cap ∧ l.length ≤ cap ∧ cap ≤ maxLen ∧ (∀ a, p = some a → a.spot = none) ∧ (0 < l.length → ∃ b off cur m, p = some ⟨b, off, none⟩ ∧ W.heap[b]? = some (.cells cur 9 m) ∧ ∀ j (h : j < l.length), cur[off + j]? = some (.string l[j]))
/-- What is turned: no block of words. -/
def Kp9 (W W' : World) : Prop := ∀ (b : Nat) (cur : Array Value) (m : Nat × Nat), W.heap[b]? = some (Obj.cells cur 9 m) → W'.heap[b]? = some (Obj.cells cur 9 m)
theorem Kp9.refl (W : World) : Kp9 W W := fun _ _ _ h => h
theorem Kp9.trans {A B C : World} (h : Kp9 A B) (k : Kp9 B C) : Kp9 A C := fun b cur m x => k b cur m (h b cur m x)
theorem Kp9.below {W W' : World} (h : Below W.heap.size W W') : Kp9 W W' := fun b _ _ x => (h.block b (lt_of_heap x)).trans x
theorem Kp9.of_chg {W W' : World} {S : Nat → Prop} (h : Chg S W W') (hs : ∀ b cur m, S b → W.heap[b]? ≠ some (Obj.cells cur 9 m)) : Kp9 W W' := fun b cur m x => by
  refine (h.block b (lt_of_heap x) (fun hb => hs b cur m hb x)).trans x
theorem Kp9.grown {w w' : World} {base n sz : Nat} {t : TypeId} {v : Value} {xs : List Value} (hr : HRow w base t sz v n xs) (ht : t ≠ 9) (hg : w.grownBy w' v.ownBlock) : Kp9 w w' := by
  intro q cur m hq
  refine (hg.block q (lt_of_heap hq) (fun eq => ?_)).trans hq
  obtain ⟨_, c, hb⟩ := hr.block q eq.symm
  rw [hb] at hq
  cases hq
  exact ht rfl
section
variable {W W' : World} {v : Value} {l : List ByteArray}
theorem Wd.kp (h : Wd W v l) (hk : Kp9 W W') : Wd W' v l := by
  obtain ⟨p, cap, h1, h2, h3, h4, h5⟩ := h
  refine ⟨p, cap, h1, h2, h3, h4, fun hn => ?_⟩
  obtain ⟨b, off, cur, m, a1, a2, a3⟩ := h5 hn
  exact ⟨b, off, cur, m, a1, hk _ _ _ a2, a3⟩
theorem Wd.later (h : Wd W v l) (hb : Below W.heap.size W W') : Wd W' v l := h.kp (.below hb)
theorem Wd.slice (h : Wd W v l) : ∃ p cap, v = .slice p l.length cap ∧ l.length ≤ cap ∧ cap ≤ maxLen := by
  obtain ⟨p, cap, h1, h2, h3, _⟩ := h
  exact ⟨p, cap, h1, h2, h3⟩
theorem Wd.nil (W : World) : Wd W (.slice none 0 0) [] := ⟨none, 0, rfl, Nat.le_refl _, Nat.zero_le _, fun a h => (by cases h), fun h => absurd h (Nat.lt_irrefl _)⟩
theorem Wd.word {p : Option Addr} {n cap : Nat} (h : Wd W (.slice p n cap) l) {i : Nat} (hi : i < l.length) : ∃ b off, p = some ⟨b, off, none⟩ ∧ b < W.heap.size ∧ W.cell? ⟨b, off + i, none⟩ = some (.string l[i]) := by
  obtain ⟨p', cap', h1, h2, h3, h4, h5⟩ := h
  obtain ⟨rfl, -, rfl⟩ := Value.slice.inj h1
  obtain ⟨b, off, cur, m, a1, a2, a3⟩ := h5 (by omega)
  exact ⟨b, off, a1, lt_of_heap a2, by simp only [World.cell?, a2]; exact a3 i hi⟩
theorem HRow.wd {base n : Nat} (h : HRow W base 9 1 v n (cellsS l)) : Wd W v l := by
  have hl : l.length = n := by have := h.1; rw [cellsS_len] at this; omega
  subst hl
  rcases h.2 with ⟨rfl, hn⟩ | ⟨g, cap, cur, rfl, hb, hg, hn, hc, hs, ht⟩
  · exact ⟨none, 0, by rw [hn], by omega, Nat.zero_le _, fun a h => (by cases h), fun h => absurd h (by omega)⟩
  · refine ⟨some ⟨g, 0, none⟩, cap, rfl, hn, hc, fun a h => (by cases h; rfl), fun _ => ⟨g, 0, cur, _, rfl, hg, fun j hj => ?_⟩⟩
    have e : (cellsS l)[j]? = some (.string l[j]) := by unfold cellsS; rw [List.getElem?_map, List.getElem?_eq_getElem hj]; rfl
    rw [← ht, List.getElem?_take] at e
    split at e
    · rw [Nat.zero_add, ← Array.getElem?_toList]; exact e
    · cases e
theorem Wd.rd (h : Wd W v l) : RdS W v l := by
  obtain ⟨p, cap, h1, h2, h3, h4, h5⟩ := h
  refine ⟨cellsS_len l, p, cap, h1, h2, h3, h4, fun hn => ?_⟩
  obtain ⟨b, off, cur, m, a1, a2, a3⟩ := h5 hn
  refine ⟨b, off, cur, 9, m, a1, a2, by decide, by decide, fun j u hj => ?_⟩
  unfold cellsS at hj
  rw [List.getElem?_map] at hj
  by_cases hjl : j < l.length
  · rw [List.getElem?_eq_getElem hjl] at hj
    cases hj
    exact a3 j hjl
  · rw [List.getElem?_eq_none (by omega)] at hj; cases hj
end

set_option maxRecDepth 100000 in
theorem nan_any (x : ByteArray) (W : World) : Calls Tryz.prog 98 #[.string x] W fun e w' => e = .returned (.bool false) ∧ w' = W := by
  go_enter Tryz.func98, Tryz.ntmps98
  go_wp2_with fail
  go_ret
  simp
set_option maxRecDepth 100000 in
theorem cmp50_any (x y : ByteArray) (W : World) : Calls Tryz.prog 80 #[.string x, .string y] W fun e w' => e = .returned (.int .i64 (cmpS x y)) ∧ w' = W := by
  have hsw := cmpS_swap x y
  unfold cmpS at hsw ⊢
  have h4 := cb_cases y.data.toList x.data.toList
  rcases cb_cases x.data.toList y.data.toList with ⟨h1, h2, _⟩ | ⟨h1, h2, h3⟩ | ⟨h1, h2, h3⟩
  · rw [h1]
    rw [← ByteArray.toList_eq, ← ByteArray.toList_eq] at h2
    clear h1 h4 hsw
    go_enter Tryz.func80, Tryz.ntmps80
    go_wp2_with (go_at_call 98; refine (nan_any _ _).mono ?_; rintro e w' ⟨rfl, hw⟩; have hw := hw.symm; subst hw)
    go_ret
    exact ⟨rfl, rfl⟩
  · rw [h1]
    obtain rfl := toL_inj h2
    rw [← ByteArray.toList_eq] at h3
    have h6 : (x.toList == x.toList) = true := by simp
    clear h1 h4 hsw h2
    go_enter Tryz.func80, Tryz.ntmps80
    go_wp2_with (go_at_call 98; refine (nan_any _ _).mono ?_; rintro e w' ⟨rfl, hw⟩; have hw := hw.symm; subst hw)
    go_ret
    exact ⟨rfl, rfl⟩
  · have h5 : Op.bytesLess y.data.toList x.data.toList = true := by
      rcases h4 with ⟨_, h, _⟩ | ⟨h, _, _⟩ | ⟨h, _, _⟩
      · exact h
      · omega
      · omega
    rw [h1]
    have h6 : (x.toList == y.toList) = false := by
      rw [ByteArray.toList_eq, ByteArray.toList_eq, beq_eq_false_iff_ne]; exact h3
    rw [← ByteArray.toList_eq, ← ByteArray.toList_eq] at h2 h5
    clear h1 h4 hsw h3
    go_enter Tryz.func80, Tryz.ntmps80
    go_wp2_with (go_at_call 98; refine (nan_any _ _).mono ?_; rintro e w' ⟨rfl, hw⟩; have hw := hw.symm; subst hw)
    go_ret
    exact ⟨rfl, rfl⟩

set_option maxRecDepth 100000 in
set_option maxHeartbeats 1000000 in
theorem cmp34_any {a b : List ByteArray} {va vb : Value} {W : World} (ha : Wd W va a) (hb : Wd W vb b) : Calls Tryz.prog 53 #[va, vb] W fun e w' => e = .returned (.int .i64 (cmpP a b)) ∧ w' = W := by
  obtain ⟨p, cap, rfl, hc, hm⟩ := ha.slice
  obtain ⟨q, capq, rfl, hcq, hmq⟩ := hb.slice
  obtain ⟨n, hn⟩ : ∃ n, a.length = n := ⟨_, rfl⟩
  obtain ⟨m, hk⟩ : ∃ n, b.length = n := ⟨_, rfl⟩
  unfold maxLen at hm hmq
  rw [hn] at hc ha ⊢
  rw [hk] at hcq hb ⊢
  have HA := Lib.hid ha
  have HB := Lib.hid hb
  have HN := Lib.hid (And.intro hn hk)
  obtain ⟨r, hr⟩ : ∃ r, cmpP a b = r := ⟨_, rfl⟩
  rw [hr]
  have hr0 : cmpP (a.drop 0) (b.drop 0) = r := hr
  clear ha hb hn hk hr
  go_enter Tryz.func53, Tryz.ntmps53
  go_wp2_with fail
  go_loopg [11] (n + 1) (fun gh jv w => ∃ (j : Nat), jv = .int .i64 (j : Int) ∧ j ≤ n ∧ j ≤ m ∧ n + 1 ≤ j + gh ∧ cmpP (a.drop j) (b.drop j) = r ∧ w = W)
  case atStart => exact ⟨0, rfl, Nat.zero_le _, Nat.zero_le _, by omega, hr0, rfl⟩
  case round =>
    clear hr0
    obtain ⟨j, rfl, hj, hjm, hg, hr, rfl⟩ := hrel
    by_cases hlt : j < n
    · have hjl : j < a.length := by rw [HN.out.1]; exact hlt
      obtain ⟨b1, o1, rfl, hb1, c1⟩ := HA.out.word hjl
      by_cases hlt2 : j < m
      · have hjk : j < b.length := by rw [HN.out.2]; exact hlt2
        obtain ⟨b2, o2, rfl, hb2, c2⟩ := HB.out.word hjk
        rw [cmpP_at hjl hjk] at hr
        generalize a[j] = x at c1 hr
        generalize b[j] = y at c2 hr
        by_cases hz : cmpS x y = 0
        · rw [if_pos hz] at hr
          have H := Lib.hid hr
          clear hr
          have hcm := cmp50_any x y wr
          rw [hz] at hcm
          clear hz
          go_wp2_with (go_at_call 80; refine hcm.mono ?_; rintro e w' ⟨rfl, hw⟩; have hw := hw.symm; subst hw)
          go_roundg (n - j)
          case measure => omega
          case rel => exact ⟨j + 1, by go_num, by omega, by omega, by omega, H.out, rfl⟩
        · rw [if_neg hz] at hr
          have hcm := cmp50_any x y wr
          rw [hr] at hcm hz
          clear hr
          have hz2 : (r != 0) = true := by simp [hz]
          have hz3 : decide (r = 0) = false := decide_eq_false hz
          go_wp2_with (go_at_call 80; refine hcm.mono ?_; rintro e w' ⟨rfl, hw⟩; have hw := hw.symm; subst hw)
          go_ret
          exact ⟨rfl, rfl⟩
      · have hl := cmpP_long (b := b) hjl (by rw [HN.out.2]; omega)
        rw [hr] at hl
        subst hl
        obtain rfl : j = m := by omega
        clear hr
        go_wp2_with fail
        go_ret
        exact ⟨rfl, rfl⟩
    · obtain rfl : j = n := by omega
      by_cases hlt2 : j < m
      · have hl := cmpP_short (a := a) (b := b) (j := j) (by rw [HN.out.1]; exact Nat.le_refl _) (by rw [HN.out.2]; exact hlt2)
        rw [hr] at hl
        subst hl
        clear hr
        go_wp2_with fail
        go_ret
        exact ⟨rfl, rfl⟩
      · have hl := cmpP_done (a := a) (b := b) (j := j) (by rw [HN.out.1]; exact Nat.le_refl _) (by rw [HN.out.2]; omega)
        rw [hr] at hl
        subst hl
        clear hr
        go_wp2_with fail
        go_ret
        exact ⟨rfl, rfl⟩
set_option maxRecDepth 100000 in
theorem pcmp_any {a b : List ByteArray} {va vb : Value} {W : World} (ha : Wd W va a) (hb : Wd W vb b) : Calls Tryz.prog 34 #[va, vb] W fun e w' => e = .returned (.int .i64 (cmpP a b)) ∧ w' = W := by
  have hc := cmp34_any ha hb
  obtain ⟨p, cap, rfl, _, _⟩ := ha.slice
  obtain ⟨q, capq, rfl, _, _⟩ := hb.slice
  clear ha hb
  generalize cmpP a b = r at hc ⊢
  generalize a.length = n at hc ⊢
  generalize b.length = m at hc ⊢
  go_enter Tryz.func34, Tryz.ntmps34
  go_wp2_with (go_at_call 53; refine hc.mono ?_; rintro e w' ⟨rfl, hw⟩; have hw := hw.symm; subst hw)
  go_ret
  exact ⟨rfl, rfl⟩
theorem Below.of_eq {W w : World} (h : w = W) : Below W.heap.size W w := h ▸ Below.refl _ _
end Go.Proofs.YtmfkkpogmmoflaaGreat
namespace Go.Proofs.YtmfkkpogmmoflaaGreat
open Go Go.RowKit Go.Proofs

set_option maxRecDepth 100000 in
set_option maxHeartbeats 2000000 in
theorem rcmp_any {a b : List ByteArray} {va vb : Value} {W : World} (ha : RdS W va a) (hb : RdS W vb b) : Calls Tryz.prog 42 #[va, vb] W fun e w' => e = .returned (.int .i64 (cmpP a b)) ∧ Below W.heap.size W w' := by
  obtain ⟨p, cap, rfl, hc, hm⟩ := ha.slice
  obtain ⟨q, cq, rfl, hc2, hm2⟩ := hb.slice
  obtain ⟨n, hn⟩ : ∃ n, a.length = n := ⟨_, rfl⟩
  obtain ⟨m, hk⟩ : ∃ n, b.length = n := ⟨_, rfl⟩
  unfold maxLen at hm hm2
  rw [hn] at hc ha ⊢
  rw [hk] at hc2 hb ⊢
  have HR := Lib.hid (And.intro ha hb)
  have HN := Lib.hid (And.intro hn hk)
  obtain ⟨r, hr⟩ : ∃ r, cmpP a b = r := ⟨_, rfl⟩
  rw [hr]
  have hr0 : cmpP (a.drop 0) (b.drop 0) = r := hr
  clear ha hb hn hk hr
  go_enter Tryz.func42, Tryz.ntmps42
  go_wp2_with fail
  go_loopg [5] (n + 1) (fun gh jv w => ∃ (j : Nat), jv = .int .i64 (j : Int) ∧ j ≤ n ∧ j ≤ m ∧ n + 1 ≤ j + gh ∧ cmpP (a.drop j) (b.drop j) = r ∧ Below W.heap.size W w)
  case atStart => exact ⟨0, rfl, Nat.zero_le _, Nat.zero_le _, by omega, hr0, Below.refl _ _⟩
  case round =>
    clear hr0
    obtain ⟨j, rfl, hj, hjm, hg, hr, hB⟩ := hrel
    by_cases hlt : j < n
    · by_cases hlt2 : j < m
      · have hjl : j < a.length := by rw [HN.out.1]; exact hlt
        have hjk : j < b.length := by rw [HN.out.2]; exact hlt2
        obtain ⟨b1, o1, rfl, hb1, _⟩ := RdS.word (HR.out.1.later hB) hjl
        obtain ⟨b2, o2, rfl, hb2, _⟩ := RdS.word (HR.out.2.later hB) hjk
        obtain ⟨x, hx⟩ : ∃ x, a[j] = x := ⟨_, rfl⟩
        obtain ⟨y, hy⟩ : ∃ y, b[j] = y := ⟨_, rfl⟩
        have HX : Hid (∀ w, Below W.heap.size W w → w.cell? ⟨b1, o1 + j, none⟩ = some (.string x) ∧ w.cell? ⟨b2, o2 + j, none⟩ = some (.string y)) := Lib.hid (fun w hb => by
          rw [← hx, ← hy]
          exact ⟨(RdS.wordAt (HR.out.1.later hb) hjl).2, (RdS.wordAt (HR.out.2.later hb) hjk).2⟩)
        have hji : (j : Int) < (n : Int) := by omega
        have hjk2 : (j : Int) < (m : Int) := by omega
        have HB := Lib.hid hB
        rw [cmpP_at hjl hjk, hx, hy] at hr
        have hlss : ∃ b1 b2, Op.bytesLess x.toList y.toList = b1 ∧ (!(Op.bytesLess x.toList y.toList || x.toList == y.toList)) = b2 ∧ ((b1 = true ∧ r = -1) ∨ (b1 = false ∧ b2 = true ∧ r = 1) ∨ (b1 = false ∧ b2 = false ∧ cmpP (a.drop (j + 1)) (b.drop (j + 1)) = r)) := by
          refine ⟨_, _, rfl, rfl, ?_⟩
          rw [ByteArray.toList_eq, ByteArray.toList_eq]
          unfold cmpS at hr
          rcases cb_cases x.data.toList y.data.toList with ⟨h1, h2, h3⟩ | ⟨h1, h2, h3⟩ | ⟨h1, h2, h3⟩
          · rw [h1] at hr; left; exact ⟨h2, by simpa using hr.symm⟩
          · rw [if_pos h1] at hr; right; right; rw [h3, h2]; simp [hr]
          · rw [h1] at hr; right; left; rw [h2]
            have : (x.data.toList == y.data.toList) = false := by rw [beq_eq_false_iff_ne]; exact h3
            rw [this]; exact ⟨rfl, rfl, by simpa using hr.symm⟩
        obtain ⟨c1, c2, hc1, hc2', hcase⟩ := hlss
        have HC := Lib.hid (And.intro hc1 hc2')
        clear hB hb1 hb2 hx hy hr hc1 hc2'
        go_upto_region 4 with fail
        refine Par.wp_region_par 9 [.slice (some ⟨b1, o1, none⟩) n cap, .int .i64 j, (Value.pointer (some ⟨b1, o1 + j, none⟩)), .string x, .slice (some ⟨b2, o2, none⟩) m cq, .int .i64 j, (Value.pointer (some ⟨b2, o2 + j, none⟩)), .string y, .bool c1] (fun w => Below W.heap.size W w) ?A1 ?hm1 ?hB1 ?hA1 (HB.out.drew) ?hop1 ?hT1
        case hm1 => kernel_rfl
        case hB1 => kernel_rfl
        case hA1 =>
          simp only [Par.putA, Par.dstAt, Act.put, List.getElem?_toArray, List.getElem?_cons_zero, List.getElem?_cons_succ, Option.bind_some, List.setIfInBounds_toArray, List.set_cons_zero, List.set_cons_succ, List.getD_cons_zero, List.getD_cons_succ]
          rfl
        case hop1 =>
          simp only [List.take_succ_cons, List.take_zero, Par.GiveAll, and_true]
          refine ⟨fun w' hR => ?_, fun w' hR => ?_, fun w' hR => ?_, fun w' hR => ?_, fun w' hR => ?_, fun w' hR => ?_, fun w' hR => ?_, fun w' hR => ?_, fun w' hR => ?_⟩
          · have HR := Lib.hid hR
            clear hR
            simp only [Par.Gives]
            go_simp
            all_goals exact HR.out
          · have HR := Lib.hid hR
            clear hR
            simp only [Par.Gives]
            go_simp
            all_goals exact HR.out
          · have HR := Lib.hid hR
            clear hR
            simp only [Par.Gives]
            go_simp
            all_goals exact HR.out
          · have HR := Lib.hid hR
            have k := (HX.out w' hR).1
            clear hR
            simp only [Par.Gives]
            go_simp
            all_goals exact HR.out
          · have HR := Lib.hid hR
            clear hR
            simp only [Par.Gives]
            go_simp
            all_goals exact HR.out
          · have HR := Lib.hid hR
            clear hR
            simp only [Par.Gives]
            go_simp
            all_goals exact HR.out
          · have HR := Lib.hid hR
            clear hR
            simp only [Par.Gives]
            go_simp
            all_goals exact HR.out
          · have HR := Lib.hid hR
            have k := (HX.out w' hR).2
            clear hR
            simp only [Par.Gives]
            go_simp
            all_goals exact HR.out
          · have HR := Lib.hid hR
            have k := HC.out.1
            clear hR
            simp only [Par.Gives]
            go_simp
            all_goals exact HR.out
        case hT1 =>
          intro w' hR
          simp only [List.drop_succ_cons, List.drop_nil]
          have HR1 := Lib.hid hR
          clear hR
          rcases hcase with ⟨rfl, rfl⟩ | hcase
          · go_wp2_with fail
            go_ret
            exact ⟨rfl, HR1.out⟩
          · obtain rfl : c1 = false := by rcases hcase with ⟨h, _⟩ | ⟨h, _⟩ <;> exact h
            go_upto_region 6 with fail
            refine Par.wp_region_par 9 [.slice (some ⟨b1, o1, none⟩) n cap, .int .i64 j, (Value.pointer (some ⟨b1, o1 + j, none⟩)), .string x, .slice (some ⟨b2, o2, none⟩) m cq, .int .i64 j, (Value.pointer (some ⟨b2, o2 + j, none⟩)), .string y, .bool c2] (fun w => Below W.heap.size W w) ?A2 ?hm2 ?hB2 ?hA2 (HR1.out.drew) ?hop2 ?hT2
            case hm2 => kernel_rfl
            case hB2 => kernel_rfl
            case hA2 =>
              simp only [Par.putA, Par.dstAt, Act.put, List.getElem?_toArray, List.getElem?_cons_zero, List.getElem?_cons_succ, Option.bind_some, List.setIfInBounds_toArray, List.set_cons_zero, List.set_cons_succ, List.getD_cons_zero, List.getD_cons_succ]
              rfl
            case hop2 =>
              simp only [List.take_succ_cons, List.take_zero, Par.GiveAll, and_true]
              refine ⟨fun w' hR => ?_, fun w' hR => ?_, fun w' hR => ?_, fun w' hR => ?_, fun w' hR => ?_, fun w' hR => ?_, fun w' hR => ?_, fun w' hR => ?_, fun w' hR => ?_⟩
              · have HR := Lib.hid hR
                clear hR
                simp only [Par.Gives]
                go_simp
                all_goals exact HR.out
              · have HR := Lib.hid hR
                clear hR
                simp only [Par.Gives]
                go_simp
                all_goals exact HR.out
              · have HR := Lib.hid hR
                clear hR
                simp only [Par.Gives]
                go_simp
                all_goals exact HR.out
              · have HR := Lib.hid hR
                have k := (HX.out w' hR).1
                clear hR
                simp only [Par.Gives]
                go_simp
                all_goals exact HR.out
              · have HR := Lib.hid hR
                clear hR
                simp only [Par.Gives]
                go_simp
                all_goals exact HR.out
              · have HR := Lib.hid hR
                clear hR
                simp only [Par.Gives]
                go_simp
                all_goals exact HR.out
              · have HR := Lib.hid hR
                clear hR
                simp only [Par.Gives]
                go_simp
                all_goals exact HR.out
              · have HR := Lib.hid hR
                have k := (HX.out w' hR).2
                clear hR
                simp only [Par.Gives]
                go_simp
                all_goals exact HR.out
              · have HR := Lib.hid hR
                have k := HC.out.2
                clear hR
                simp only [Par.Gives]
                go_simp
                all_goals exact HR.out
            case hT2 =>
              intro w' hR
              simp only [List.drop_succ_cons, List.drop_nil]
              have HR2 := Lib.hid hR
              clear hR
              rcases hcase with ⟨_, rfl, rfl⟩ | ⟨_, rfl, hr⟩
              · go_wp2_with fail
                go_ret
                exact ⟨rfl, HR2.out⟩
              · have HRR := Lib.hid hr
                clear hr
                go_wp2_with fail
                go_roundg (n - j)
                case measure => omega
                case rel => exact ⟨j + 1, by go_num, by omega, by omega, by omega, HRR.out, HR2.out⟩
      · have hl := cmpP_long (a := a) (b := b) (j := j) (by rw [HN.out.1]; exact hlt) (by rw [HN.out.2]; omega)
        rw [hr] at hl
        subst hl
        obtain rfl : j = m := by omega
        clear hr
        go_wp2_with fail
        go_ret
        exact ⟨rfl, hB⟩
    · obtain rfl : j = n := by omega
      by_cases hlt2 : j < m
      · have hl := cmpP_short (a := a) (b := b) (j := j) (by rw [HN.out.1]; exact Nat.le_refl _) (by rw [HN.out.2]; exact hlt2)
        rw [hr] at hl
        subst hl
        clear hr
        go_wp2_with fail
        go_ret
        exact ⟨rfl, hB⟩
      · have hl := cmpP_done (a := a) (b := b) (j := j) (by rw [HN.out.1]; exact Nat.le_refl _) (by rw [HN.out.2]; omega)
        rw [hr] at hl
        subst hl
        clear hr
        go_wp2_with fail
        go_ret
        exact ⟨rfl, hB⟩
theorem reqP_any {a b : List ByteArray} {v u : Value} {W : World} (h : RdS W v a) (k : RdS W u b) : Calls Tryz.prog 29 #[v, u] W fun e w' => e = .returned (.bool (decide (cmpP a b = 0))) ∧ Below W.heap.size W w' := by
  have hc := rcmp_any h k
  obtain ⟨p, cap, rfl, _, _⟩ := h.slice
  obtain ⟨q, cq, rfl, _, _⟩ := k.slice
  clear h k
  generalize cmpP a b = r at hc ⊢
  go_enter Tryz.func29, Tryz.ntmps29
  go_wp2_with (go_at_call 42; (with_reducible refine hc.mono ?_); rintro e w1 ⟨rfl, hb⟩)
  go_ret
  exact ⟨by have : (r == 0) = decide (r = 0) := by (rw [Bool.eq_iff_iff]; simp)
            simp [this], hb⟩

/-- A call's own column for the answer, still zero. -/
def KS (W w : World) : Prop := Below W.heap.size W w ∧ w.heap[W.heap.size]? = some (.cells #[.string e0, .int .i64 0, .bool false, .string e0] 54)
theorem KS.start (W : World) : KS W (W.alloc (.cells #[.string e0, .int .i64 0, .bool false, .string e0] 54)) := ⟨below_alloc W _, heap_alloc_new W _⟩
theorem KS.on {W w w' : World} (h : KS W w) (hb : Below w.heap.size w w') : KS W w' := ⟨below_on h.1 hb, heap_on hb h.2⟩
theorem colV_eq (c : C) : colV c = .agg #[.string c.nm, .int .i64 c.kd, .bool c.mu, .string c.tgt] := rfl
set_option maxRecDepth 100000 in
set_option maxHeartbeats 4000000 in
theorem pathCol_any {ts : List T} {pv v : Value} {tb : ByteArray} {p : List ByteArray} {W : World} (h : SchP W pv ts) (hp : Wd W v p) : Calls Tryz.prog 45 #[pv, .string tb, v] W fun e w' => e = .returned (.tuple #[colV (pcolL ts tb p).1, .string (pcolL ts tb p).2.1, .int .i64 (pcolL ts tb p).2.2]) ∧ Below W.heap.size W w' := by
  obtain ⟨q, cap, rfl, hc, hm⟩ := hp.slice
  obtain ⟨n, hn⟩ : ∃ n, p.length = n := ⟨_, rfl⟩
  obtain ⟨S, hS⟩ : ∃ S, W.heap.size = S := ⟨_, rfl⟩
  unfold maxLen at hm
  rw [hn] at hc hp ⊢
  have HP := Lib.hid (And.intro h hp)
  have HN := Lib.hid hn
  have HS := Lib.hid hS
  have K0 := KS.start W
  obtain ⟨w0, hw0⟩ : ∃ w0, W.alloc (.cells #[.string e0, .int .i64 0, .bool false, .string e0] 54) = w0 := ⟨_, rfl⟩
  have HW := Lib.hid hw0
  rw [hw0] at K0
  obtain ⟨r, hr⟩ : ∃ r, pcolL ts tb p = r := ⟨_, rfl⟩
  rw [hr]
  have FIN : Hid (∀ (w wz : World) (a b c d : Value), KS W w → (((w.setCell ⟨S, 0, none⟩ a).setCell ⟨S, 1, none⟩ b).setCell ⟨S, 2, none⟩ c).setCell ⟨S, 3, none⟩ d = wz →
      wz.cell? ⟨S, 0, none⟩ = some a ∧ wz.cell? ⟨S, 1, none⟩ = some b ∧ wz.cell? ⟨S, 2, none⟩ = some c ∧ wz.cell? ⟨S, 3, none⟩ = some d ∧ Below W.heap.size W wz) := Lib.hid (fun w wz a b c d hk e => by
    subst e
    have hz := hk.2
    rw [hS] at hz
    have h4 := set4 hz a b c d
    exact ⟨nd_cell h4 0, nd_cell h4 1, nd_cell h4 2, nd_cell h4 3, below_set4 hk.1 (Nat.le_of_eq hS) _ _ _ _⟩)
  have CELLS : Hid (∀ w, KS W w → S < w.heap.size ∧ w.cell? ⟨S, 0, none⟩ = some (.string e0) ∧ w.cell? ⟨S, 1, none⟩ = some (.int .i64 0) ∧ w.cell? ⟨S, 2, none⟩ = some (.bool false) ∧ w.cell? ⟨S, 3, none⟩ = some (.string e0) ∧ ∀ i, w.frozen? ⟨S, i, none⟩ = false) := Lib.hid (fun w hk => by
    have hz := hk.2
    rw [hS] at hz
    exact ⟨lt_of_heap hz, nd_cell hz 0, nd_cell hz 1, nd_cell hz 2, nd_cell hz 3, fun i => frozen_of_row w S i _ _ hz⟩)
  have HK := Lib.hid K0
  have HR := Lib.hid hr
  clear h hp hw0 hS K0 hr hn
  go_enter Tryz.func45, Tryz.ntmps45
  go_upto_region 1 with fail
  rw [HW.out, HS.out]
  by_cases h0 : n = 0
  · subst h0
    obtain ⟨zl, z0, z1, z2, z3, zf⟩ := CELLS.out _ HK.out
    have e : r = (zeroC, e0, 5) := by rw [← HR.out]; unfold pcolL; rw [if_pos (by rw [HN.out]; omega)]
    subst e
    go_wp2_with fail
    generalize hwz : (((World.setCell _ _ _).setCell _ _).setCell _ _).setCell _ _ = wz
    obtain ⟨y0, y1, y2, y3, hB⟩ := FIN.out _ _ _ _ _ _ HK.out hwz
    refine bodyPost_ret (v := .tuple #[colV zeroC, _, _]) (by simp [results, Tryz.results45, go_sem, y0, y1, y2, y3, colV, zeroC]; first | rfl | exact ⟨rfl, rfl⟩) rfl ?_
    exact ⟨rfl, hB⟩
  · by_cases h4 : 4 < n
    · obtain ⟨zl, z0, z1, z2, z3, zf⟩ := CELLS.out _ HK.out
      have e : r = (zeroC, e0, 5) := by rw [← HR.out]; unfold pcolL; rw [if_pos (by rw [HN.out]; omega)]
      subst e
      go_wp2_with fail
      generalize hwz : (((World.setCell _ _ _).setCell _ _).setCell _ _).setCell _ _ = wz
      obtain ⟨y0, y1, y2, y3, hB⟩ := FIN.out _ _ _ _ _ _ HK.out hwz
      refine bodyPost_ret (v := .tuple #[colV zeroC, _, _]) (by simp [results, Tryz.results45, go_sem, y0, y1, y2, y3, colV, zeroC]; first | rfl | exact ⟨rfl, rfl⟩) rfl ?_
      exact ⟨rfl, hB⟩
    · have HR0 : Hid (pcol ts tb (p.drop 0) = r) := Lib.hid (by
        rw [← HR.out]
        unfold pcolL
        rw [if_neg (by rw [HN.out]; omega)]; rfl)
      clear HR
      obtain ⟨k, hk⟩ : ∃ k, n = k + 1 := ⟨n - 1, by omega⟩
      subst hk
      have hb1 : (((k : Int) + 1) == 0) = false := by rw [beq_eq_false_iff_ne]; omega
      have hb2 : decide (4 < ((k : Int) + 1)) = false := decide_eq_false (by omega)
      go_upto_region 5 with fail
      go_loopg [1, 32] (k + 1) (fun gh tv jv w => ∃ (j : Nat) (t : ByteArray), jv = .int .i64 (j : Int) ∧ tv = .string t ∧ j ≤ k ∧ k + 1 ≤ j + gh ∧ pcol ts t (p.drop j) = r ∧ KS W w)
      case atStart => exact ⟨0, tb, rfl, rfl, Nat.zero_le _, by omega, HR0.out, HK.out⟩
      case round =>
        obtain ⟨j, t, rfl, rfl, hj, hg, hr, hk⟩ := hrel
        clear HR0
        have hjl : j < p.length := by rw [HN.out]; omega
        have HK1 := Lib.hid hk
        obtain ⟨b1, o1, rfl, hb1', c1⟩ := (HP.out.2.later hk.1).word hjl
        rw [pcol_at ts t p hjl] at hr
        obtain ⟨x, hx⟩ : ∃ x, p[j] = x := ⟨_, rfl⟩
        rw [hx] at c1 hr
        obtain ⟨ok, hok⟩ : ∃ ok, hasC (colsAt ts t) x = ok := ⟨_, rfl⟩
        obtain ⟨c, hc'⟩ : ∃ c, orC (colOf (colsAt ts t) x) = c := ⟨_, rfl⟩
        obtain ⟨nm, kd, mu, tg⟩ := c
        have hcall := col_is (HP.out.1.later hk.1) hc' hok
        rw [hok, hc', HN.out] at hr
        have HX := Lib.hid hx
        have hcell := c1
        clear hx hok hc' hk c1
        by_cases hlt : j < k
        · rw [if_neg (show ¬ j + 1 = k + 1 by omega)] at hr
          cases ok
          · rw [if_neg (by decide)] at hr
            subst hr
            go_upto_region 8 with (go_at_call 67; (with_reducible refine hcall.mono ?_); rintro e w1 ⟨rfl, hb⟩)
            have hx5 := heap_alloc_new w1 (.cells #[.string nm, .int .i64 kd, .bool mu, .string tg] 54)
            have hb6 := below_alloc w1 (.cells #[.string nm, .int .i64 kd, .bool mu, .string tg] 54)
            have HK2 := Lib.hid ((HK1.out.on hb).on hb6)
            obtain ⟨B, hBB⟩ : ∃ x, w1.heap.size = x := ⟨_, rfl⟩
            obtain ⟨w2, hw2⟩ : ∃ x, w1.alloc (.cells #[.string nm, .int .i64 kd, .bool mu, .string tg] 54) = x := ⟨_, rfl⟩
            rw [hBB, hw2] at hx5
            rw [hw2] at HK2
            rw [hBB, hw2]
            obtain ⟨zl, z0, z1, z2, z3, zf⟩ := CELLS.out _ HK2.out
            have u0 := nd_cell hx5 0
            have u1 := nd_cell hx5 1
            have u2 := nd_cell hx5 2
            have u3 := nd_cell hx5 3
            have ul := lt_of_heap hx5
            clear hx5 hb6 hBB hw2 hb hcall hcell
            go_wp2_with fail
            generalize hwz : (((World.setCell _ _ _).setCell _ _).setCell _ _).setCell _ _ = wz
            obtain ⟨y0, y1, y2, y3, hB⟩ := FIN.out _ _ _ _ _ _ HK2.out hwz
            refine bodyPost_ret (v := .tuple #[colV zeroC, _, _]) (by simp [results, Tryz.results45, go_sem, y0, y1, y2, y3, colV, zeroC]; first | rfl | exact ⟨rfl, rfl⟩) rfl ?_
            exact ⟨rfl, hB⟩
          · rw [if_pos rfl] at hr
            cases he : eqS tg e0
            · rw [he, if_neg (by decide)] at hr
              have HR := Lib.hid hr
              have hx2 : tg.toList.isEmpty = false := by rw [eqS_e0]; exact he
              clear hr he
              go_upto_region 8 with (go_at_call 67; (with_reducible refine hcall.mono ?_); rintro e w1 ⟨rfl, hb⟩)
              have hx5 := heap_alloc_new w1 (.cells #[.string nm, .int .i64 kd, .bool mu, .string tg] 54)
              have hb6 := below_alloc w1 (.cells #[.string nm, .int .i64 kd, .bool mu, .string tg] 54)
              have HK2 := Lib.hid ((HK1.out.on hb).on hb6)
              obtain ⟨B, hBB⟩ : ∃ x, w1.heap.size = x := ⟨_, rfl⟩
              obtain ⟨w2, hw2⟩ : ∃ x, w1.alloc (.cells #[.string nm, .int .i64 kd, .bool mu, .string tg] 54) = x := ⟨_, rfl⟩
              rw [hBB, hw2] at hx5
              rw [hw2] at HK2
              rw [hBB, hw2]
              obtain ⟨zl, z0, z1, z2, z3, zf⟩ := CELLS.out _ HK2.out
              have u0 := nd_cell hx5 0
              have u1 := nd_cell hx5 1
              have u2 := nd_cell hx5 2
              have u3 := nd_cell hx5 3
              have ul := lt_of_heap hx5
              clear hx5 hb6 hBB hw2 hb hcall hcell
              go_wp2_with fail
              go_roundg (k - j)
              case measure => omega
              case rel => exact ⟨j + 1, tg, by go_num, rfl, by omega, by omega, HR.out, HK2.out⟩
            · rw [he, if_pos rfl] at hr
              subst hr
              have hx2 : tg.toList.isEmpty = true := by rw [eqS_e0]; exact he
              clear he
              go_upto_region 8 with (go_at_call 67; (with_reducible refine hcall.mono ?_); rintro e w1 ⟨rfl, hb⟩)
              have hx5 := heap_alloc_new w1 (.cells #[.string nm, .int .i64 kd, .bool mu, .string tg] 54)
              have hb6 := below_alloc w1 (.cells #[.string nm, .int .i64 kd, .bool mu, .string tg] 54)
              have HK2 := Lib.hid ((HK1.out.on hb).on hb6)
              obtain ⟨B, hBB⟩ : ∃ x, w1.heap.size = x := ⟨_, rfl⟩
              obtain ⟨w2, hw2⟩ : ∃ x, w1.alloc (.cells #[.string nm, .int .i64 kd, .bool mu, .string tg] 54) = x := ⟨_, rfl⟩
              rw [hBB, hw2] at hx5
              rw [hw2] at HK2
              rw [hBB, hw2]
              obtain ⟨zl, z0, z1, z2, z3, zf⟩ := CELLS.out _ HK2.out
              have u0 := nd_cell hx5 0
              have u1 := nd_cell hx5 1
              have u2 := nd_cell hx5 2
              have u3 := nd_cell hx5 3
              have ul := lt_of_heap hx5
              clear hx5 hb6 hBB hw2 hb hcall hcell
              go_wp2_with fail
              generalize hwz : (((World.setCell _ _ _).setCell _ _).setCell _ _).setCell _ _ = wz
              obtain ⟨y0, y1, y2, y3, hB⟩ := FIN.out _ _ _ _ _ _ HK2.out hwz
              refine bodyPost_ret (v := .tuple #[colV zeroC, _, _]) (by simp [results, Tryz.results45, go_sem, y0, y1, y2, y3, colV, zeroC]; first | rfl | exact ⟨rfl, rfl⟩) rfl ?_
              exact ⟨rfl, hB⟩
        · obtain rfl : j = k := by omega
          rw [if_pos rfl] at hr
          cases ok
          · rw [if_neg (by decide)] at hr
            subst hr
            go_upto_region 15 with (go_at_call 67; (with_reducible refine hcall.mono ?_); rintro e w1 ⟨rfl, hb⟩)
            have hx5 := heap_alloc_new w1 (.cells #[.string nm, .int .i64 kd, .bool mu, .string tg] 54)
            have hb6 := below_alloc w1 (.cells #[.string nm, .int .i64 kd, .bool mu, .string tg] 54)
            have HK2 := Lib.hid ((HK1.out.on hb).on hb6)
            obtain ⟨B, hBB⟩ : ∃ x, w1.heap.size = x := ⟨_, rfl⟩
            obtain ⟨w2, hw2⟩ : ∃ x, w1.alloc (.cells #[.string nm, .int .i64 kd, .bool mu, .string tg] 54) = x := ⟨_, rfl⟩
            rw [hBB, hw2] at hx5
            rw [hw2] at HK2
            rw [hBB, hw2]
            obtain ⟨zl, z0, z1, z2, z3, zf⟩ := CELLS.out _ HK2.out
            have u0 := nd_cell hx5 0
            have u1 := nd_cell hx5 1
            have u2 := nd_cell hx5 2
            have u3 := nd_cell hx5 3
            have ul := lt_of_heap hx5
            clear hx5 hb6 hBB hw2 hb hcall hcell
            go_wp2_with fail
            generalize hwz : (((World.setCell _ _ _).setCell _ _).setCell _ _).setCell _ _ = wz
            obtain ⟨y0, y1, y2, y3, hB⟩ := FIN.out _ _ _ _ _ _ HK2.out hwz
            refine bodyPost_ret (v := .tuple #[colV zeroC, _, _]) (by simp [results, Tryz.results45, go_sem, y0, y1, y2, y3, colV, zeroC]; first | rfl | exact ⟨rfl, rfl⟩) rfl ?_
            exact ⟨rfl, hB⟩
          · rw [if_pos rfl] at hr
            subst hr
            go_upto_region 15 with (go_at_call 67; (with_reducible refine hcall.mono ?_); rintro e w1 ⟨rfl, hb⟩)
            have hx5 := heap_alloc_new w1 (.cells #[.string nm, .int .i64 kd, .bool mu, .string tg] 54)
            have hb6 := below_alloc w1 (.cells #[.string nm, .int .i64 kd, .bool mu, .string tg] 54)
            have HK2 := Lib.hid ((HK1.out.on hb).on hb6)
            obtain ⟨B, hBB⟩ : ∃ x, w1.heap.size = x := ⟨_, rfl⟩
            obtain ⟨w2, hw2⟩ : ∃ x, w1.alloc (.cells #[.string nm, .int .i64 kd, .bool mu, .string tg] 54) = x := ⟨_, rfl⟩
            rw [hBB, hw2] at hx5
            rw [hw2] at HK2
            rw [hBB, hw2]
            obtain ⟨zl, z0, z1, z2, z3, zf⟩ := CELLS.out _ HK2.out
            have u0 := nd_cell hx5 0
            have u1 := nd_cell hx5 1
            have u2 := nd_cell hx5 2
            have u3 := nd_cell hx5 3
            have ul := lt_of_heap hx5
            clear hx5 hb6 hBB hw2 hb hcall hcell
            go_wp2_with fail
            generalize hwz : (((World.setCell _ _ _).setCell _ _).setCell _ _).setCell _ _ = wz
            obtain ⟨y0, y1, y2, y3, hB⟩ := FIN.out _ _ _ _ _ _ HK2.out hwz
            refine bodyPost_ret (v := .tuple #[colV ⟨nm, kd, mu, tg⟩, _, _]) (by simp [results, Tryz.results45, go_sem, y0, y1, y2, y3, colV]; first | rfl | exact ⟨rfl, rfl⟩) rfl ?_
            exact ⟨rfl, hB⟩
end Go.Proofs.YtmfkkpogmmoflaaGreat
namespace Go.Proofs.YtmfkkpogmmoflaaGreat
open Go Go.RowKit Go.Proofs

theorem KS.drew {W w : World} (h : KS W w) : KS W w.drew := h.on (below_drew w)
theorem colsAt_none {ts : List T} {t : ByteArray} (h : findT ts t = none) : colsAt ts t = [] := by unfold colsAt; rw [h]; rfl
theorem colsAt_some {ts : List T} {t : ByteArray} {u : T} (h : findT ts t = some u) : colsAt ts t = u.cols := by unfold colsAt; rw [h]; rfl
theorem rcolOf_is {t : T} {nm key : ByteArray} {cv dv : Value} {x : ByteArray} {W : World} {z : Int} (h : RdT W cv dv t) (hn : t.nm = nm) (hk : t.key = key) (hz : ixC t.cols x = z) : Calls Tryz.prog 41 #[.agg #[.string nm, cv, .string key, dv], .string x] W fun e w' => e = .returned (.int .i64 z) ∧ Below W.heap.size W w' := by
  subst hn hk hz
  exact rcolOf_any h
set_option maxRecDepth 100000 in
set_option maxHeartbeats 8000000 in
theorem refCol_any {ts : List T} {pv v : Value} {tb : ByteArray} {p : List ByteArray} {W : World} (h : RdTs W pv ts) (hp : RdS W v p) : Calls Tryz.prog 25 #[pv, .string tb, v] W fun e w' => e = .returned (.tuple #[colV (pcolL ts tb p).1, .string (pcolL ts tb p).2.1, .int .i64 (pcolL ts tb p).2.2]) ∧ Below W.heap.size W w' := by
  obtain ⟨q, cap, rfl, hc, hm⟩ := hp.slice
  obtain ⟨pt, capt, rfl, hct, hmt⟩ := h.slice
  obtain ⟨n, hn⟩ : ∃ n, p.length = n := ⟨_, rfl⟩
  obtain ⟨N, hNt⟩ : ∃ n, ts.length = n := ⟨_, rfl⟩
  obtain ⟨S, hS⟩ : ∃ S, W.heap.size = S := ⟨_, rfl⟩
  unfold maxLen at hm hmt
  rw [hn] at hc hp ⊢
  rw [hNt] at hct h ⊢
  have HP := Lib.hid (And.intro h hp)
  have HN := Lib.hid (And.intro hn hNt)
  have HS := Lib.hid hS
  have K0 := KS.start W
  obtain ⟨w0, hw0⟩ : ∃ w0, W.alloc (.cells #[.string e0, .int .i64 0, .bool false, .string e0] 54) = w0 := ⟨_, rfl⟩
  have HW := Lib.hid hw0
  rw [hw0] at K0
  obtain ⟨r, hr⟩ : ∃ r, pcolL ts tb p = r := ⟨_, rfl⟩
  rw [hr]
  have FIN : Hid (∀ (w wz : World) (a b c d : Value), KS W w → (((w.setCell ⟨S, 0, none⟩ a).setCell ⟨S, 1, none⟩ b).setCell ⟨S, 2, none⟩ c).setCell ⟨S, 3, none⟩ d = wz →
      wz.cell? ⟨S, 0, none⟩ = some a ∧ wz.cell? ⟨S, 1, none⟩ = some b ∧ wz.cell? ⟨S, 2, none⟩ = some c ∧ wz.cell? ⟨S, 3, none⟩ = some d ∧ Below W.heap.size W wz) := Lib.hid (fun w wz a b c d hk e => by
    subst e
    have hz := hk.2
    rw [hS] at hz
    have h4 := set4 hz a b c d
    exact ⟨nd_cell h4 0, nd_cell h4 1, nd_cell h4 2, nd_cell h4 3, below_set4 hk.1 (Nat.le_of_eq hS) _ _ _ _⟩)
  have CELLS : Hid (∀ w, KS W w → S < w.heap.size ∧ w.cell? ⟨S, 0, none⟩ = some (.string e0) ∧ w.cell? ⟨S, 1, none⟩ = some (.int .i64 0) ∧ w.cell? ⟨S, 2, none⟩ = some (.bool false) ∧ w.cell? ⟨S, 3, none⟩ = some (.string e0) ∧ ∀ i, w.frozen? ⟨S, i, none⟩ = false) := Lib.hid (fun w hk => by
    have hz := hk.2
    rw [hS] at hz
    exact ⟨lt_of_heap hz, nd_cell hz 0, nd_cell hz 1, nd_cell hz 2, nd_cell hz 3, fun i => frozen_of_row w S i _ _ hz⟩)
  have HK := Lib.hid K0
  have HR := Lib.hid hr
  clear h hp hw0 hS K0 hr hn hNt
  go_enter Tryz.func25, Tryz.ntmps25
  go_upto_region 1 with fail
  rw [HW.out, HS.out]
  by_cases h0 : n = 0
  · subst h0
    obtain ⟨zl, z0, z1, z2, z3, zf⟩ := CELLS.out _ HK.out
    have e : r = (zeroC, e0, 5) := by rw [← HR.out]; unfold pcolL; rw [if_pos (by rw [HN.out.1]; omega)]
    subst e
    go_wp2_with fail
    generalize hwz : (((World.setCell _ _ _).setCell _ _).setCell _ _).setCell _ _ = wz
    obtain ⟨y0, y1, y2, y3, hB⟩ := FIN.out _ _ _ _ _ _ HK.out hwz
    refine bodyPost_ret (v := .tuple #[colV zeroC, _, _]) (by simp [results, Tryz.results25, go_sem, y0, y1, y2, y3, colV, zeroC]; first | rfl | exact ⟨rfl, rfl⟩) rfl ?_
    exact ⟨rfl, hB⟩
  · by_cases h4 : 4 < n
    · obtain ⟨zl, z0, z1, z2, z3, zf⟩ := CELLS.out _ HK.out
      have e : r = (zeroC, e0, 5) := by rw [← HR.out]; unfold pcolL; rw [if_pos (by rw [HN.out.1]; omega)]
      subst e
      go_wp2_with fail
      generalize hwz : (((World.setCell _ _ _).setCell _ _).setCell _ _).setCell _ _ = wz
      obtain ⟨y0, y1, y2, y3, hB⟩ := FIN.out _ _ _ _ _ _ HK.out hwz
      refine bodyPost_ret (v := .tuple #[colV zeroC, _, _]) (by simp [results, Tryz.results25, go_sem, y0, y1, y2, y3, colV, zeroC]; first | rfl | exact ⟨rfl, rfl⟩) rfl ?_
      exact ⟨rfl, hB⟩
    · have HR0 : Hid (pcol ts tb (p.drop 0) = r) := Lib.hid (by
        rw [← HR.out]
        unfold pcolL
        rw [if_neg (by rw [HN.out.1]; omega)]; rfl)
      clear HR
      obtain ⟨k, hk⟩ : ∃ k, n = k + 1 := ⟨n - 1, by omega⟩
      subst hk
      have hb1 : decide (((k : Int) + 1) < 1) = false := decide_eq_false (by omega)
      have hb2 : decide (4 < ((k : Int) + 1)) = false := decide_eq_false (by omega)
      go_upto_region 3 with fail
      go_wp2_with fail
      go_loopg [1, 9] (k + 1) (fun gh tv jv w => ∃ (j : Nat) (t : ByteArray), jv = .int .i64 (j : Int) ∧ tv = .string t ∧ j ≤ k ∧ k + 1 ≤ j + gh ∧ pcol ts t (p.drop j) = r ∧ KS W w)
      case atStart => exact ⟨0, tb, rfl, rfl, Nat.zero_le _, by omega, HR0.out, HK.out⟩
      case round =>
        obtain ⟨j, t, rfl, rfl, hj, hg, hr, hk⟩ := hrel
        clear HR0
        have hjl : j < p.length := by rw [HN.out.1]; omega
        have HK1 := Lib.hid hk
        obtain ⟨b1, o1, rfl, hb1', c1⟩ := (HP.out.2.later hk.1).word hjl
        have HX : Hid (∀ w, KS W w → w.cell? ⟨b1, o1 + j, none⟩ = some (.string p[j])) := Lib.hid (fun w hk => (RdS.wordAt (HP.out.2.later hk.1) hjl).2)
        rw [pcol_at ts t p hjl] at hr
        obtain ⟨x, hx⟩ : ∃ x, p[j] = x := ⟨_, rfl⟩
        rw [hx] at hr HX
        rw [HN.out.1] at hr
        clear c1 hx
        rcases ixT_cases ts t with ⟨h1, _, h3⟩ | ⟨m, hml, h1, _, h3⟩
        · have hfind := rfind_any (x := t) (HP.out.1.later hk.1)
          rw [h1] at hfind
          rw [colsAt_none h3, if_neg (by simp [hasC])] at hr
          subst hr
          clear h1 h3 hk
          go_upto_region 7 with (go_at_call 24; (with_reducible refine hfind.mono ?_); rintro e w2 ⟨rfl, hw⟩; have hw := hw.symm; subst hw)
          obtain ⟨zl, z0, z1, z2, z3, zf⟩ := CELLS.out _ HK1.out
          go_wp2_with fail
          generalize hwz : (((World.setCell _ _ _).setCell _ _).setCell _ _).setCell _ _ = wz
          obtain ⟨y0, y1, y2, y3, hB⟩ := FIN.out _ _ _ _ _ _ HK1.out hwz
          refine bodyPost_ret (v := .tuple #[colV zeroC, _, _]) (by simp [results, Tryz.results25, go_sem, y0, y1, y2, y3, colV, zeroC]; first | rfl | exact ⟨rfl, rfl⟩) rfl ?_
          exact ⟨rfl, hB⟩
        · have hfind := rfind_any (x := t) (HP.out.1.later hk.1)
          rw [h1] at hfind
          rw [colsAt_some h3] at hr
          obtain ⟨bt, ot, cv, dv, rfl, _, g0, g1, g2, g3, hT⟩ := RdTs.tab HP.out.1 hml
          obtain ⟨u, hu⟩ : ∃ u, ts[m] = u := ⟨_, rfl⟩
          rw [hu] at hr g0 g2 hT
          obtain ⟨pc, kc, hcv, hcc, hcm⟩ := hT.1.slice
          obtain ⟨pd, kd, hdv, _, _⟩ := hT.2.slice
          obtain ⟨nc, hnc⟩ : ∃ m, u.cols.length = m := ⟨_, rfl⟩
          obtain ⟨nd, hnd⟩ : ∃ m, u.deps.length = m := ⟨_, rfl⟩
          rw [hnc] at hcv hcc
          rw [hnd] at hdv
          subst hcv hdv
          obtain ⟨nm, hnm⟩ : ∃ m, u.nm = m := ⟨_, rfl⟩
          obtain ⟨key, hkey⟩ : ∃ m, u.key = m := ⟨_, rfl⟩
          rw [hnm] at g0
          rw [hkey] at g2
          obtain ⟨z, hz⟩ : ∃ z, ixC u.cols x = z := ⟨_, rfl⟩
          have HCALL : Hid (∀ w, KS W w → Calls Tryz.prog 41 #[.agg #[.string nm, .slice pc nc kc, .string key, .slice pd nd kd], .string x] w fun e w' => e = .returned (.int .i64 z) ∧ Below w.heap.size w w') := Lib.hid (fun w hk => rcolOf_is (hT.later hk.1) hnm hkey hz)
          have HG : Hid (∀ w, KS W w → w.cell? ⟨bt, ot + m * 4, none⟩ = some (.string nm) ∧ w.cell? ⟨bt, ot + m * 4 + 1, none⟩ = some (.slice pc nc kc) ∧ w.cell? ⟨bt, ot + m * 4 + 2, none⟩ = some (.string key) ∧ w.cell? ⟨bt, ot + m * 4 + 3, none⟩ = some (.slice pd nd kd)) := Lib.hid (fun w hk => ⟨bel_cell hk.1 g0, bel_cell hk.1 g1, bel_cell hk.1 g2, bel_cell hk.1 g3⟩)
          have HT := Lib.hid (And.intro hT hnc)
          have hmN : m < N := by rw [← HN.out.2]; exact hml
          have hmN2 : (m : Int) < (N : Int) := by omega
          have hm0 : decide ((m : Int) < 0) = false := decide_eq_false (by omega)
          have hjk : (j : Int) < (k : Int) + 1 := by omega
          clear g0 g1 g2 g3 hT hu hnc hnd hnm hkey h1 h3 hk
          go_upto_region 8 with (go_at_call 24; (with_reducible refine hfind.mono ?_); rintro e w2 ⟨rfl, hw⟩; have hw := hw.symm; subst hw)
          refine Par.wp_region_par 10 [.slice (some ⟨bt, ot, none⟩) N capt, .int .i64 m, (Value.pointer (some ⟨bt, ot + m * 4, none⟩)), .agg #[.string nm, .slice pc nc kc, .string key, .slice pd nd kd], .slice (some ⟨b1, o1, none⟩) (k + 1) cap, .int .i64 j, (Value.pointer (some ⟨b1, o1 + j, none⟩)), .string x, .int .i64 z, .int .i64 z] (fun w => KS W w) ?A3 ?hm3 ?hB3 ?hA3 (HK1.out.drew) ?hop3 ?hT3
          case hm3 => kernel_rfl
          case hB3 => kernel_rfl
          case hA3 =>
            simp only [Par.putA, Par.dstAt, Act.put, List.getElem?_toArray, List.getElem?_cons_zero, List.getElem?_cons_succ, Option.bind_some, List.setIfInBounds_toArray, List.set_cons_zero, List.set_cons_succ, List.getD_cons_zero, List.getD_cons_succ]
            rfl
          case hop3 =>
            simp only [List.take_succ_cons, List.take_zero, Par.GiveAll, and_true]
            refine ⟨fun w' hR => ?_, fun w' hR => ?_, fun w' hR => ?_, fun w' hR => ?_, fun w' hR => ?_, fun w' hR => ?_, fun w' hR => ?_, fun w' hR => ?_, fun w' hR => ?_, fun w' hR => ?_⟩
            · have HR := Lib.hid hR
              clear hR
              simp only [Par.Gives]
              go_simp
              all_goals exact HR.out
            · have HR := Lib.hid hR
              clear hR
              simp only [Par.Gives]
              go_simp
              all_goals exact HR.out
            · have HR := Lib.hid hR
              clear hR
              simp only [Par.Gives]
              go_simp
              all_goals exact HR.out
            · have HR := Lib.hid hR
              have k0 := (HG.out w' hR).1
              have k1 := (HG.out w' hR).2.1
              have k2 := (HG.out w' hR).2.2.1
              have k3 := (HG.out w' hR).2.2.2
              clear hR
              simp only [Par.Gives]
              go_simp
              all_goals exact HR.out
            · have HR := Lib.hid hR
              clear hR
              simp only [Par.Gives]
              go_simp
              all_goals exact HR.out
            · have HR := Lib.hid hR
              clear hR
              simp only [Par.Gives]
              go_simp
              all_goals exact HR.out
            · have HR := Lib.hid hR
              clear hR
              simp only [Par.Gives]
              go_simp
              all_goals exact HR.out
            · have HR := Lib.hid hR
              have k0 := HX.out w' hR
              clear hR
              simp only [Par.Gives]
              go_simp
              all_goals exact HR.out
            · have HR := Lib.hid hR
              clear hR
              simp only [Par.Gives]
              go_simp
              exact (HCALL.out _ HR.out).mono (fun e w'' ⟨he, hb⟩ => ⟨he, HR.out.on hb⟩)
            · have HR := Lib.hid hR
              clear hR
              simp only [Par.Gives]
              go_simp
              all_goals exact HR.out
          case hT3 =>
            intro w' hR
            simp only [List.drop_succ_cons, List.drop_nil]
            have HK2 := Lib.hid hR
            clear hR
            rcases ixC_cases u.cols x with ⟨h5, h6, _⟩ | ⟨c, hcl, h5, h6, h7⟩
            · rw [hz] at h5
              subst h5
              rw [h6, if_neg (by decide)] at hr
              subst hr
              obtain ⟨zl, z0, z1, z2, z3, zf⟩ := CELLS.out _ HK2.out
              clear h6 hz
              go_wp2_with fail
              generalize hwz : (((World.setCell _ _ _).setCell _ _).setCell _ _).setCell _ _ = wz
              obtain ⟨y0, y1, y2, y3, hB⟩ := FIN.out _ _ _ _ _ _ HK2.out hwz
              refine bodyPost_ret (v := .tuple #[colV zeroC, _, _]) (by simp [results, Tryz.results25, go_sem, y0, y1, y2, y3, colV, zeroC]; first | rfl | exact ⟨rfl, rfl⟩) rfl ?_
              exact ⟨rfl, hB⟩
            · rw [hz] at h5
              subst h5
              rw [h6, if_pos rfl, h7] at hr
              obtain ⟨bc, oc, rfl, hbc, -, -, -, -⟩ := RdC.col HT.out.1.1 hcl
              have hcN : c < nc := by rw [← HT.out.2]; exact hcl
              have hcN2 : (c : Int) < (nc : Int) := by omega
              have hc0 : decide ((c : Int) < 0) = false := decide_eq_false (by omega)
              obtain ⟨l, hlc⟩ : ∃ l, u.cols[c] = l := ⟨_, rfl⟩
              have e : orC (some u.cols[c]) = l := hlc
              rw [e] at hr
              have HL : Hid (∀ w, KS W w → bc < w.heap.size ∧ w.cell? ⟨bc, oc + c * 4, none⟩ = some (.string l.nm) ∧ w.cell? ⟨bc, oc + c * 4 + 1, none⟩ = some (.int .i64 l.kd) ∧ w.cell? ⟨bc, oc + c * 4 + 2, none⟩ = some (.bool l.mu) ∧ w.cell? ⟨bc, oc + c * 4 + 3, none⟩ = some (.string l.tgt)) := Lib.hid (fun w hk => by
                obtain ⟨bb, oo, e1, hb2, d0, d1, d2, d3⟩ := RdC.col (HT.out.1.1.later hk.1) hcl
                rw [hlc] at d0 d1 d2 d3
                cases e1
                exact ⟨hb2, d0, d1, d2, d3⟩)
              obtain ⟨zl, z0, z1, z2, z3, zf⟩ := CELLS.out _ HK2.out
              obtain ⟨i0, i1, i2, i3⟩ := HG.out _ HK2.out
              obtain ⟨lb, l0, l1, l2, l3⟩ := HL.out _ HK2.out
              clear hz h6 h7 hlc e hcl hbc
              by_cases hlt : j < k
              · rw [if_neg (show ¬ j + 1 = k + 1 by omega)] at hr
                have hne : ((j : Int) == (k : Int)) = false := by rw [beq_eq_false_iff_ne]; omega
                cases he : eqS l.tgt e0
                · rw [he, if_neg (by decide)] at hr
                  have HRR := Lib.hid hr
                  have hx2 : l.tgt.toList.isEmpty = false := by rw [eqS_e0]; exact he
                  clear hr he
                  go_wp2_with fail
                  go_roundg (k - j)
                  case measure => omega
                  case rel => exact ⟨j + 1, l.tgt, by go_num, rfl, by omega, by omega, HRR.out, HK2.out⟩
                · rw [he, if_pos rfl] at hr
                  subst hr
                  have hx2 : l.tgt.toList.isEmpty = true := by rw [eqS_e0]; exact he
                  clear he
                  go_wp2_with fail
                  generalize hwz : (((World.setCell _ _ _).setCell _ _).setCell _ _).setCell _ _ = wz
                  obtain ⟨y0, y1, y2, y3, hB⟩ := FIN.out _ _ _ _ _ _ HK2.out hwz
                  refine bodyPost_ret (v := .tuple #[colV zeroC, _, _]) (by simp [results, Tryz.results25, go_sem, y0, y1, y2, y3, colV, zeroC]; first | rfl | exact ⟨rfl, rfl⟩) rfl ?_
                  exact ⟨rfl, hB⟩
              · obtain rfl : j = k := by omega
                rw [if_pos rfl] at hr
                subst hr
                go_wp2_with fail
                generalize hwz : (((World.setCell _ _ _).setCell _ _).setCell _ _).setCell _ _ = wz
                obtain ⟨y0, y1, y2, y3, hB⟩ := FIN.out _ _ _ _ _ _ HK2.out hwz
                refine bodyPost_ret (v := .tuple #[colV l, _, _]) (by simp [results, Tryz.results25, go_sem, y0, y1, y2, y3, colV]; first | rfl | exact ⟨rfl, rfl⟩) rfl ?_
                exact ⟨rfl, hB⟩
end Go.Proofs.YtmfkkpogmmoflaaGreat
