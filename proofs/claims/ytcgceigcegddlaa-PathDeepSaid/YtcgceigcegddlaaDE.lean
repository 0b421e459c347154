/- namedKey, namedLeft, namedDeps, typed, fits. -/
import Derived.Test.YtcgceigcegddlaaDD
namespace Go.Proofs.Ytcgceigcegddlaa
open Go Go.RowKit Go.Proofs

theorem eqS_e0 (x : ByteArray) : x.toList.isEmpty = eqS x e0 := by
  rw [ByteArray.toList_eq]
  unfold eqS
  cases x.data.toList <;> rfl
def tabV (t : T) (cv dv : Value) : Value := .agg #[.string t.nm, cv, .string t.key, dv]
/-- A boxed table. -/
abbrev boxT (nm : ByteArray) (cv : Value) (key : ByteArray) (dv : Value) : Obj := .cells #[.string nm, cv, .string key, dv] 53

set_option maxRecDepth 100000 in
set_option maxHeartbeats 1000000 in
theorem namedKey_any {t : T} {cv dv : Value} {W : World} (h : RdT W cv dv t) : Calls Try.prog 59 #[.agg #[.string t.nm, cv, .string t.key, dv]] W fun e w' => e = .returned (.bool (keyGood t)) ∧ Below W.heap.size W w' := by
  have hB := below_alloc W (boxT t.nm cv t.key dv)
  have hc := fun (b : Bool) (hb : hasC t.cols t.key = b) => has_is (h.1.later hB) hb
  obtain ⟨p, cap, rfl, _, _⟩ := h.1.slice
  generalize t.cols.length = n at *
  cases hk : eqS t.key e0
  · have he : t.key.toList.isEmpty = false := by rw [eqS_e0]; exact hk
    cases hh : hasC t.cols t.key
    · have HG : Hid (keyGood t = false) := Lib.hid (by unfold keyGood; rw [hk, hh]; rfl)
      have hc := hc _ hh
      clear h hk hh
      go_enter Try.func59, Try.ntmps59
      go_wp2_with (go_at_call 82; (with_reducible refine hc.mono ?_); rintro e w1 ⟨rfl, hb⟩)
      go_ret
      exact ⟨ret_bool HG.out.symm, below_on hB hb⟩
    · have HG : Hid (keyGood t = true) := Lib.hid (by unfold keyGood; rw [hk, hh]; rfl)
      have hc := hc _ hh
      clear h hk hh
      go_enter Try.func59, Try.ntmps59
      go_wp2_with (go_at_call 82; (with_reducible refine hc.mono ?_); rintro e w1 ⟨rfl, hb⟩)
      go_ret
      exact ⟨ret_bool HG.out.symm, below_on hB hb⟩
  · have he : t.key.toList.isEmpty = true := by rw [eqS_e0]; exact hk
    have HG : Hid (keyGood t = true) := Lib.hid (by unfold keyGood; rw [hk]; rfl)
    clear h hk
    go_enter Try.func59, Try.ntmps59
    go_wp2_with fail
    go_ret
    exact ⟨ret_bool HG.out.symm, hB⟩

theorem leftAt_at {l : List C} {left : List ByteArray} {j : Nat} (hj : j < left.length) : leftAt l left j = (hasC l left[j] && !hasS (left.take j) left[j]) := by
  unfold leftAt; rw [List.getElem?_eq_getElem hj]
theorem contains_is {l : List ByteArray} {v : Value} {x : ByteArray} {W : World} {b : Bool} (h : RdS W v l) (hb : hasS l x = b) : Calls Try.prog 84 #[v, .string x] W fun e w' => e = .returned (.bool b) ∧ w' = W := hb ▸ contains_any h

set_option maxRecDepth 100000 in
set_option maxHeartbeats 1000000 in
theorem namedLeft_any {l : List C} {left : List ByteArray} {cv lv : Value} {W : World} (h : RdC W cv l) (hs : RdS W lv left) : Calls Try.prog 83 #[cv, lv] W fun e w' => e = .returned (.bool (leftGood l left)) ∧ Below W.heap.size W w' := by
  obtain ⟨pc, cc, rfl, hc, hm⟩ := h.slice
  obtain ⟨p, cap, rfl, hc2, hm2⟩ := hs.slice
  obtain ⟨n, hn⟩ : ∃ n, left.length = n := ⟨_, rfl⟩
  obtain ⟨nc, hnc⟩ : ∃ n, l.length = n := ⟨_, rfl⟩
  unfold maxLen at hm2
  rw [hn] at hc2 hs ⊢
  rw [hnc] at h ⊢
  have HR := Lib.hid (And.intro h hs)
  have HN := Lib.hid hn
  clear h hs hn hnc hc hm
  by_cases h0 : n = 0
  · subst h0
    go_enter Try.func83, Try.ntmps83
    go_wp2_with fail
    go_ret
    exact ⟨ret_bool (by unfold leftGood; rw [HN.out]; rfl), Below.refl _ _⟩
  by_cases h3 : 3 < n
  · have hz : ((n : Int) == 0) = false := beq_eq_false_iff_ne.2 (by omega)
    go_enter Try.func83, Try.ntmps83
    go_wp2_with fail
    go_ret
    exact ⟨ret_bool (by unfold leftGood; rw [HN.out, decide_eq_false (show ¬ n ≤ 3 by omega)]; simp), Below.refl _ _⟩
  have hz : ((n : Int) == 0) = false := beq_eq_false_iff_ne.2 (by omega)
  have HL : Hid (leftGood l left = (List.range n).all (leftAt l left)) := Lib.hid (by unfold leftGood; rw [HN.out, decide_eq_true (show n ≤ 3 by omega), decide_eq_true (show 1 ≤ n by omega)]; rfl)
  go_enter Try.func83, Try.ntmps83
  go_wp2_with fail
  clear hz
  go_loopg [5, 6, 17] (n + 1) (fun gh _ _ jv w => ∃ (j : Nat), jv = .int .i64 (j : Int) ∧ j ≤ n ∧ n + 1 ≤ j + gh ∧ (∀ i, i < j → leftAt l left i = true) ∧ Below W.heap.size W w)
  case atStart => exact ⟨0, rfl, Nat.zero_le _, by omega, fun i hi => by omega, Below.refl _ _⟩
  case round =>
    obtain ⟨j, rfl, hj, hg, hno, hB⟩ := hrel
    have HI := Lib.hid (And.intro hno hB)
    clear hno
    by_cases hlt : j < n
    · have hjl : j < left.length := by rw [HN.out]; exact hlt
      have hsr := HR.out.2.later hB
      obtain ⟨b, off, rfl, hb, c0⟩ := RdS.word hsr hjl
      have hst : RdS wr (.slice (some ⟨b, off, none⟩) j cap) (left.take j) := RdS.take hsr (by omega)
      have hcr := HR.out.1.later hB
      obtain ⟨c, hcj⟩ : ∃ c, left[j] = c := ⟨_, rfl⟩
      have hG := leftAt_at (l := l) hjl
      rw [hcj] at c0 hG
      have hjc : (j : Int) ≤ (cap : Int) := by omega
      have hjn : cap ≠ j := by omega
      clear hcj hB
      cases hh : hasC l c
      · have HG : Hid (leftAt l left j = false) := Lib.hid (by rw [hG, hh]; rfl)
        have hca := has_is hcr hh
        clear hG hh hcr hsr hst
        go_wp2_with (go_at_call 82; (with_reducible refine hca.mono ?_); rintro e w1 ⟨rfl, hb1⟩)
        go_ret
        exact ⟨ret_bool (by rw [HL.out]; exact (range_no j hlt HG.out).symm), below_on HI.out.2 hb1⟩
      · cases hh2 : hasS (left.take j) c
        · have HG : Hid (leftAt l left j = true) := Lib.hid (by rw [hG, hh, hh2]; rfl)
          have hca := has_is hcr hh
          have hcb : ∀ {w : World}, Below wr.heap.size wr w → _ := fun {w} hb => contains_is (W := w) (hst.later hb) hh2
          clear hG hh hcr hsr hst hh2
          go_wp2_with (first
            | (go_at_call 82; (with_reducible refine hca.mono ?_); rintro e w1 ⟨rfl, hb1⟩)
            | (go_at_call 84; (with_reducible refine (hcb hb1).mono ?_); rintro e w1 ⟨rfl, rfl⟩))
          go_roundg (n - j)
          case measure => omega
          case rel => exact ⟨j + 1, by go_num, by omega, by omega, fun i hi => by rcases (by omega : i < j ∨ i = j) with h | rfl; exact HI.out.1 i h; exact HG.out, below_on HI.out.2 hb1⟩
        · have HG : Hid (leftAt l left j = false) := Lib.hid (by rw [hG, hh, hh2]; rfl)
          have hca := has_is hcr hh
          have hcb : ∀ {w : World}, Below wr.heap.size wr w → _ := fun {w} hb => contains_is (W := w) (hst.later hb) hh2
          clear hG hh hcr hsr hst hh2
          go_wp2_with (first
            | (go_at_call 82; (with_reducible refine hca.mono ?_); rintro e w1 ⟨rfl, hb1⟩)
            | (go_at_call 84; (with_reducible refine (hcb hb1).mono ?_); rintro e w1 ⟨rfl, rfl⟩))
          go_ret
          exact ⟨ret_bool (by rw [HL.out]; exact (range_no j hlt HG.out).symm), below_on HI.out.2 hb1⟩
    · go_wp2_with fail
      go_ret
      exact ⟨ret_bool (by rw [HL.out]; exact (range_yes (fun i hi => HI.out.1 i (by omega))).symm), HI.out.2⟩

theorem kindAt_at {l : List C} {j : Nat} (hj : j < l.length) : kindAt l j = decide (l[j].kd = 1 ∨ l[j].kd = 2) := by
  unfold kindAt; rw [List.getElem?_eq_getElem hj]
set_option maxRecDepth 100000 in
set_option maxHeartbeats 1000000 in
theorem typed_any {l : List C} {v : Value} {W : World} (h : RdC W v l) : Calls Try.prog 61 #[v] W fun e w' => e = .returned (.bool (kindsGood l)) ∧ Below W.heap.size W w' := by
  obtain ⟨p, cap, rfl, hc, hm⟩ := h.slice
  obtain ⟨n, hn⟩ : ∃ n, l.length = n := ⟨_, rfl⟩
  unfold maxLen at hm
  rw [hn] at hc ⊢
  rw [hn] at h
  have HR := Lib.hid h
  have HN := Lib.hid hn
  clear h hn
  go_enter Try.func61, Try.ntmps61
  go_wp2_with fail
  go_loopg [7] (n + 1) (fun gh jv w => ∃ (j : Nat), jv = .int .i64 (j : Int) ∧ j ≤ n ∧ n + 1 ≤ j + gh ∧ (∀ i, i < j → kindAt l i = true) ∧ Below W.heap.size W w)
  case atStart => exact ⟨0, rfl, Nat.zero_le _, by omega, fun i hi => by omega, Below.refl _ _⟩
  case round =>
    obtain ⟨j, rfl, hj, hg, hno, hB⟩ := hrel
    have HI := Lib.hid (And.intro hno hB)
    clear hno
    by_cases hlt : j < n
    · have hjl : j < l.length := by rw [HN.out]; exact hlt
      obtain ⟨b, off, rfl, hb, c0, c1, c2, c3⟩ := RdC.col (HR.out.later hB) hjl
      obtain ⟨c, hcj⟩ : ∃ c, l[j] = c := ⟨_, rfl⟩
      rw [hcj] at c0 c1 c2 c3
      have hG := kindAt_at hjl
      rw [hcj] at hG
      have HG := Lib.hid hG
      clear hcj hB hG
      by_cases h1 : c.kd = 1
      · have e1 : (c.kd != 1) = false := by simp [h1]
        have H1 := Lib.hid h1
        clear h1
        go_wp2_with fail
        go_roundg (n - j)
        case measure => omega
        case rel => exact ⟨j + 1, by go_num, by omega, by omega, fun i hi => by rcases (by omega : i < j ∨ i = j) with h | rfl; exact HI.out.1 i h; rw [HG.out, decide_eq_true (.inl H1.out)], HI.out.2.alloc HI.out.2.size _⟩
      · have e1 : (c.kd != 1) = true := by simp [h1]
        by_cases h2 : c.kd = 2
        · have e2 : (c.kd != 2) = false := by simp [h2]
          have H2 := Lib.hid h2
          clear h1 h2
          go_wp2_with fail
          go_roundg (n - j)
          case measure => omega
          case rel => exact ⟨j + 1, by go_num, by omega, by omega, fun i hi => by rcases (by omega : i < j ∨ i = j) with h | rfl; exact HI.out.1 i h; rw [HG.out, decide_eq_true (.inr H2.out)], HI.out.2.alloc HI.out.2.size _⟩
        · have e2 : (c.kd != 2) = true := by simp [h2]
          have H2 : Hid (¬ (c.kd = 1 ∨ c.kd = 2)) := Lib.hid (fun h => h.elim h1 h2)
          clear h1 h2
          go_wp2_with fail
          go_ret
          exact ⟨ret_bool (range_no j hjl (by rw [HG.out, decide_eq_false H2.out])).symm, HI.out.2.alloc HI.out.2.size _⟩
    · go_wp2_with fail
      go_ret
      exact ⟨ret_bool (range_yes (fun i hi => HI.out.1 i (by have := HN.out; omega))).symm, HI.out.2⟩
end Go.Proofs.Ytcgceigcegddlaa
