/- Rows of ways that can be read: In, slices.BinarySearchFunc. -/
import Derived.Test.YtmfkkpogmmoflaaGreatPG
import Derived.Test.YtmfkkpogmmoflaaGreatPB
import Derived.Test.YtmfkkpogmmoflaaGreatVA
namespace Go.Proofs.YtmfkkpogmmoflaaGreat
open Go Go.RowKit Go.Proofs

/-- A row of ways that can be read. -/
structure RdW (W : World) (v : Value) (ps : List (List ByteArray)) (vs : List Value) : Prop where
  sl : ∃ p cap, v = .slice p ps.length cap ∧ ps.length ≤ cap ∧ cap ≤ maxLen
  n : vs.length = ps.length
  cell : ∀ j (h : j < vs.length), ∃ g o n c, v = .slice (some ⟨g, o, none⟩) n c ∧ g < W.heap.size ∧ W.cell? ⟨g, o + j, none⟩ = some vs[j]
  each : ∀ j (h : j < vs.length) (h' : j < ps.length), Wd W vs[j] ps[j]
theorem PR.rdw {base : Nat} {v : Value} {vs : List Value} {ps : List (List ByteArray)} {w : World} (h : PR base v vs ps w) : RdW w v ps vs := by
  refine ⟨h.row.isslice, h.n, fun j hj => ?_, h.each⟩
  obtain ⟨g, c, rfl, _, _⟩ := h.row.slice (by have := h.n; omega)
  exact ⟨g, 0, _, c, rfl, (h.row.lt g rfl).2, by rw [Nat.zero_add]; exact h.row.cell (List.getElem?_eq_getElem hj)⟩
theorem RdW.later {W W' : World} {v : Value} {ps : List (List ByteArray)} {vs : List Value} (h : RdW W v ps vs) (hb : Below W.heap.size W W') : RdW W' v ps vs :=
  ⟨h.sl, h.n, fun j hj => by
    obtain ⟨g, o, n, c, h1, h2, h3⟩ := h.cell j hj
    exact ⟨g, o, n, c, h1, Nat.lt_of_lt_of_le h2 hb.size, (World.cell?_of_block (w := W) (hb.block g h2)).trans h3⟩, fun j a b => (h.each j a b).later hb⟩
set_option maxRecDepth 100000 in
set_option maxHeartbeats 2000000 in
theorem in_any {ps : List (List ByteArray)} {vs : List Value} {v u : Value} {p : List ByteArray} {W : World} (h : RdW W v ps vs) (hu : Wd W u p) (hl : ps.length ≤ 1000000) : Calls Tryz.prog 15 #[v, u] W fun e w' => e = .returned (.bool (inP ps p)) ∧ Below W.heap.size W w' := by
  obtain ⟨q, cap, rfl, hc, hm⟩ := h.sl
  obtain ⟨qu, cu, rfl, _, _⟩ := hu.slice
  obtain ⟨n, hn⟩ : ∃ n, ps.length = n := ⟨_, rfl⟩
  obtain ⟨mu, hmu⟩ : ∃ n, p.length = n := ⟨_, rfl⟩
  unfold maxLen at hm
  rw [hn] at hc h hl ⊢
  rw [hmu] at hu ⊢
  have HR := Lib.hid (And.intro h hu)
  have HN := Lib.hid hn
  obtain ⟨r, hr⟩ : ∃ r, inP ps p = r := ⟨_, rfl⟩
  rw [hr]
  have HD := Lib.hid hr
  clear h hu hn hmu hr
  go_enter Tryz.func15, Tryz.ntmps15
  go_wp2_with fail
  go_loopg [5] (n + 1) (fun gh jv w => ∃ (j : Nat), jv = .int .i64 (j : Int) ∧ j ≤ n ∧ n + 1 ≤ j + gh ∧ (∀ i (h : i < ps.length), i < j → p ≠ ps[i]) ∧ Below W.heap.size W w)
  case atStart => exact ⟨0, rfl, Nat.zero_le _, by omega, fun i _ hi => by omega, Below.refl _ _⟩
  case round =>
    obtain ⟨j, rfl, hj, hg, hno, hB⟩ := hrel
    have HI := Lib.hid (And.intro hno hB)
    clear hno
    by_cases hlt : j < n
    · have hjl : j < ps.length := by rw [HN.out]; exact hlt
      have hjv : j < vs.length := by rw [HR.out.1.n]; exact hjl
      obtain ⟨g, o, n', c', e1, hgl, hcell⟩ := (HR.out.1.later hB).cell j hjv
      obtain ⟨rfl, -, -⟩ := Value.slice.inj e1
      have hw := (HR.out.1.later hB).each j hjv hjl
      obtain ⟨x, hx⟩ : ∃ x, vs[j] = x := ⟨_, rfl⟩
      rw [hx] at hcell hw
      obtain ⟨px, cx, rfl, -, -⟩ := hw.slice
      have hcall := reqP_any hw.rd (HR.out.2.later hB).rd
      obtain ⟨z, hz⟩ : ∃ z, decide (cmpP ps[j] p = 0) = z := ⟨_, rfl⟩
      rw [hz] at hcall
      obtain ⟨mx, hmx⟩ : ∃ m, ps[j].length = m := ⟨_, rfl⟩
      rw [hmx] at hcell hcall
      have HZ := Lib.hid (And.intro hz hjl)
      clear e1 hw hx hmx hz hjv hB
      cases z
      · go_wp2_with (go_at_call 29; (with_reducible refine hcall.mono ?_); rintro e w1 ⟨rfl, hb⟩; have HB := Lib.hid (below_on HI.out.2 hb); clear hb hcall)
        go_roundg (n - j)
        case measure => omega
        case rel =>
          refine ⟨j + 1, by go_num, by omega, by omega, fun i hi hij => ?_, HB.out⟩
          by_cases e : i = j
          · subst e
            have := of_decide_eq_false HZ.out.1
            intro e2
            exact this (cmpP_zero.2 e2.symm)
          · exact HI.out.1 i hi (by omega)
      · have hr : r = true := by
          rw [← HD.out, inP_iff]
          have := cmpP_zero.1 (of_decide_eq_true HZ.out.1)
          rw [← this]
          exact List.getElem_mem _
        subst hr
        go_wp2_with (go_at_call 29; (with_reducible refine hcall.mono ?_); rintro e w1 ⟨rfl, hb⟩; have HB := Lib.hid (below_on HI.out.2 hb); clear hb hcall)
        go_ret
        exact ⟨rfl, HB.out⟩
    · obtain rfl : j = n := by omega
      have hr : r = false := by
        rw [← HD.out, inP_no]
        intro hm
        obtain ⟨i, hi, e⟩ := List.getElem_of_mem hm
        exact HI.out.1 i hi (by rw [HN.out] at hi; exact hi) e.symm
      subst hr
      go_wp2_with fail
      go_ret
      exact ⟨rfl, hB⟩

/-! ### slices.BinarySearchFunc -/
/-- What stands ahead of the place, and what does not. -/
def Side (ps : List (List ByteArray)) (p : List ByteArray) (lo hi : Nat) : Prop := ∀ t (h : t < ps.length), (t < lo → cmpP ps[t] p < 0) ∧ (hi ≤ t → 0 ≤ cmpP ps[t] p)
theorem sorted_at {ps : List (List ByteArray)} (hs : ps.Pairwise (fun a b => cmpP a b < 0)) {i j : Nat} (hij : i < j) (hj : j < ps.length) : cmpP (ps[i]'(by omega)) ps[j] < 0 :=
  List.pairwise_iff_getElem.1 hs i j (by omega) hj hij
theorem cmpP_lt_le {a b c : List ByteArray} (h : cmpP a b < 0) (k : cmpP b c ≤ 0) : cmpP a c < 0 := by
  have h1 := cmpP_trans (a := a) (b := b) (c := c) (by omega) k
  rcases cmpP_range a c with h2 | h2 | h2
  · omega
  · have := cmpP_zero.1 h2
    subst this
    have := cmpP_swap a b
    omega
  · omega
theorem cmpP_le_lt {a b c : List ByteArray} (h : cmpP a b ≤ 0) (k : cmpP b c < 0) : cmpP a c < 0 := by
  have h1 := cmpP_trans (a := a) (b := b) (c := c) h (by omega)
  rcases cmpP_range a c with h2 | h2 | h2
  · omega
  · have := cmpP_zero.1 h2
    subst this
    have := cmpP_swap a b
    omega
  · omega
theorem Side.left {ps : List (List ByteArray)} {p : List ByteArray} {lo hi m : Nat} (hs : ps.Pairwise (fun a b => cmpP a b < 0)) (h : Side ps p lo hi) (hm : m < ps.length) (hc : cmpP ps[m] p < 0) : Side ps p (m + 1) hi := fun t ht => ⟨fun h1 => by
  by_cases e : t = m
  · subst e; exact hc
  · exact cmpP_lt_le (sorted_at hs (show t < m by omega) hm) (by omega), (h t ht).2⟩
theorem Side.right {ps : List (List ByteArray)} {p : List ByteArray} {lo hi m : Nat} (hs : ps.Pairwise (fun a b => cmpP a b < 0)) (h : Side ps p lo hi) (hm : m < ps.length) (hc : ¬ cmpP ps[m] p < 0) : Side ps p lo m := fun t ht => ⟨(h t ht).1, fun h1 => by
  by_cases e : t = m
  · subst e; omega
  · have h2 := sorted_at hs (show m < t by omega) ht
    by_cases h3 : cmpP ps[t] p < 0
    · exact absurd (cmpP_lt_le h2 (by omega)) hc
    · omega⟩
theorem Side.in {ps : List (List ByteArray)} {p : List ByteArray} {i : Nat} (hs : ps.Pairwise (fun a b => cmpP a b < 0)) (h : Side ps p i i) : (∀ hi : i < ps.length, inP ps p = decide (cmpP ps[i] p = 0)) ∧ (ps.length ≤ i → inP ps p = false) := by
  have hm : ∀ t (ht : t < ps.length), ps[t] = p → t = i := fun t ht e => by
    have h0 : cmpP ps[t] p = 0 := cmpP_zero.2 e
    have h1 := h t ht
    rcases Nat.lt_trichotomy t i with h2 | h2 | h2
    · have := h1.1 h2; omega
    · exact h2
    · have hil : i < ps.length := by omega
      have h3 := sorted_at hs h2 ht
      have h4 := (h i hil).2 (Nat.le_refl _)
      rw [e] at h3
      omega
  refine ⟨fun hi => ?_, fun hi => ?_⟩
  · rw [Bool.eq_iff_iff, inP_iff, decide_eq_true_iff, cmpP_zero]
    constructor
    · intro hp
      obtain ⟨t, ht, e⟩ := List.getElem_of_mem hp
      have := hm t ht e
      subst this
      exact e
    · intro e
      rw [← e]
      exact List.getElem_mem _
  · rw [inP_no]
    intro hp
    obtain ⟨t, ht, e⟩ := List.getElem_of_mem hp
    have := hm t ht e
    omega
/-- Where a way stands, and whether it is there. -/
def FoundAt (ps : List (List ByteArray)) (p : List ByteArray) (W : World) (e : Ending) (w' : World) : Prop := ∃ i : Nat, e = .returned (.tuple #[.int .i64 i, .bool (inP ps p)]) ∧ i ≤ ps.length ∧ (inP ps p = true → ps[i]? = some p) ∧ Below W.heap.size W w'
set_option maxRecDepth 100000 in
set_option maxHeartbeats 4000000 in
theorem bs_any {ps : List (List ByteArray)} {vs : List Value} {v u : Value} {p : List ByteArray} {W : World} (h : RdW W v ps vs) (hu : Wd W u p) (hl : ps.length ≤ 1000000) (hs : ps.Pairwise (fun a b => cmpP a b < 0)) : Calls Tryz.prog 35 #[v, u, .func (.func 34) #[] #[]] W (FoundAt ps p W) := by
  obtain ⟨q, cap, rfl, hc, hm⟩ := h.sl
  obtain ⟨qu, cu, rfl, _, _⟩ := hu.slice
  obtain ⟨n, hn⟩ : ∃ n, ps.length = n := ⟨_, rfl⟩
  obtain ⟨mu, hmu⟩ : ∃ n, p.length = n := ⟨_, rfl⟩
  unfold maxLen at hm
  rw [hn] at hc h hl ⊢
  rw [hmu] at hu ⊢
  have HR := Lib.hid (And.intro h hu)
  have HN := Lib.hid (And.intro hn hs)
  obtain ⟨r, hr⟩ : ∃ r, inP ps p = r := ⟨_, rfl⟩
  have HD := Lib.hid hr
  clear h hu hn hmu hr hs
  go_enter Tryz.func35, Tryz.ntmps35
  go_wp2_with fail
  go_loopg [9, 10] n (fun kx s9 s10 w => ∃ lo hi : Nat, s9 = .int .i64 (lo : Int) ∧ s10 = .int .i64 (hi : Int) ∧ lo ≤ hi ∧ hi ≤ n ∧ hi - lo ≤ kx ∧ Side ps p lo hi ∧ Below W.heap.size W w)
  case atStart => exact ⟨0, n, rfl, rfl, Nat.zero_le _, Nat.le_refl _, by omega, fun t ht => ⟨fun h => absurd h (Nat.not_lt_zero _), fun h => absurd ht (by rw [HN.out.1]; omega)⟩, Below.refl _ _⟩
  case round =>
    obtain ⟨lo, hi, rfl, rfl, hlh, hin, hg, hI, hB⟩ := hrel
    have HI := Lib.hid (And.intro hI hB)
    clear hI
    by_cases hlt : lo < hi
    · have hml : (lo + hi) / 2 < ps.length := by rw [HN.out.1]; omega
      have hmv : (lo + hi) / 2 < vs.length := by rw [HR.out.1.n]; exact hml
      obtain ⟨g, o, n', c', e1, hgl, hcell⟩ := (HR.out.1.later hB).cell _ hmv
      obtain ⟨rfl, -, -⟩ := Value.slice.inj e1
      have hw := (HR.out.1.later hB).each _ hmv hml
      obtain ⟨x, hx⟩ : ∃ x, vs[(lo + hi) / 2] = x := ⟨_, rfl⟩
      rw [hx] at hcell hw
      obtain ⟨px, cx, rfl, -, -⟩ := hw.slice
      have hcall := pcmp_any hw (HR.out.2.later hB)
      obtain ⟨z, hz⟩ : ∃ z, cmpP ps[(lo + hi) / 2] p = z := ⟨_, rfl⟩
      rw [hz] at hcall
      obtain ⟨mx, hmx⟩ : ∃ m, ps[(lo + hi) / 2].length = m := ⟨_, rfl⟩
      rw [hmx] at hcell hcall
      have HZ := Lib.hid (And.intro hml hz)
      clear e1 hw hx hmx hz hmv hB
      by_cases hz0 : z < 0
      · go_wp2_with (go_at_call 34; (with_reducible refine hcall.mono ?_); rintro e w1 ⟨rfl, hb⟩; have HB := Lib.hid (below_on HI.out.2 (Below.of_eq hb)); clear hb hcall)
        go_roundg (hi - ((lo + hi) / 2 + 1))
        case measure => omega
        case rel => exact ⟨(lo + hi) / 2 + 1, hi, by rw [show ((lo : Int) + (hi : Int)) / 2 + 1 = (((lo + hi) / 2 + 1 : Nat) : Int) by omega], rfl, by omega, hin, Nat.le_refl _, HI.out.1.left HN.out.2 HZ.out.1 (by rw [HZ.out.2]; omega), HB.out⟩
      · go_wp2_with (go_at_call 34; (with_reducible refine hcall.mono ?_); rintro e w1 ⟨rfl, hb⟩; have HB := Lib.hid (below_on HI.out.2 (Below.of_eq hb)); clear hb hcall)
        go_roundg ((lo + hi) / 2 - lo)
        case measure => omega
        case rel => exact ⟨lo, (lo + hi) / 2, rfl, by rw [show ((lo : Int) + (hi : Int)) / 2 = (((lo + hi) / 2 : Nat) : Int) by omega], by omega, by omega, Nat.le_refl _, HI.out.1.right HN.out.2 HZ.out.1 (by rw [HZ.out.2]; omega), HB.out⟩
    · obtain rfl : hi = lo := by omega
      have hin2 := HI.out.1.in HN.out.2
      by_cases hn : hi < n
      · have hml : hi < ps.length := by rw [HN.out.1]; exact hn
        have hmv : hi < vs.length := by rw [HR.out.1.n]; exact hml
        obtain ⟨g, o, n', c', e1, hgl, hcell⟩ := (HR.out.1.later hB).cell _ hmv
        obtain ⟨rfl, -, -⟩ := Value.slice.inj e1
        have hw := (HR.out.1.later hB).each _ hmv hml
        obtain ⟨x, hx⟩ : ∃ x, vs[hi] = x := ⟨_, rfl⟩
        rw [hx] at hcell hw
        obtain ⟨px, cx, rfl, -, -⟩ := hw.slice
        have hcall := pcmp_any hw (HR.out.2.later hB)
        have hrr := hin2.1 hml
        obtain ⟨z, hz⟩ : ∃ z, cmpP ps[hi] p = z := ⟨_, rfl⟩
        rw [hz] at hcall hrr
        obtain ⟨mx, hmx⟩ : ∃ m, ps[hi].length = m := ⟨_, rfl⟩
        rw [hmx] at hcell hcall
        have HZ := Lib.hid (And.intro hml (And.intro hz hrr))
        clear e1 hw hx hmx hz hmv hB hin2 hrr
        by_cases hz0 : z = 0
        · subst hz0
          go_wp2_with (go_at_call 34; (with_reducible refine hcall.mono ?_); rintro e w1 ⟨rfl, hb⟩; have HB := Lib.hid (below_on HI.out.2 (Below.of_eq hb)); clear hb hcall)
          go_ret2
          exact ⟨hi, by rw [HZ.out.2.2]; rfl, by rw [HN.out.1]; omega, fun _ => by rw [List.getElem?_eq_getElem HZ.out.1, cmpP_zero.1 HZ.out.2.1], HB.out⟩
        · have hz1 : (z == 0) = false := beq_eq_false_iff_ne.2 hz0
          have HZ0 := Lib.hid hz0
          go_wp2_with (go_at_call 34; (with_reducible refine hcall.mono ?_); rintro e w1 ⟨rfl, hb⟩; have HB := Lib.hid (below_on HI.out.2 (Below.of_eq hb)); clear hb hcall)
          go_ret2
          refine ⟨hi, ?_, by rw [HN.out.1]; omega, fun hf => ?_, HB.out⟩
          · rw [HZ.out.2.2, decide_eq_false HZ0.out]; rfl
          · rw [HZ.out.2.2, decide_eq_false HZ0.out] at hf; cases hf
      · have hrr := hin2.2 (by rw [HN.out.1]; omega)
        have HZ := Lib.hid hrr
        clear hin2 hrr
        go_wp2_with fail
        go_ret2
        refine ⟨hi, ?_, by rw [HN.out.1]; omega, fun hf => ?_, hB⟩
        · rw [HZ.out]; rfl
        · rw [HZ.out] at hf; cases hf
end Go.Proofs.YtmfkkpogmmoflaaGreat
