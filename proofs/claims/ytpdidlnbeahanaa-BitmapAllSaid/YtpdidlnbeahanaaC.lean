/- last, sort.Search. -/
import Derived.Test.YtpdidlnbeahanaaB
namespace Go.Proofs.Ytpdidlnbeahanaa
open Go Go.RowKit Go.Proofs

theorem bel_cell {W w1 : World} {p : Addr} {v : Value} (hb : Below W.heap.size W w1) (h : W.cell? p = some v) : w1.cell? p = some v :=
  (World.cell?_of_block (w := W) (hb.block _ (World.block_lt_of_cell? W p h))).trans h

set_option maxRecDepth 100000 in
set_option maxHeartbeats 1000000 in
theorem last1_any {D : Nat} {W0 W : World} {fv : Value} {l : List R2} {q : Nat → Bool} {fb mb cap : Nat} {p : Option Addr} (hF : Fst D W0 fv l q) (hD : Below D W0 W) (hDW : D ≤ W.heap.size) (hf : W.cell? ⟨fb, 0, none⟩ = some fv) (hm : W.cell? ⟨mb, 0, none⟩ = some (.slice p l.length cap))
    (hv : Mv W (.slice p l.length cap) l) (j : Nat) (hj : j < l.length) : Calls Try.prog 44 #[(Value.int .i64 ((j : Int))), (Value.pointer (some ⟨fb, 0, none⟩)), (Value.pointer (some ⟨mb, 0, none⟩))] W fun e w' => e = .returned (.bool (!(q j))) ∧ Below W.heap.size W w' := by
  obtain ⟨g, rfl, hg, c0, c1, c2⟩ := hv.run hj
  obtain ⟨fg, lb, rfl, hent, hrun⟩ := hF
  have hcr := hrun W.drew j hj (hD.trans ((Below.refl _ W).drew.mono hDW))
  clear hv hrun
  generalize q j = b at hcr ⊢
  obtain ⟨n, hn⟩ : ∃ n, l.length = n := ⟨_, rfl⟩
  simp only [hn] at hm hj
  generalize l[j] = r at hcr c0 c1
  generalize ((els (l.take j)).length : Int) = c at hcr c2
  clear hn
  go_enter Try.func44, Try.ntmps44
  go_wp2_with fail
  go_region_held3 (fun w => w.cell? ⟨fb, 0, none⟩ = some (.func (.func fg) #[] lb) ∧ w.cell? ⟨mb, 0, none⟩ = some (.slice (some ⟨g, 0, none⟩) n cap) ∧ w.cell? ⟨g, j * 3, none⟩ = some (Value.int .i64 (r.1)) ∧ w.cell? ⟨g, j * 3 + 1, none⟩ = some (Value.int .i64 (r.2)) ∧ w.cell? ⟨g, j * 3 + 2, none⟩ = some (Value.int .i64 (c))) (first | exact ⟨hf, hm, c0, c1, c2⟩ | exact ⟨bel_cell hb1 hf, bel_cell hb1 hm, bel_cell hb1 c0, bel_cell hb1 c1, bel_cell hb1 c2⟩) (first | ((with_reducible refine hcr.mono ?_); rintro e x1 ⟨rfl, hb1⟩))
  go_wp2_with fail
  go_ret
  exact ⟨rfl, (Below.refl _ W).drew.trans hb1⟩

/-- Where q begins to hold. -/
def Found (n : Nat) (q : Nat → Bool) (W : World) (e : Ending) (w' : World) : Prop := ∃ m : Nat, m ≤ n ∧ e = .returned (Value.int .i64 ((m : Int))) ∧ (∀ j, j < n → (j < m ↔ q j = false)) ∧ Below W.heap.size W w'
set_option maxRecDepth 100000 in
set_option maxHeartbeats 1000000 in
theorem search_any {D n : Nat} {W0 W : World} {fv : Value} {q : Nat → Bool} (hn : n ≤ 65536) (hmono : ∀ j k, j ≤ k → k < n → q j = true → q k = true) (hD : Below D W0 W) (hDW : D ≤ W.heap.size)
    (hF : ∃ (g : Nat) (lb : Array Value), fv = .func (.func g) #[] lb ∧ (∀ a w, (callFunc g a).run Try.prog w = .ok (.enter g a) w) ∧ ∀ w j, j < n → Below D W0 w → Calls Try.prog g (#[(Value.int .i64 ((j : Int)))] ++ lb) w fun e w' => e = .returned (.bool (q j)) ∧ Below w.heap.size w w') :
    Calls Try.prog 43 #[(Value.int .i64 ((n : Int))), fv] W (Found n q W) := by
  obtain ⟨fg, lb, rfl, hent, hrun⟩ := hF
  have HM := Lib.hid hmono
  have HR := Lib.hid hrun
  clear hmono hrun
  go_enter Try.func43, Try.ntmps43
  go_wp2_with fail
  go_loopg [5, 6] n (fun gh iv jv w => ∃ i j : Nat, i ≤ j ∧ j ≤ n ∧ j ≤ i + gh ∧ iv = .int .i64 (i : Int) ∧ jv = .int .i64 (j : Int) ∧ (∀ k, k < i → q k = false) ∧ (∀ k, j ≤ k → k < n → q k = true) ∧ Below W.heap.size W w)
  case atStart => exact ⟨0, n, Nat.zero_le _, Nat.le_refl _, by omega, rfl, rfl, fun k h => absurd h (Nat.not_lt_zero k), fun k h h1 => by omega, Below.refl _ _⟩
  case round =>
    obtain ⟨i, j, hij, hjn, hg, rfl, rfl, h1, h2, hb⟩ := hrel
    have HI := Lib.hid (And.intro h1 h2)
    clear h1 h2
    by_cases hlt : i < j
    · obtain ⟨h, hh⟩ : ∃ h, (i + j) / 2 = h := ⟨_, rfl⟩
      have hc := HR.out wr h (by omega) (hD.trans (hb.mono hDW))
      obtain ⟨b, hqb⟩ : ∃ b, q h = b := ⟨_, rfl⟩
      rw [hqb] at hc
      have HQ := Lib.hid hqb
      clear hqb
      go_upto_region 4 with fail
      rw [show ((i : Int) + (j : Int)) / 2 = (h : Int) by omega]
      cases b
      · go_wp2_with ((with_reducible refine hc.mono ?_); rintro e x1 ⟨rfl, hb1⟩)
        go_roundg (j - (h + 1))
        case measure => omega
        case rel =>
          refine ⟨h + 1, j, by omega, hjn, by omega, by go_num, rfl, fun k hk => ?_, HI.out.2, below_on hb hb1⟩
          rcases Bool.eq_false_or_eq_true (q k) with h3 | h3
          · have := HM.out k h (by omega) (by omega) h3
            rw [HQ.out] at this
            exact absurd this (by decide)
          · exact h3
      · go_wp2_with ((with_reducible refine hc.mono ?_); rintro e x1 ⟨rfl, hb1⟩)
        go_roundg (h - i)
        case measure => omega
        case rel => exact ⟨i, h, by omega, by omega, by omega, rfl, rfl, HI.out.1, fun k h3 h4 => HM.out h k h3 h4 HQ.out, below_on hb hb1⟩
    · have HL := Lib.hid (show i = j by omega)
      have hd : ¬ (i : Int) < (j : Int) := by omega
      clear hlt
      go_wp2_with fail
      go_ret
      refine ⟨i, by omega, rfl, fun k hk => ⟨HI.out.1 k, fun h3 => ?_⟩, hb⟩
      rcases Nat.lt_or_ge k i with h4 | h4
      · exact h4
      · rw [HI.out.2 k (by have := HL.out; omega) hk] at h3
        cases h3

/-- The last run of the first m, of which q holds. -/
def LastAt (l : List R2) (q : Nat → Bool) (W : World) (e : Ending) (w' : World) : Prop := ∃ m : Nat, m ≤ l.length ∧ e = .returned (Value.agg #[Value.int .i64 ((lastR l m).1), Value.int .i64 ((lastR l m).2.1), Value.int .i64 ((lastR l m).2.2)]) ∧ (∀ j, j < l.length → (j < m ↔ q j = true)) ∧ Below W.heap.size W w'
set_option maxRecDepth 100000 in
set_option maxHeartbeats 1000000 in
theorem last_any {D : Nat} {W0 W : World} {v fv : Value} {l : List R2} {q : Nat → Bool} (hl : Nrm l) (hv : Mv W v l) (hD : Below D W0 W) (hDW : D ≤ W.heap.size) (hF : Fst D W0 fv l q) (hmono : ∀ j k, j ≤ k → k < l.length → q k = true → q j = true) :
    Calls Try.prog 34 #[.agg #[v], fv] W (LastAt l q W) := by
  have hlen := runs_len hl
  obtain ⟨p, cap, rfl, hc, hcm⟩ := hv.slice
  have HV := Lib.hid hv
  obtain ⟨fg, lb, rfl, hent, hrun⟩ := id hF
  have HF := Lib.hid hF
  obtain ⟨mb, hmb⟩ : ∃ mb, W.heap.size = mb := ⟨_, rfl⟩
  obtain ⟨W3, hW3⟩ : ∃ W3, ((W.alloc (.cells #[.slice p l.length cap] 27)).alloc (.cells #[.func (.func fg) #[] lb] 58)).alloc (.cells #[.int .i64 0, .int .i64 0, .int .i64 0] 56) = W3 := ⟨_, rfl⟩
  have hb3 : Below W.heap.size W W3 := by rw [← hW3]; exact (((below_alloc W _).alloc (by simp) _).alloc (by simp; omega) _)
  have hn1 : W3.heap[mb]? = some (.cells #[.slice p l.length cap] 27) := by rw [← hW3, ← hmb]; exact ((below_alloc ((W.alloc (.cells #[.slice p l.length cap] 27)).alloc (.cells #[.func (.func fg) #[] lb] 58)) _).block _ (by simp; omega)).trans (((below_alloc (W.alloc (.cells #[.slice p l.length cap] 27)) _).block _ (by simp)).trans (heap_alloc_new W _))
  have hn2 : W3.heap[mb + 1]? = some (.cells #[.func (.func fg) #[] lb] 58) := by
    have h := heap_alloc_new (W.alloc (.cells #[.slice p l.length cap] 27)) (.cells #[.func (.func fg) #[] lb] 58)
    rw [World.size_alloc, hmb] at h
    rw [← hW3]
    exact ((below_alloc ((W.alloc (.cells #[.slice p l.length cap] 27)).alloc (.cells #[.func (.func fg) #[] lb] 58)) _).block _ (by simp; omega)).trans h
  have hn3 : W3.heap[mb + 1 + 1]? = some (.cells #[(Value.int .i64 (0)), (Value.int .i64 (0)), (Value.int .i64 (0))] 56) := by
    have h := heap_alloc_new ((W.alloc (.cells #[.slice p l.length cap] 27)).alloc (.cells #[.func (.func fg) #[] lb] 58)) (.cells #[.int .i64 0, .int .i64 0, .int .i64 0] 56)
    rw [World.size_alloc, World.size_alloc, hmb] at h
    rw [← hW3]
    exact h
  have hz3 : W3.heap.size = mb + 3 := by rw [← hW3, ← hmb]; simp
  have h0 := nd_cell hn1 0
  have h1 := nd_cell hn2 0
  have hs := search_any (W := W3) (fv := .func (.func 44) #[] #[(Value.pointer (some ⟨mb + 1, 0, none⟩)), (Value.pointer (some ⟨mb, 0, none⟩))]) (q := fun j => !(q j)) hlen (fun j k hjk hk hq => by
      rcases Bool.eq_false_or_eq_true (q k) with h3 | h3
      · have := hmono j k hjk hk h3
        simp [this] at hq
      · simp [h3]) (Below.refl W3.heap.size W3) (Nat.le_refl _) ⟨44, _, rfl, by intro a w; rfl, fun w j hj hb => by
      have hf : w.cell? ⟨mb + 1, 0, none⟩ = some (.func (.func fg) #[] lb) := bel_cell hb h1
      have hm : w.cell? ⟨mb, 0, none⟩ = some (.slice p l.length cap) := bel_cell hb h0
      exact last1_any HF.out (hD.trans ((hb3.mono hDW).trans (hb.mono (by omega)))) (by have := hb.size; omega) hf hm (HV.out.later (below_on hb3 hb)) j hj⟩
  have HM := Lib.hid hmono
  obtain ⟨n, hn⟩ : ∃ n, l.length = n := ⟨_, rfl⟩
  rw [hn] at hs hW3 hlen
  have HW := Lib.hid (And.intro hb3 (And.intro hz3 (And.intro hW3 (And.intro hn hmb))))
  have HR := Lib.hid hn3
  rw [hn] at hn1
  have HM0 := Lib.hid hn1
  simp only [hn]
  clear hW3 hb3 hz3 hn1 hn2 hn3 h0 h1 hmono hv hF hn
  go_enter Try.func34, Try.ntmps34
  go_upto_region 2 with (first
    | (go_at_call 43; rw [HW.out.2.2.1]; (with_reducible refine hs.mono ?_); rintro e x1 ⟨m, hm, rfl, hq, hb⟩; clear hs))
  have hR : x1.heap[mb + 1 + 1]? = some (.cells #[(Value.int .i64 (0)), (Value.int .i64 (0)), (Value.int .i64 (0))] 56) := (hb.block _ (by have := HW.out.2.1; omega)).trans HR.out
  have hM : x1.heap[mb]? = some (.cells #[.slice p n cap] 27) := (hb.block _ (by have := HW.out.2.1; omega)).trans HM0.out
  have hbx : Below W.heap.size W x1 := below_on HW.out.1 hb
  have hv1 := HV.out.later hbx
  rw [← HW.out.2.2.2.1] at hm
  have HQ := Lib.hid (show m ≤ l.length ∧ ∀ j, j < n → (j < m ↔ q j = true) from ⟨hm, fun j hj => by
    rw [hq j hj]
    cases q j <;> simp⟩)
  have e0 := nd_cell hR 0
  have e1 := nd_cell hR 1
  have e2 := nd_cell hR 2
  have f0 := frozen_of_row x1 (mb + 1 + 1) 0 _ _ hR
  have f1 := frozen_of_row x1 (mb + 1 + 1) 1 _ _ hR
  have f2 := frozen_of_row x1 (mb + 1 + 1) 2 _ _ hR
  have hzx : mb + 1 + 1 < x1.heap.size := lt_of_heap hR
  have hfin : ∀ a b c : Value, Below W.heap.size W (((x1.setCell ⟨mb + 1 + 1, 0, none⟩ a).setCell ⟨mb + 1 + 1, 1, none⟩ b).setCell ⟨mb + 1 + 1, 2, none⟩ c) := fun a b c =>
    ((hbx.setCell (by rw [HW.out.2.2.2.2]; simp; omega) a).setCell (by rw [HW.out.2.2.2.2]; simp; omega) b).setCell (by rw [HW.out.2.2.2.2]; simp; omega) c
  have HF := Lib.hid hfin
  have m0 := nd_cell hM 0
  have s0 := fun a => World.cell?_setCell_same x1 ⟨mb + 1 + 1, 0, none⟩ a e0
  have s1 := fun a b => World.cell?_setCell_same (x1.setCell ⟨mb + 1 + 1, 0, none⟩ a) ⟨mb + 1 + 1, 1, none⟩ b ((World.cell?_setCell_other _ _ _ _ (by simp)).trans e1)
  have s2 := fun a b c => World.cell?_setCell_same ((x1.setCell ⟨mb + 1 + 1, 0, none⟩ a).setCell ⟨mb + 1 + 1, 1, none⟩ b) ⟨mb + 1 + 1, 2, none⟩ c ((World.cell?_setCell_other _ _ _ _ (by simp)).trans ((World.cell?_setCell_other _ _ _ _ (by simp)).trans e2))
  have HS3 := Lib.hid (And.intro s0 (And.intro s1 s2))
  clear s0 s1 s2
  clear hR hM hbx hq hb hfin
  cases m with
  | zero =>
    clear hv1 hm
    go_wp2_with fail
    refine bodyPost_ret (v := (Value.agg #[Value.int .i64 (0), Value.int .i64 (0), Value.int .i64 (0)])) (by simp [results, Try.results34, go_sem, HS3.out.1, HS3.out.2.1, HS3.out.2.2]) rfl ?_
    exact ⟨0, HQ.out.1, rfl, by rw [HW.out.2.2.2.1]; exact HQ.out.2, HF.out _ _ _⟩
  | succ m =>
    have hl1 := lastR_succ l m hm
    obtain ⟨g, rfl, hg, c0, c1, c2⟩ := hv1.run hm
    have hne : ¬ ((m : Int) + 1 = 0) := by omega
    have hne2 : (((m + 1 : Nat) : Int) == 0) = false := by simp; omega
    have hlt : (m : Int) < (n : Int) := by have := HW.out.2.2.2.1; omega
    have hmn : m < n := by have := HW.out.2.2.2.1; omega
    have HL := Lib.hid hl1
    generalize ((els (l.take m)).length : Int) = c at c2 HL
    obtain ⟨r, hr⟩ : ∃ r, l[m] = r := ⟨_, rfl⟩
    rw [hr] at c0 c1 HL
    clear hl1 hv1 hm hr
    go_wp2_with fail
    refine bodyPost_ret (v := (Value.agg #[Value.int .i64 (r.1), Value.int .i64 (r.2), Value.int .i64 (c)])) (by simp [results, Try.results34, go_sem, HS3.out.1, HS3.out.2.1, HS3.out.2.2]) rfl ?_
    exact ⟨m + 1, HQ.out.1, by rw [HL.out], by rw [HW.out.2.2.2.1]; exact HQ.out.2, HF.out _ _ _⟩
end Go.Proofs.Ytpdidlnbeahanaa
