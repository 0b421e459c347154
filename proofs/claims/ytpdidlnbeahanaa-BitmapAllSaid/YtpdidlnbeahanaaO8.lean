/- BitmapRuns: the walk. -/
import Derived.Test.YtpdidlnbeahanaaO7
import Derived.Test.YtpdidlnbeahanaaU
namespace Go.Proofs.Ytpdidlnbeahanaa
open Go Go.RowKit Go.Shelf Go.Proofs

theorem Vm.congr {w : World} {v : Value} {P Q : Int → Bool} (h : Vm w v P) (e : ∀ x, P x = Q x) : Vm w v Q := by
  obtain ⟨l, h1, h2, h3⟩ := h
  exact ⟨l, h1, h2, fun x => by rw [h3 x, e x]⟩
theorem Bm.congr {w : World} {b : Nat} {v : Value} {P Q : Int → Bool} (h : Bm w b v P) (e : ∀ x, P x = Q x) : Bm w b v Q := by
  obtain ⟨l, h0, h1, h2, h3⟩ := h
  exact ⟨l, h0, h1, h2, fun x => by rw [h3 x, e x]⟩
theorem Bm.slc {w : World} {b : Nat} {v : Value} {P : Int → Bool} (h : Bm w b v P) : ∃ p n c, v = .slice p n c := h.vm.slc
theorem Bm.frz {w : World} {b : Nat} {v : Value} {P : Int → Bool} (h : Bm w b v P) (j : Nat) : w.frozen? ⟨b, j, none⟩ = false := by
  obtain ⟨l, h0, _⟩ := h
  exact frozen_of_row w b j _ _ h0
theorem Bm.heap {w : World} {b : Nat} {v : Value} {P : Int → Bool} (h : Bm w b v P) : w.heap[b]? = some (.cells #[v] 27) := by
  obtain ⟨l, h0, _⟩ := h
  exact h0
/-- Another Map is stored into the variable. -/
theorem Bm.put {w : World} {b : Nat} {v u : Value} {P Q : Int → Bool} (h : Bm w b v P) (k : Vm w u Q) : Bm (w.setCell ⟨b, 0, none⟩ u) b u Q := bm_set k h.heap
/-- A variable beside the one that turned. -/
theorem Bm.beside {w : World} {b b' : Nat} {v u v' : Value} {P Q : Int → Bool} (h : Bm w b v P) (k : Bm w b' v' Q) (hn : b ≠ b') : Bm (w.setCell ⟨b', 0, none⟩ u) b v P :=
  (h.vm.set k.heap).bm ((Below.heap_setCell _ _ _ _ hn).trans h.heap)
theorem zero_vm (w : World) : Vm w (.slice none 0 0) (fun _ => false) := ⟨[], Mv.nil w, Nrm.nil, fun x => ⟨fun h => absurd h (mem_nil x), fun h => by cases h⟩⟩
theorem Rd2.later {W W' : World} {p : Option Addr} {xs : List (Int × Int)} (h : Rd2 W p xs) (hb : Below W.heap.size W W') : Rd2 W' p xs := fun j hj => by
  obtain ⟨b, off, h1, h2, h3, h4⟩ := h j hj
  exact ⟨b, off, h1, Nat.lt_of_lt_of_le h2 hb.size, (hb.cell (p := ⟨b, off + j * 2, none⟩) h2).trans h3, (hb.cell (p := ⟨b, off + j * 2 + 1, none⟩) h2).trans h4⟩
def memB (l : List R2) (x : Int) : Bool := l.any fun r => decide (r.1 ≤ x ∧ x < r.2)
theorem memB_iff (l : List R2) (x : Int) : memB l x = true ↔ mem l x := by simp [memB, mem]
theorem memB_step {l : List R2} (hl : Nrm l) {j : Nat} (hj : j < l.length) (x : Int) : (memB (l.take j) x || spanP l[j].1 l[j].2 x) = memB (l.take (j + 1)) x := by
  have h := hl.2 l[j] (List.getElem_mem _)
  have e : l.take (j + 1) = l.take j ++ [l[j]] := by rw [List.take_succ_eq_append_getElem]
  rw [e]
  unfold memB
  rw [List.any_append, List.any_cons, List.any_nil, Bool.or_false]
  congr 1
  unfold spanP
  rw [Bool.eq_iff_iff, decide_eq_true_eq, decide_eq_true_eq]
  omega
theorem ent27 : ∀ a w, (callFunc 27 a).run Try.prog w = .ok (.enter 27 a) w := by intro a w; rfl
theorem ent23 : ∀ a w, (callFunc 23 a).run Try.prog w = .ok (.enter 23 a) w := by intro a w; rfl

set_option maxRecDepth 100000 in
set_option maxHeartbeats 4000000 in
theorem runs_walk (px : Option Addr) (xs : List (Int × Int)) (nx cx : Nat) (W : World) (hbeg : Calls Try.prog 9 #[] W fun e W' => e = .returned (.bool true) ∧ Below W.heap.size W W')
    (hx : xs.length = nx) (rx : Rd2 W px xs) : Calls Try.prog 8 #[.slice px nx cx] W fun e W' => e = .returned (.bool true) ∧ Below W.heap.size W W' := by
  have HX := Lib.hid (And.intro hx rx)
  clear hx rx
  go_enter Try.func8, Try.ntmps8
  go_upto_block 0 with (go_at_call 9; (with_reducible refine hbeg.mono ?_); rintro e w1 ⟨rfl, b1⟩; clear hbeg)
  obtain ⟨mb, hmb⟩ : ∃ mb, w1.heap.size = mb := ⟨_, rfl⟩
  obtain ⟨w2, hw2⟩ : ∃ w2, w1.alloc (.cells #[.slice none 0 0] 27) = w2 := ⟨_, rfl⟩
  have g2 := heap_alloc_new w1 (.cells #[.slice none 0 0] 27)
  have B2 := below_alloc w1 (.cells #[.slice none 0 0] 27)
  rw [hw2] at g2 B2 ⊢
  rw [hmb] at g2 ⊢
  have hWm : W.heap.size ≤ mb := by have := b1.size; omega
  have HS := Lib.hid (And.intro ((zero_vm w2).bm g2) (below_on b1 B2))
  clear g2 B2 hw2 b1 hmb
  go_cut [] from 300 to 300 (fun w => ∃ p n c P, Bm w mb (.slice p n c) P ∧ Below W.heap.size W w)
  case first =>
    go_wp2_with fail
    go_loopg [5] 11 (fun gh iv w => ∃ (i : Nat) (p : Option Addr) (n c : Nat) (P : Int → Bool), iv = .int .i64 (i : Int) ∧ i ≤ 10 ∧ 11 ≤ i + gh ∧ Bm w mb (.slice p n c) P ∧ Below W.heap.size W w)
    case atStart => exact ⟨0, _, _, _, _, rfl, by omega, by omega, HS.out.1, HS.out.2⟩
    case round =>
      obtain ⟨i, p, n, c, P, rfl, hi, hg, hM, hB⟩ := hrel
      have HM := Lib.hid (And.intro hM hB)
      by_cases hlt : i < nx ∧ i < 10
      · obtain ⟨h1, h2⟩ := hlt
        have h2' : (i : Int) < 10 := by omega
        obtain ⟨b, off, rfl, hbW, c0, c1⟩ := (HX.out.2.later hB) i (by rw [HX.out.1]; exact h1)
        obtain ⟨x, hx⟩ : ∃ x, xs[i]'(by rw [HX.out.1]; exact h1) = x := ⟨_, rfl⟩
        rw [hx] at c0 c1
        clear hx
        obtain ⟨f, t⟩ := x
        have c0 : wr.cell? ⟨b, off + i * 2, none⟩ = some (Value.int .i64 (f)) := c0
        have c1 : wr.cell? ⟨b, off + i * 2 + 1, none⟩ = some (Value.int .i64 (t)) := c1
        have m0 := hM.cell
        have hs := vspan (W := wr.drew) f t
        clear hM hB
        go_upto_region 8 with fail
        go_region_law (first
          | (refine step_call ent27 [(Value.int .i64 (f)), (Value.int .i64 (t))] (by simp [Act.eval]) ?_; (with_reducible refine Calls.mono hs ?_); rintro e y1 ⟨p1, q1, d1, rfl, v1, b1⟩; have M1 := HM.out.1.later ((Below.refl _ wr).drew.trans b1); have m1 := M1.cell; have B1 := below_on HM.out.2 ((Below.refl _ wr).drew.trans b1); have hor := vor M1.vm v1; refine ⟨_, rfl, ?_⟩)
          | (refine step_call ent23 [.agg #[.slice p n c], .agg #[.slice p1 q1 d1]] (by simp [Act.eval]) ?_; (with_reducible refine Calls.mono hor ?_); rintro e y2 ⟨p2, q2, d2, rfl, v2, b2⟩; have M2 := M1.later b2; have m2 := M2.cell; have f2 := M2.frz 0; have B2 := below_on B1 b2; have HE := Lib.hid (And.intro M2 (And.intro v2 B2)); refine ⟨_, rfl, ?_⟩))
        all_goals
          go_wp2_with fail
          go_roundg (10 - i)
          case measure => omega
          case rel => exact ⟨i + 1, p2, q2, d2, _, by go_num, by omega, by omega, HE.out.1.put HE.out.2.1, HE.out.2.2.setCell hWm _⟩
      · have hex : ¬ i < nx ∨ (i < nx ∧ ¬ i < 10) := by omega
        clear hlt hM hB
        rcases hex with hex | ⟨hex, hex'⟩
        all_goals
          go_wp2_with fail
          go_meet
          exact ⟨p, n, c, P, HM.out.1, HM.out.2⟩
  case rest =>
    clear HS HX
    obtain ⟨p, n, c, P, hM, hB⟩ := hcut
    obtain ⟨l, h0, h1, h2, h3⟩ := id hM
    have hl := runs_len h2
    have m0 := hM.cell
    have HM := Lib.hid (And.intro hM (And.intro hB (And.intro h2 h3)))
    obtain ⟨nb, hnb⟩ : ∃ nb, wc.heap.size = nb := ⟨_, rfl⟩
    have hmn : mb < nb := by have := hM.lt; omega
    have hWn : W.heap.size ≤ nb := by omega
    obtain ⟨w3, hw3⟩ : ∃ w3, wc.alloc (.cells #[.slice none 0 0] 27) = w3 := ⟨_, rfl⟩
    have g3 := heap_alloc_new wc (.cells #[.slice none 0 0] 27)
    have B3 := below_alloc wc (.cells #[.slice none 0 0] 27)
    rw [hw3] at g3 B3
    rw [hnb] at g3
    have hr := runs_any h2 (h1.later B3)
    have HS := Lib.hid (And.intro ((zero_vm w3).bm g3) (And.intro (hM.later B3) (And.intro (below_on hB B3) hw3)))
    have m3 := (hM.later B3).cell
    clear hM hB h0 h1 h2 h3 g3 B3 hw3
    have HNB := Lib.hid hnb
    clear hnb
    go_upto_region 10 with fail
    rw [HS.out.2.2.2, HNB.out]
    go_upto_block 2 with (go_at_call 29; (with_reducible refine hr.mono ?_); rintro e w4 ⟨v4, rfl, r4, b4⟩; clear hr; have H4 := Lib.hid (And.intro r4 (And.intro (HS.out.1.later b4) (And.intro (HS.out.2.1.later b4) (below_on HS.out.2.2.1 b4)))); clear r4 b4)
    obtain ⟨p4, c4, rfl, _, _⟩ := HRow.isslice H4.out.1
    have HL := Lib.hid HM.out.2.2.1
    obtain ⟨nl, hnl⟩ : ∃ nl, l.length = nl := ⟨_, rfl⟩
    rw [hnl] at hl
    have HNL := Lib.hid hnl
    simp only [hnl]
    clear hnl m0 m3
    go_wp2_with fail
    go_loopg [8] (nl + 1) (fun gh jv w => ∃ (j : Nat) (q : Option Addr) (r d : Nat), jv = .int .i64 (j : Int) ∧ j ≤ nl ∧ nl + 1 ≤ j + gh ∧ Bm w nb (.slice q r d) (memB (l.take j)) ∧ Bm w mb (.slice p n c) P ∧ Rp w 0 (.slice p4 l.length c4) l ∧ Below W.heap.size W w)
    case atStart => exact ⟨0, _, _, _, rfl, Nat.zero_le _, by omega, H4.out.2.1.congr (fun x => rfl), H4.out.2.2.1, H4.out.1, H4.out.2.2.2⟩
    case round =>
      obtain ⟨j, q, r, d, rfl, hj, hg, hN, hM, hR, hB⟩ := hrel
      have HG := Lib.hid (And.intro hN (And.intro hM (And.intro hR hB)))
      by_cases hlt : j < nl
      · have hjl : j < l.length := by rw [HNL.out]; exact hlt
        obtain ⟨g, cap, e4, _, _⟩ := HRow.slice hR (by omega)
        cases e4
        obtain ⟨a0, a1⟩ := cells2_at l j l[j] (List.getElem?_eq_getElem hjl)
        have a0 := HRow.cell hR a0
        have a1 := HRow.cell hR a1
        have hb := HL.out.2 l[j] (List.getElem_mem _)
        have hprev : ∀ i, j = i + 1 → ∃ b', wr.cell? ⟨g, i * 2 + 1, none⟩ = some (Value.int .i64 (b')) ∧ b' < l[j].1 := fun i hi => by
          obtain ⟨_, a1⟩ := cells2_at l i (l[i]'(by omega)) (List.getElem?_eq_getElem (by omega))
          exact ⟨(l[i]'(by omega)).2, HRow.cell hR a1, List.pairwise_iff_getElem.1 HL.out.1 i j (by omega) hjl (by omega)⟩
        have hstep := fun x => memB_step HL.out hjl x
        obtain ⟨x, hx⟩ : ∃ x, l[j] = x := ⟨_, rfl⟩
        rw [hx] at a0 a1 hb hprev
        simp only [hx] at hstep
        have HSt := Lib.hid hstep
        clear hx hstep
        obtain ⟨f, t⟩ := x
        have a0 : wr.cell? ⟨g, j * 2, none⟩ = some (Value.int .i64 (f)) := a0
        have a1 : wr.cell? ⟨g, j * 2 + 1, none⟩ = some (Value.int .i64 (t)) := a1
        have hb0 : 0 ≤ f := hb.1
        have hb1 : f < t := hb.2.1
        have hb2 : t ≤ 65536 := hb.2.2
        have d0 : decide (t ≤ f) = false := decide_eq_false (by omega)
        have d1 : decide (f < 0) = false := decide_eq_false (by omega)
        have d2 : decide (65536 < t) = false := decide_eq_false (by omega)
        have m0 := hN.cell
        have hs := fun y => vspan (W := y) f t
        clear hN hM hR hB hb
        cases j with
        | zero =>
          clear hprev
          go_upto_region 14 with fail
          go_quiet (fail)
          go_upto_region 16 with fail
          go_region_law (first
            | (refine step_call ent27 [(Value.int .i64 (f)), (Value.int .i64 (t))] (by simp [Act.eval]) ?_; (with_reducible refine Calls.mono (hs _) ?_); rintro e y1 ⟨p1, q1, d1, rfl, v1, b1⟩; have bb1 : Below wr.heap.size wr y1 := ⟨b1.os, b1.tape, b1.output, b1.size, b1.block⟩; have M1 := HG.out.1.later bb1; have m1 := M1.cell; have M1' := Lib.hid (And.intro (HG.out.2.1.later bb1) (And.intro (HRow.later HG.out.2.2.1 bb1) (below_on HG.out.2.2.2 bb1))); have hor := vor M1.vm v1; refine ⟨_, rfl, ?_⟩)
            | (refine step_call ent23 [.agg #[.slice q r d], .agg #[.slice p1 q1 d1]] (by simp [Act.eval]) ?_; (with_reducible refine Calls.mono hor ?_); rintro e y2 ⟨p2, q2, d2, rfl, v2, b2⟩; have M2 := M1.later b2; have m2 := M2.cell; have f2 := M2.frz 0; have HE := Lib.hid (And.intro M2 (And.intro v2 (And.intro (M1'.out.1.later b2) (And.intro (HRow.later M1'.out.2.1 b2) (below_on M1'.out.2.2 b2))))); refine ⟨_, rfl, ?_⟩))
          all_goals
            go_wp2_with fail
            go_roundg (nl - 0)
            case measure => omega
            case rel =>
              have e := HE.out
              exact ⟨0 + 1, p2, q2, d2, by go_num, by omega, by omega, (e.1.put e.2.1).congr HSt.out, e.2.2.1.beside e.1 (by omega), HRow.of e.2.2.2.1 (fun k hk => Below.heap_setCell _ _ _ _ (fun h => by
                obtain ⟨_, cur, hh⟩ := HRow.block e.2.2.2.1 k hk
                have h : k = nb := h
                rw [h, e.1.heap] at hh
                cases hh)), e.2.2.2.2.setCell hWn _⟩
        | succ i =>
          obtain ⟨b', a3, hbf⟩ := hprev i rfl
          have hbf : b' < f := hbf
          have d3 : decide (f ≤ b') = false := decide_eq_false (by omega)
          clear hprev
          go_upto_region 14 with fail
          go_quiet (fail)
          go_upto_region 16 with fail
          have x1 : (i : Int) + 1 < (nl : Int) := by omega
          have x3 : (0 : Int) ≤ (i : Int) + 1 := by omega
          have x2 : ((i : Int) + 1).toNat = i + 1 := by omega
          go_region_law (first
            | (refine step_call ent27 [(Value.int .i64 (f)), (Value.int .i64 (t))] (by simp [Act.eval]) ?_; (with_reducible refine Calls.mono (hs _) ?_); rintro e y1 ⟨p1, q1, d1, rfl, v1, b1⟩; have bb1 : Below wr.heap.size wr y1 := ⟨b1.os, b1.tape, b1.output, b1.size, b1.block⟩; have M1 := HG.out.1.later bb1; have m1 := M1.cell; have M1' := Lib.hid (And.intro (HG.out.2.1.later bb1) (And.intro (HRow.later HG.out.2.2.1 bb1) (below_on HG.out.2.2.2 bb1))); have hor := vor M1.vm v1; refine ⟨_, rfl, ?_⟩)
            | (refine step_call ent23 [.agg #[.slice q r d], .agg #[.slice p1 q1 d1]] (by simp [Act.eval]) ?_; (with_reducible refine Calls.mono hor ?_); rintro e y2 ⟨p2, q2, d2, rfl, v2, b2⟩; have M2 := M1.later b2; have m2 := M2.cell; have f2 := M2.frz 0; have HE := Lib.hid (And.intro M2 (And.intro v2 (And.intro (M1'.out.1.later b2) (And.intro (HRow.later M1'.out.2.1 b2) (below_on M1'.out.2.2 b2))))); refine ⟨_, rfl, ?_⟩))
          all_goals
            clear x1 x2 x3
            go_wp2_with fail
            go_roundg (nl - (i + 1))
            case measure => omega
            case rel =>
              have e := HE.out
              exact ⟨(i + 1) + 1, p2, q2, d2, by go_num, by omega, by omega, (e.1.put e.2.1).congr HSt.out, e.2.2.1.beside e.1 (by omega), HRow.of e.2.2.2.1 (fun k hk => Below.heap_setCell _ _ _ _ (fun h => by
                obtain ⟨_, cur, hh⟩ := HRow.block e.2.2.2.1 k hk
                have h : k = nb := h
                rw [h, e.1.heap] at hh
                cases hh)), e.2.2.2.2.setCell hWn _⟩
      · have e : l.take j = l := List.take_of_length_le (by rw [HNL.out]; omega)
        have hq := veq hM.vm hN.vm true ⟨fun _ x => by
          rw [e, Bool.eq_iff_iff, memB_iff]
          exact (HM.out.2.2.2 x).symm, fun _ => rfl⟩
        have m0 := hM.cell
        have n0 := hN.cell
        clear hM hN hR hB e
        go_wp2_with (go_at_call 25; (with_reducible refine hq.mono ?_); rintro e y1 ⟨rfl, b1⟩)
        go_ret
        exact ⟨rfl, below_on HG.out.2.2.2 b1⟩
end Go.Proofs.Ytpdidlnbeahanaa
