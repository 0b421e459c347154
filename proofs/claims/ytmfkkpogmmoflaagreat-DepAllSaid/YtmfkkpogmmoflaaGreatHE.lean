/- keyMust. Add. New, Find, Col, Names. -/
import Derived.Test.YtmfkkpogmmoflaaGreatHC
namespace Go.Proofs.YtmfkkpogmmoflaaGreat
open Go Go.RowKit Go.Proofs

/-- The first j columns are made, the others are not yet. -/
def doneC (key : ByteArray) (l : List C) (j : Nat) : List C := (l.take j).map (formC key) ++ l.drop j
theorem doneC_len (key : ByteArray) (l : List C) (j : Nat) : (doneC key l j).length = l.length := by
  unfold doneC; simp; omega
theorem doneC_at (key : ByteArray) (l : List C) (j : Nat) (hj : j ≤ l.length) (i : Nat) : (doneC key l j)[i]? = (l[i]?).map (fun c => if i < j then formC key c else c) := by
  unfold doneC
  by_cases h : i < j
  · rw [List.getElem?_append_left (by simp; omega), List.getElem?_map, List.getElem?_take, if_pos h]
    simp [h]
  · rw [List.getElem?_append_right (by simp; omega), List.getElem?_drop]
    simp only [List.length_map, List.length_take, Nat.min_eq_left hj, h, if_false]
    rw [show j + (i - j) = i by omega]
    simp
theorem doneC_zero (key : ByteArray) (l : List C) : doneC key l 0 = l := by simp [doneC]
theorem doneC_all (key : ByteArray) (l : List C) : doneC key l l.length = l.map (formC key) := by simp [doneC]
theorem formC_not {key : ByteArray} {c : C} (h : eqS c.nm key = false) : formC key c = c := by unfold formC; rw [h]; simp
theorem formC_yes {key : ByteArray} {c : C} (h : eqS c.nm key = true) : formC key c = { c with mu := true } := by unfold formC; rw [h]; simp
theorem doneC_skip {key : ByteArray} {l : List C} {j : Nat} (hj : j < l.length) (h : eqS l[j].nm key = false) : doneC key l (j + 1) = doneC key l j := by
  apply List.ext_getElem?
  intro i
  rw [doneC_at _ _ _ (by omega), doneC_at _ _ _ (by omega)]
  by_cases e : i = j
  · subst e
    rw [List.getElem?_eq_getElem hj]
    simp [formC_not h]
  · congr 1
    funext c
    by_cases h1 : i < j
    · rw [if_pos h1, if_pos (by omega)]
    · rw [if_neg h1, if_neg (by omega)]
theorem doneC_take {key : ByteArray} {l : List C} {j : Nat} (hj : j < l.length) (h : eqS l[j].nm key = true) : doneC key l (j + 1) = (doneC key l j).set j { l[j] with mu := true } := by
  apply List.ext_getElem?
  intro i
  rw [doneC_at _ _ _ (by omega), List.getElem?_set, doneC_at _ _ _ (by omega)]
  by_cases e : j = i
  · subst e
    rw [if_pos rfl, if_pos (by rw [doneC_len]; exact hj), List.getElem?_eq_getElem hj]
    simp [formC_yes h]
  · rw [if_neg e]
    congr 1
    funext c
    by_cases h1 : i < j
    · rw [if_pos h1, if_pos (by omega)]
    · rw [if_neg h1, if_neg (by omega)]
theorem cellsC_must (l : List C) (j : Nat) (hj : j < l.length) : (cellsC l).set (j * 4 + 2) (.bool true) = cellsC (l.set j { l[j] with mu := true }) := by
  induction l generalizing j with
  | nil => simp at hj
  | cons c r ih =>
    cases j with
    | zero => simp [cellsC_cons]
    | succ j =>
      have := ih j (by simpa using hj)
      rw [cellsC_cons, show (j + 1) * 4 + 2 = j * 4 + 2 + 1 + 1 + 1 + 1 by omega]
      simp only [List.set_cons_succ, List.getElem_cons_succ, cellsC_cons, this]

/-- What keyMust keeps. -/
structure MustI (S : Nat) (W : World) (base : Nat) (t : T) (cv dv : Value) (ps : List Value) (j : Nat) (w : World) : Prop where
  box : w.heap[S]? = some (boxT t.nm cv t.key dv)
  res : w.heap[S + 1]? = some (boxT e0 (.slice none 0 0) e0 (.slice none 0 0))
  own : OwnT w base cv dv { t with cols := doneC t.key t.cols j } ps
  chg : Chg (fun b => cv.ownBlock = some b) W w
  lt : ∀ b, cv.ownBlock = some b → b < S
section
variable {S base : Nat} {W w : World} {t : T} {cv dv : Value} {ps : List Value} {j : Nat}
theorem MustI.cells (h : MustI S W base t cv dv ps j w) : S < w.heap.size ∧ w.cell? ⟨S, 1, none⟩ = some cv ∧ w.cell? ⟨S, 2, none⟩ = some (.string t.key) :=
  ⟨lt_of_heap h.box, nd_cell h.box 1, nd_cell h.box 2⟩
theorem MustI.drew (h : MustI S W base t cv dv ps j w) : MustI S W base t cv dv ps j w.drew :=
  ⟨h.box, h.res, h.own.later (below_drew w), h.chg.drew, h.lt⟩
theorem MustI.skip (h : MustI S W base t cv dv ps j w) (hj : j < t.cols.length) (he : eqS t.cols[j].nm t.key = false) : MustI S W base t cv dv ps (j + 1) w :=
  ⟨h.box, h.res, by rw [doneC_skip hj he]; exact h.own, h.chg, h.lt⟩
theorem OwnT.cset {w : World} {g cap n : Nat} (h : OwnT w base (.slice (some ⟨g, 0, none⟩) n cap) dv t ps) (hn : t.cols.length = n) (hj : j < t.cols.length) : OwnT (w.setCell ⟨g, j * 4 + 2, none⟩ (.bool true)) base (.slice (some ⟨g, 0, none⟩) n cap) dv { t with cols := t.cols.set j { t.cols[j] with mu := true } } ps := by
  have hc := h.c
  rw [hn] at hc
  obtain ⟨h1, h2⟩ := HRow.stored hc (j * 4 + 2) (.bool true)
  rw [cellsC_must _ _ hj] at h1
  refine ⟨?_, h.n, h.d.beside hc (by decide) h2, fun a b c => (h.l a b c).beside hc (by decide) h2⟩
  show HRow _ base 54 4 _ (t.cols.set j _).length (cellsC (t.cols.set j _))
  rw [List.length_set, hn]
  exact h1
theorem MustI.take {g cap n : Nat} (h : MustI S W base t (.slice (some ⟨g, 0, none⟩) n cap) dv ps j w) (hn : t.cols.length = n) (hj : j < t.cols.length) (he : eqS t.cols[j].nm t.key = true) : MustI S W base t (.slice (some ⟨g, 0, none⟩) n cap) dv ps (j + 1) (w.setCell ⟨g, j * 4 + 2, none⟩ (.bool true)) := by
  have hlt := h.lt g rfl
  have hj2 : j < (doneC t.key t.cols j).length := by rw [doneC_len]; exact hj
  have hgj : (doneC t.key t.cols j)[j] = t.cols[j] := by
    have := doneC_at t.key t.cols j (by omega) j
    rw [List.getElem?_eq_getElem hj2, List.getElem?_eq_getElem hj] at this
    simpa using this
  have ho := h.own.cset (j := j) (by show (doneC t.key t.cols j).length = n; rw [doneC_len]; exact hn) hj2
  have ho : OwnT (w.setCell ⟨g, j * 4 + 2, none⟩ (.bool true)) base (.slice (some ⟨g, 0, none⟩) n cap) dv { t with cols := (doneC t.key t.cols j).set j { (doneC t.key t.cols j)[j] with mu := true } } ps := ho
  rw [hgj, ← doneC_take hj he] at ho
  exact ⟨(heap_setCell_other w ⟨g, _, none⟩ S _ (by show S ≠ g; omega)).trans h.box, (heap_setCell_other w ⟨g, _, none⟩ (S + 1) _ (by show S + 1 ≠ g; omega)).trans h.res, ho, h.chg.setCell (p := ⟨g, j * 4 + 2, none⟩) (fun _ => rfl) _, h.lt⟩
theorem MustI.col {g cap n : Nat} (h : MustI S W base t (.slice (some ⟨g, 0, none⟩) n cap) dv ps j w) (hn : t.cols.length = n) (hj : j < t.cols.length) : g < w.heap.size ∧ w.cell? ⟨g, j * 4, none⟩ = some (.string t.cols[j].nm) ∧ (∃ b, w.cell? ⟨g, j * 4 + 2, none⟩ = some (.bool b)) ∧ w.frozen? ⟨g, j * 4 + 2, none⟩ = false := by
  have hc := h.own.c
  have hl : (doneC t.key t.cols j).length = n := by rw [doneC_len]; exact hn
  have hj2 : j < (doneC t.key t.cols j).length := by rw [doneC_len]; exact hj
  have hgj : (doneC t.key t.cols j)[j] = t.cols[j] := by
    have := doneC_at t.key t.cols j (by omega) j
    rw [List.getElem?_eq_getElem hj2, List.getElem?_eq_getElem hj] at this
    simpa using this
  have hc : HRow w base 54 4 (.slice (some ⟨g, 0, none⟩) n cap) (doneC t.key t.cols j).length (cellsC (doneC t.key t.cols j)) := hc
  obtain ⟨c0, _, c2, _⟩ := cellsC_at (doneC t.key t.cols j) j hj2
  rw [hl] at hc
  rw [hgj] at c0
  exact ⟨(hc.lt g rfl).2, hc.cell c0, ⟨_, hc.cell c2⟩, hc.frozenAt _⟩
end

set_option maxRecDepth 100000 in
set_option maxHeartbeats 2000000 in
theorem keyMust_any {t : T} {cv dv : Value} {base : Nat} {ps : List Value} {W : World} (h : OwnT W base cv dv t ps) (hf : t.cols.length ≤ 1000) : Calls Tryz.prog 38 #[.agg #[.string t.nm, cv, .string t.key, dv]] W fun e w' => e = .returned (.agg #[.string t.nm, cv, .string t.key, dv]) ∧ OwnT w' base cv dv (formT t) ps ∧ Chg (fun b => cv.ownBlock = some b) W w' := by
  obtain ⟨pc, cc, hcv, hc1, hc2⟩ := HRow.isslice h.c
  obtain ⟨p, cap, hdv, hc3, hc4⟩ := HRow.isslice h.d
  obtain ⟨n, hn⟩ : ∃ n, t.cols.length = n := ⟨_, rfl⟩
  obtain ⟨nd, hnd⟩ : ∃ n, t.deps.length = n := ⟨_, rfl⟩
  obtain ⟨S, hS⟩ : ∃ S, W.heap.size = S := ⟨_, rfl⟩
  have hb1 := below_alloc W (boxT t.nm cv t.key dv)
  have hb2 := hb1.alloc hb1.size (boxT e0 (.slice none 0 0) e0 (.slice none 0 0))
  have k0 := alloc_old (u := boxT e0 (.slice none 0 0) e0 (.slice none 0 0)) (heap_alloc_new W (boxT t.nm cv t.key dv))
  have k1 := heap_alloc_new (W.alloc (boxT t.nm cv t.key dv)) (boxT e0 (.slice none 0 0) e0 (.slice none 0 0))
  have hM : MustI S W base t cv dv ps 0 ((W.alloc (boxT t.nm cv t.key dv)).alloc (boxT e0 (.slice none 0 0) e0 (.slice none 0 0))) :=
    ⟨by rw [hS] at k0; exact k0, by rw [World.size_alloc, hS] at k1; exact k1, by rw [doneC_zero]; exact h.later hb2, Chg.of_below hb2, fun b hb => by rw [← hS]; exact (h.c.lt b hb).2⟩
  obtain ⟨w0, hw0⟩ : ∃ w0, (W.alloc (boxT t.nm cv t.key dv)).alloc (boxT e0 (.slice none 0 0) e0 (.slice none 0 0)) = w0 := ⟨_, rfl⟩
  rw [hw0] at hM
  have HW := Lib.hid hw0
  have HS := Lib.hid hS
  rw [hn] at hcv hc1 hf
  rw [hnd] at hdv
  unfold maxLen at hc2
  have HN := Lib.hid (And.intro hn hnd)
  have HM := Lib.hid hM
  obtain ⟨zl, z1, z2⟩ := hM.cells
  subst hcv hdv
  clear h hw0 hS hb1 hb2 k0 k1 hM hn hnd hc3 hc4
  go_enter Tryz.func38, Tryz.ntmps38
  go_upto_region 1 with fail
  rw [HW.out, HS.out]
  go_wp2_with fail
  clear z1 z2 zl
  go_loopg [3, 7] (n + 1) (fun gh _ jv w => ∃ (j : Nat), jv = .int .i64 (j : Int) ∧ j ≤ n ∧ n + 1 ≤ j + gh ∧ MustI S W base t (.slice pc n cc) (.slice p nd cap) ps j w)
  case atStart => exact ⟨0, rfl, Nat.zero_le _, by omega, HM.out⟩
  case round =>
    obtain ⟨j, rfl, hj, hg, hK⟩ := hrel
    by_cases hlt : j < n
    · have hjl : j < t.cols.length := by rw [HN.out.1]; exact hlt
      have hcc := hK.own.c
      have hcc : HRow wr base 54 4 (.slice pc n cc) (doneC t.key t.cols j).length (cellsC (doneC t.key t.cols j)) := hcc
      rw [doneC_len, HN.out.1] at hcc
      obtain ⟨g, cc', hgc, _, _⟩ := HRow.slice hcc (by omega)
      obtain ⟨rfl, -, rfl⟩ := Value.slice.inj hgc
      obtain ⟨zl, z1, z2⟩ := hK.cells
      obtain ⟨gl, g0, ⟨b, g2⟩, gf⟩ := hK.col HN.out.1 hjl
      have HK := Lib.hid hK
      have hji : (j : Int) < (n : Int) := by omega
      clear hK hcc
      obtain ⟨c, hcj⟩ : ∃ c, t.cols[j] = c := ⟨_, rfl⟩
      rw [hcj] at g0
      have HC := Lib.hid hcj
      clear hcj
      cases hx : eqS c.nm t.key
      · have HX := Lib.hid hx
        have hx2 : (c.nm.toList == t.key.toList) = false := by rw [eqS_toList]; exact hx
        clear hx
        go_upto_region 4 with fail
        refine Par.wp_region_par 9 [(Value.pointer (some ⟨S, 1, none⟩)), .slice (some ⟨g, 0, none⟩) n cc, (Value.int .i64 ((j : Int))), (Value.pointer (some ⟨g, j * 4, none⟩)), (Value.pointer (some ⟨g, j * 4, none⟩)), (Value.string (c.nm)), (Value.pointer (some ⟨S, 2, none⟩)), (Value.string (t.key)), .bool false] (fun w => w = wr.drew) ?A1 ?hm1 ?hB1 ?hA1 (rfl) ?hop1 ?hT1
        case hm1 => kernel_rfl
        case hB1 => kernel_rfl
        case hA1 =>
          simp only [Par.putA, Par.dstAt, Act.put, List.getElem?_toArray, List.getElem?_cons_zero, List.getElem?_cons_succ, Option.bind_some, List.setIfInBounds_toArray, List.set_cons_zero, List.set_cons_succ, List.getD_cons_zero, List.getD_cons_succ]
          rfl
        case hop1 =>
          simp only [List.take_succ_cons, List.take_zero, Par.GiveAll, and_true]
          refine ⟨fun w' hR => ?_, fun w' hR => ?_, fun w' hR => ?_, fun w' hR => ?_, fun w' hR => ?_, fun w' hR => ?_, fun w' hR => ?_, fun w' hR => ?_, fun w' hR => ?_⟩
          · have HR := Lib.hid hR
            obtain rfl := hR
            simp only [Par.Gives]
            go_simp
            all_goals exact HR.out
          · have HR := Lib.hid hR
            obtain rfl := hR
            simp only [Par.Gives]
            go_simp
            all_goals exact HR.out
          · have HR := Lib.hid hR
            obtain rfl := hR
            simp only [Par.Gives]
            go_simp
            all_goals exact HR.out
          · have HR := Lib.hid hR
            obtain rfl := hR
            simp only [Par.Gives]
            go_simp
            all_goals exact HR.out
          · have HR := Lib.hid hR
            obtain rfl := hR
            simp only [Par.Gives]
            go_simp
            all_goals exact HR.out
          · have HR := Lib.hid hR
            obtain rfl := hR
            simp only [Par.Gives]
            go_simp
            all_goals exact HR.out
          · have HR := Lib.hid hR
            obtain rfl := hR
            simp only [Par.Gives]
            go_simp
            all_goals exact HR.out
          · have HR := Lib.hid hR
            obtain rfl := hR
            simp only [Par.Gives]
            go_simp
            all_goals exact HR.out
          · have HR := Lib.hid hR
            obtain rfl := hR
            simp only [Par.Gives]
            go_simp
            all_goals exact HR.out
        case hT1 =>
          intro w' hR
          simp only [List.drop_succ_cons, List.drop_nil]
          obtain rfl := hR
          go_wp2_with fail
          go_roundg (n - j)
          case measure => omega
          case rel => exact ⟨j + 1, by go_num, by omega, by omega, HK.out.drew.skip hjl (by rw [HC.out]; exact HX.out)⟩
      · have HX := Lib.hid hx
        have hx2 : (c.nm.toList == t.key.toList) = true := by rw [eqS_toList]; exact hx
        clear hx
        go_upto_region 4 with fail
        refine Par.wp_region_par 9 [(Value.pointer (some ⟨S, 1, none⟩)), .slice (some ⟨g, 0, none⟩) n cc, (Value.int .i64 ((j : Int))), (Value.pointer (some ⟨g, j * 4, none⟩)), (Value.pointer (some ⟨g, j * 4, none⟩)), (Value.string (c.nm)), (Value.pointer (some ⟨S, 2, none⟩)), (Value.string (t.key)), .bool true] (fun w => w = wr.drew) ?A2 ?hm2 ?hB2 ?hA2 (rfl) ?hop2 ?hT2
        case hm2 => kernel_rfl
        case hB2 => kernel_rfl
        case hA2 =>
          simp only [Par.putA, Par.dstAt, Act.put, List.getElem?_toArray, List.getElem?_cons_zero, List.getElem?_cons_succ, Option.bind_some, List.setIfInBounds_toArray, List.set_cons_zero, List.set_cons_succ, List.getD_cons_zero, List.getD_cons_succ]
          rfl
        case hop2 =>
          simp only [List.take_succ_cons, List.take_zero, Par.GiveAll, and_true]
          refine ⟨fun w' hR => ?_, fun w' hR => ?_, fun w' hR => ?_, fun w' hR => ?_, fun w' hR => ?_, fun w' hR => ?_, fun w' hR => ?_, fun w' hR => ?_, fun w' hR => ?_⟩
          · have HR := Lib.hid hR
            obtain rfl := hR
            simp only [Par.Gives]
            go_simp
            all_goals exact HR.out
          · have HR := Lib.hid hR
            obtain rfl := hR
            simp only [Par.Gives]
            go_simp
            all_goals exact HR.out
          · have HR := Lib.hid hR
            obtain rfl := hR
            simp only [Par.Gives]
            go_simp
            all_goals exact HR.out
          · have HR := Lib.hid hR
            obtain rfl := hR
            simp only [Par.Gives]
            go_simp
            all_goals exact HR.out
          · have HR := Lib.hid hR
            obtain rfl := hR
            simp only [Par.Gives]
            go_simp
            all_goals exact HR.out
          · have HR := Lib.hid hR
            obtain rfl := hR
            simp only [Par.Gives]
            go_simp
            all_goals exact HR.out
          · have HR := Lib.hid hR
            obtain rfl := hR
            simp only [Par.Gives]
            go_simp
            all_goals exact HR.out
          · have HR := Lib.hid hR
            obtain rfl := hR
            simp only [Par.Gives]
            go_simp
            all_goals exact HR.out
          · have HR := Lib.hid hR
            obtain rfl := hR
            simp only [Par.Gives]
            go_simp
            all_goals exact HR.out
        case hT2 =>
          intro w' hR
          simp only [List.drop_succ_cons, List.drop_nil]
          obtain rfl := hR
          go_wp2_with fail
          go_roundg (n - j)
          case measure => omega
          case rel => exact ⟨j + 1, by go_num, by omega, by omega, HK.out.drew.take HN.out.1 hjl (by rw [HC.out]; exact HX.out)⟩
    · obtain rfl : j = n := by omega
      have hO := hK.own
      have e : doneC t.key t.cols j = t.cols.map (formC t.key) := by rw [← HN.out.1, doneC_all]
      rw [e] at hO
      have hO : OwnT wr base (.slice pc j cc) (.slice p nd cap) (formT t) ps := hO
      have hbox := hK.box
      have hres := hK.res
      have z0 := nd_cell hbox 0
      have z1 := nd_cell hbox 1
      have z2 := nd_cell hbox 2
      have z3 := nd_cell hbox 3
      have zl := lt_of_heap hbox
      have r0 := nd_cell hres 0
      have r1 := nd_cell hres 1
      have r2 := nd_cell hres 2
      have r3 := nd_cell hres 3
      have rf := fun i => frozen_of_row wr (S + 1) i _ _ hres
      have rl := lt_of_heap hres
      have HK := Lib.hid (And.intro hK hO)
      clear hK hO hbox hres e
      go_wp2_with fail
      have hS4 := set4 HK.out.1.res (.string t.nm) (.slice pc j cc) (.string t.key) (.slice p nd cap)
      have hO := set4_other wr (S + 1)
      have ho : ∀ q : Nat, q ≠ S + 1 → ((((wr.setCell ⟨S + 1, 0, none⟩ (.string t.nm)).setCell ⟨S + 1, 1, none⟩ (.slice pc j cc)).setCell ⟨S + 1, 2, none⟩ (.string t.key)).setCell ⟨S + 1, 3, none⟩ (.slice p nd cap)).heap[q]? = wr.heap[q]? := fun q h => hO q h _ _ _ _
      have hns : ∀ (b : Nat), b < W.heap.size → b ≠ S + 1 := fun b h => by rw [HS.out] at h; omega
      have hch : Chg (fun b => (Value.slice pc j cc).ownBlock = some b) W ((((wr.setCell ⟨S + 1, 0, none⟩ (.string t.nm)).setCell ⟨S + 1, 1, none⟩ (.slice pc j cc)).setCell ⟨S + 1, 2, none⟩ (.string t.key)).setCell ⟨S + 1, 3, none⟩ (.slice p nd cap)) :=
        (((HK.out.1.chg.setCell (p := ⟨S + 1, 0, none⟩) (fun h => absurd rfl (hns _ h)) _).setCell (p := ⟨S + 1, 1, none⟩) (fun h => absurd rfl (hns _ h)) _).setCell (p := ⟨S + 1, 2, none⟩) (fun h => absurd rfl (hns _ h)) _).setCell (p := ⟨S + 1, 3, none⟩) (fun h => absurd rfl (hns _ h)) _
      generalize (((wr.setCell _ _).setCell _ _).setCell _ _).setCell _ _ = wz at hS4 hch ho ⊢
      have y0 := nd_cell hS4 0
      have y1 := nd_cell hS4 1
      have y2 := nd_cell hS4 2
      have y3 := nd_cell hS4 3
      refine bodyPost_ret (v := .agg #[.string t.nm, (.slice pc j cc), .string t.key, (.slice p nd cap)]) (by simp [results, Tryz.results38, go_sem, y0, y1, y2, y3]) rfl ?_
      refine ⟨rfl, ?_, hch⟩
      have hres := HK.out.1.res
      have hq : ∀ {e : TypeId} {s : Nat} {v : Value} {m : Nat} {xs : List Value}, HRow wr base e s v m xs → e ≠ 46 → HRow wz base e s v m xs := fun {e s v m xs} hr he => hr.of (fun k hk => ho k (fun eq => by
        obtain ⟨_, cur, h1⟩ := hr.block k hk
        rw [eq, hres] at h1
        cases h1
        exact he rfl))
      exact ⟨hq HK.out.2.c (by decide), HK.out.2.n, hq HK.out.2.d (by decide), fun a b c => hq (HK.out.2.l a b c) (by decide)⟩
end Go.Proofs.YtmfkkpogmmoflaaGreat
namespace Go.Proofs.YtmfkkpogmmoflaaGreat
open Go Go.RowKit Go.Proofs

theorem RdT.mk {W : World} {cv dv : Value} {t : T} (h : RdC W cv t.cols) (k : RdD W dv t.deps) : RdT W cv dv t := ⟨h, k⟩
theorem few_of {ts : List T} {t : T} (h : mayP ts t = 0) : Few t := by
  obtain ⟨h1, h2, _, _⟩ := mayP_zero h
  unfold lim at h1
  simp only [Bool.or_eq_false_iff, decide_eq_false_iff_not] at h1
  unfold namesGood at h2
  simp only [Bool.and_eq_true] at h2
  refine ⟨by omega, by omega, fun d hd => ?_⟩
  have h3 := h2.2.2.2
  obtain ⟨j, hj, rfl⟩ := List.getElem_of_mem hd
  unfold depsGood at h3
  rw [List.all_eq_true] at h3
  have := h3 j (List.mem_range.2 hj)
  unfold depAt at this
  rw [List.getElem?_eq_getElem hj] at this
  simp only at this
  unfold depGood leftGood at this
  simp only [Bool.and_eq_true, decide_eq_true_eq] at this
  omega
theorem set_far (xs : List Value) (j i : Nat) (L : List Value) (u : Value) (h : xs.length = j) : (xs ++ L).set (j + i) u = xs ++ L.set i u := by
  rw [List.set_append_right _ _ (by omega), h, Nat.add_sub_cancel_left]
/-- Where the next table is laid. -/
theorem Sch.room {W : World} {sb : Nat} {ts : List T} (h : Sch W sb ts) {n : Nat} (hn : ts.length = n) (h8 : n < 8) : ∃ xs a0 a1 a2 a3 r, W.heap[sb]? = some (.cells (xs ++ (a0 :: a1 :: a2 :: a3 :: (r ++ [.int .i64 n]))).toArray 73) ∧ xs.length = n * 4 ∧ n * 4 + 4 + r.length = 32 ∧ TabsC W xs ts := by
  obtain ⟨h0, xs, rest, h1, h2, h3⟩ := h
  have hx := h3.1
  rw [hn] at hx h1
  rcases rest with _ | ⟨a0, _ | ⟨a1, _ | ⟨a2, _ | ⟨a3, r⟩⟩⟩⟩
  · simp at h2; omega
  · simp at h2; omega
  · simp at h2; omega
  · simp at h2; omega
  · simp only [List.length_cons] at h2
    exact ⟨xs, a0, a1, a2, a3, r, h1, hx, by omega, h3⟩
/-- The Schema with one table more, its number not yet told. -/
theorem put4 {x : World} {sb n : Nat} {xs r : List Value} {a0 a1 a2 a3 m : Value} {t : TypeId} (h : x.heap[sb]? = some (.cells (xs ++ (a0 :: a1 :: a2 :: a3 :: (r ++ [m]))).toArray t)) (hx : xs.length = n * 4) (a c d e : Value) :
    ((((x.setCell ⟨sb, n * 4, none⟩ a).setCell ⟨sb, n * 4 + 1, none⟩ c).setCell ⟨sb, n * 4 + 2, none⟩ d).setCell ⟨sb, n * 4 + 3, none⟩ e).heap[sb]? = some (.cells (xs ++ (a :: c :: d :: e :: (r ++ [m]))).toArray t) := by
  have s0 : ((xs ++ (a0 :: a1 :: a2 :: a3 :: (r ++ [m]))).toArray.setIfInBounds (n * 4) a) = (xs ++ (a :: a1 :: a2 :: a3 :: (r ++ [m]))).toArray := by
    rw [List.setIfInBounds_toArray, show n * 4 = n * 4 + 0 from rfl, set_far xs (n * 4) 0 _ _ hx]; rfl
  have s1 : ((xs ++ (a :: a1 :: a2 :: a3 :: (r ++ [m]))).toArray.setIfInBounds (n * 4 + 1) c) = (xs ++ (a :: c :: a2 :: a3 :: (r ++ [m]))).toArray := by
    rw [List.setIfInBounds_toArray, set_far xs (n * 4) 1 _ _ hx]; rfl
  have s2 : ((xs ++ (a :: c :: a2 :: a3 :: (r ++ [m]))).toArray.setIfInBounds (n * 4 + 2) d) = (xs ++ (a :: c :: d :: a3 :: (r ++ [m]))).toArray := by
    rw [List.setIfInBounds_toArray, set_far xs (n * 4) 2 _ _ hx]; rfl
  have s3 : ((xs ++ (a :: c :: d :: a3 :: (r ++ [m]))).toArray.setIfInBounds (n * 4 + 3) e) = (xs ++ (a :: c :: d :: e :: (r ++ [m]))).toArray := by
    rw [List.setIfInBounds_toArray, set_far xs (n * 4) 3 _ _ hx]; rfl
  have h0 := heap_setCell_same x sb (n * 4) _ _ a h
  rw [s0] at h0
  have h1 := heap_setCell_same _ sb (n * 4 + 1) _ _ c h0
  rw [s1] at h1
  have h2 := heap_setCell_same _ sb (n * 4 + 2) _ _ d h1
  rw [s2] at h2
  have h3 := heap_setCell_same _ sb (n * 4 + 3) _ _ e h2
  rw [s3] at h3
  exact h3
theorem put32 {x : World} {sb : Nat} {L : List Value} {m u : Value} {t : TypeId} (h : x.heap[sb]? = some (.cells (L ++ [m]).toArray t)) (hL : L.length = 32) :
    (x.setCell ⟨sb, 32, none⟩ u).heap[sb]? = some (.cells (L ++ [u]).toArray t) := by
  have h0 := heap_setCell_same x sb 32 _ _ u h
  rw [List.setIfInBounds_toArray, show 32 = 32 + 0 from rfl, set_far L 32 0 _ _ hL] at h0
  exact h0
theorem room_cells {x : World} {sb n : Nat} {xs r : List Value} {a0 a1 a2 a3 m : Value} {t : TypeId} (h : x.heap[sb]? = some (.cells (xs ++ (a0 :: a1 :: a2 :: a3 :: (r ++ [m]))).toArray t)) (hx : xs.length = n * 4) (hr : n * 4 + 4 + r.length = 32) :
    x.cell? ⟨sb, n * 4, none⟩ = some a0 ∧ x.cell? ⟨sb, n * 4 + 1, none⟩ = some a1 ∧ x.cell? ⟨sb, n * 4 + 2, none⟩ = some a2 ∧ x.cell? ⟨sb, n * 4 + 3, none⟩ = some a3 ∧ x.cell? ⟨sb, 32, none⟩ = some m := by
  refine ⟨?_, ?_, ?_, ?_, ?_⟩ <;> rw [nd_cell h, List.getElem?_toArray, List.getElem?_append_right (by omega), hx]
  · simp
  · simp
  · simp
  · simp
  · rw [show 32 - n * 4 = r.length + 1 + 1 + 1 + 1 by omega]
    simp only [List.getElem?_cons_succ]
    rw [List.getElem?_append_right (Nat.le_refl _), Nat.sub_self]; rfl

/-- What lies behind the two calls. -/
theorem add_mid {w1 y2 y3 : World} {sb : Nat} {ts : List T} {t : T} {n m : Nat} {p1 : Option Addr} {c1 : Nat} {dv : Value} {ps : List Value} (hs : Sch w1 sb ts) (hb : Below w1.drew.heap.size w1.drew y2) (hO : OwnT y2 (w1.drew.heap.size + 2) (.slice p1 n c1) dv t ps)
    (hch : Chg (fun b => (Value.slice p1 n c1).ownBlock = some b) y2 y3) (hm : ts.length = m) (h8 : m < 8) : ∃ xs a0 a1 a2 a3 r, y3.heap[sb]? = some (.cells (xs ++ (a0 :: a1 :: a2 :: a3 :: (r ++ [.int .i64 m]))).toArray 73) ∧ xs.length = m * 4 ∧ m * 4 + 4 + r.length = 32 ∧ TabsC y3 xs ts ∧ Below w1.heap.size w1 y3 := by
  have h2 : Below w1.drew.heap.size y2 y3 := hch.below hb.size (fun b hb h => by have := (hO.c.lt b h).1; omega)
  have h3 : Below w1.drew.heap.size w1.drew y3 := hb.trans h2
  have h4 : Below w1.heap.size w1 y3 := below_on (below_drew w1) h3
  obtain ⟨xs, a0, a1, a2, a3, r, k1, k2, k3, k4⟩ := (hs.later h4).room hm h8
  exact ⟨xs, a0, a1, a2, a3, r, k1, k2, k3, k4, h4⟩
/-- A block of tables, or of a Schema, is turned, and no other. -/
theorem kp_one {x y : World} {b : Nat} {cur : Array Value} {e : TypeId} {f : Nat × Nat} (h : x.heap[b]? = some (.cells cur e f)) (he : e = 73 ∨ e = 46) (ho : ∀ q : Nat, q ≠ b → y.heap[q]? = x.heap[q]?) : Kp x y := by
  intro q cur' e' m hq h1 h2
  have hne : q ≠ b := by
    rintro rfl
    rw [h] at hq
    cases hq
    rcases he with rfl | rfl
    · exact h1 rfl
    · exact h2 rfl
  rw [ho q hne]
  exact hq
theorem add_end {W y3 : World} {sb base m : Nat} {ts : List T} {t : T} {cv dv : Value} {ps xs r : List Value} {a0 a1 a2 a3 : Value} {m1 : Int} (hO : OwnT y3 base cv dv (formT t) ps) (hk : y3.heap[sb]? = some (.cells (xs ++ (a0 :: a1 :: a2 :: a3 :: (r ++ [.int .i64 m]))).toArray 73)) (hx : xs.length = m * 4) (hr : m * 4 + 4 + r.length = 32)
    (ht : TabsC y3 xs ts) (hb : Below W.heap.size W y3) (hm : ts.length = m) (h8 : m < 8) (hm1 : m1 = (m : Int) + 1) :
    Sch ((((((y3.setCell ⟨sb, m * 4, none⟩ (.string t.nm)).setCell ⟨sb, m * 4 + 1, none⟩ cv).setCell ⟨sb, m * 4 + 2, none⟩ (.string t.key)).setCell ⟨sb, m * 4 + 3, none⟩ dv)).setCell ⟨sb, 32, none⟩ (.int .i64 m1)) sb (ts ++ [formT t]) ∧
      Chg (fun b => b = sb) W ((((((y3.setCell ⟨sb, m * 4, none⟩ (.string t.nm)).setCell ⟨sb, m * 4 + 1, none⟩ cv).setCell ⟨sb, m * 4 + 2, none⟩ (.string t.key)).setCell ⟨sb, m * 4 + 3, none⟩ dv)).setCell ⟨sb, 32, none⟩ (.int .i64 m1)) := by
  have hc : ∀ (y : World) (i : Nat) (u : Value), Chg (fun b => b = sb) W y → Chg (fun b => b = sb) W (y.setCell ⟨sb, i, none⟩ u) := fun y i u h => h.setCell (p := ⟨sb, i, none⟩) (fun _ => rfl) u
  have h4 := put4 hk hx (.string t.nm) cv (.string t.key) dv
  have e : (xs ++ (Value.string t.nm :: cv :: Value.string t.key :: dv :: (r ++ [Value.int .i64 (m : Int)]))) = ((xs ++ [Value.string t.nm, cv, Value.string t.key, dv]) ++ r) ++ [Value.int .i64 (m : Int)] := by simp
  rw [e] at h4
  have h5 := put32 (u := .int .i64 m1) h4 (by simp; omega)
  have ho : ∀ q : Nat, q ≠ sb → ((((((y3.setCell ⟨sb, m * 4, none⟩ (.string t.nm)).setCell ⟨sb, m * 4 + 1, none⟩ cv).setCell ⟨sb, m * 4 + 2, none⟩ (.string t.key)).setCell ⟨sb, m * 4 + 3, none⟩ dv)).setCell ⟨sb, 32, none⟩ (.int .i64 m1)).heap[q]? = y3.heap[q]? := fun q hq => by
    have hs : ∀ (y : World) (i : Nat) (u : Value), (y.setCell ⟨sb, i, none⟩ u).heap[q]? = y.heap[q]? := fun y i u => heap_setCell_other y ⟨sb, i, none⟩ q u hq
    rw [hs, hs, hs, hs, hs]
  have hkp := kp_one hk (.inl rfl) ho
  refine ⟨⟨by have := h8; simp; omega, xs ++ [.string t.nm, cv, .string t.key, dv], r, ?_, by simp; omega, ?_⟩, hc _ _ _ (hc _ _ _ (hc _ _ _ (hc _ _ _ (hc _ _ _ (Chg.of_below hb)))))⟩
  · rw [h5, List.append_assoc, List.length_append, hm, hm1]
    rfl
  · exact (ht.kp hkp).snoc (hO.rd.kp hkp)
set_option maxRecDepth 100000 in
set_option maxHeartbeats 4000000 in
theorem add_any {t : T} {cv dv : Value} {sb : Nat} {ts : List T} {W : World} (h : RdT W cv dv t) (hs : Sch W sb ts) (hsm : Sm t) : Calls Tryz.prog 21 #[(Value.pointer (some ⟨sb, 0, none⟩)), .agg #[.string t.nm, cv, .string t.key, dv]] W fun e w' => e = .returned (.int .i64 (mayP ts t)) ∧ Sch w' sb (addT ts t) ∧ Chg (fun b => b = sb) W w' := by
  have hB0 := below_alloc W (boxT t.nm cv t.key dv)
  have h0 := heap_alloc_new W (boxT t.nm cv t.key dv)
  have hm := may_any (h.later hB0) (hs.later hB0) hsm
  obtain ⟨S, hS⟩ : ∃ S, W.heap.size = S := ⟨_, rfl⟩
  obtain ⟨w0, hw0⟩ : ∃ w0, W.alloc (boxT t.nm cv t.key dv) = w0 := ⟨_, rfl⟩
  rw [hw0] at hB0 h0 hm
  rw [hS] at h0
  obtain ⟨pc, cc, hcv, _, _⟩ := h.1.slice
  obtain ⟨p, cap, hdv, _, _⟩ := h.2.slice
  obtain ⟨n, hn⟩ : ∃ n, t.cols.length = n := ⟨_, rfl⟩
  obtain ⟨nd, hnd⟩ : ∃ n, t.deps.length = n := ⟨_, rfl⟩
  have HB := Lib.hid (And.intro hB0 (And.intro h0 (And.intro h hs)))
  rw [hn] at hcv
  rw [hnd] at hdv
  have HW := Lib.hid hw0
  have HS := Lib.hid hS
  have z0 := nd_cell h0 0
  have z1 := nd_cell h0 1
  have z2 := nd_cell h0 2
  have z3 := nd_cell h0 3
  have zl := lt_of_heap h0
  subst hcv hdv
  clear h hs hw0 hS hB0 h0
  by_cases hz : mayP ts t = 0
  · have hf := few_of hz
    have h8 : ts.length < 8 := by
      have := (mayP_zero hz).1
      unfold lim at this
      simp only [Bool.or_eq_false_iff, decide_eq_false_iff_not] at this
      omega
    have HZ : Hid (mayP ts t = 0 ∧ addT ts t = ts ++ [formT t]) := Lib.hid ⟨hz, by unfold addT; rw [if_pos hz]⟩
    obtain ⟨m, hml⟩ : ∃ m, ts.length = m := ⟨_, rfl⟩
    rw [hml] at h8
    rw [hz] at hm
    have HF := Lib.hid (And.intro hf (And.intro hml (And.intro hn hnd)))
    clear hz hf hml hn hnd hsm
    go_enter Tryz.func21, Tryz.ntmps21
    go_upto_region 3 with fail
    rw [HW.out, HS.out]
    go_upto_region 6 with (go_at_call 37; (with_reducible refine hm.mono ?_); rintro e w1 ⟨rfl, hb1⟩)
    have hs1 := (HB.out.2.2.2.later (HB.out.1)).later hb1
    have hbx := heap_on hb1 HB.out.2.1
    have hr1 := (HB.out.2.2.1.later (HB.out.1)).later hb1
    have hcp := copied_any (hr1.later (below_drew w1)) HF.out.1
    rw [HF.out.2.2.1, HF.out.2.2.2] at hcp
    have ent27 : ∀ a w, (callFunc 39 a).run Tryz.prog w = .ok (.enter 39 a) w := by intro a w; rfl
    have ent26 : ∀ a w, (callFunc 38 a).run Tryz.prog w = .ok (.enter 38 a) w := by intro a w; rfl
    clear z0 z1 z2 z3 zl hm
    have z0 := nd_cell hbx 0
    have z1 := nd_cell hbx 1
    have z2 := nd_cell hbx 2
    have z3 := nd_cell hbx 3
    have zl := lt_of_heap hbx
    obtain ⟨v0, v1⟩ := hs1.num
    rw [HF.out.2.1] at v1
    have H1 := Lib.hid (And.intro hs1 (below_on HB.out.1 hb1))
    have hm8 : (m : Int) < 8 := by omega
    clear hs1 hb1 hr1 hbx
    go_region_law (first
      | (refine step_call ent27 [.agg #[.string t.nm, .slice pc n cc, .string t.key, .slice p nd cap]] (by simp [Act.eval]) ?_; (with_reducible refine Calls.mono hcp ?_); rintro e y2 ⟨p1, c1, p2, c2, ps, rfl, hO, hb2⟩; have hkm := keyMust_any hO HF.out.1.1; have hs2 := (H1.out.1.later (below_drew w1)).later hb2; have hv2 := hs2.num; rw [HF.out.2.1] at hv2; obtain ⟨v2, v3⟩ := hv2; have H2 := Lib.hid (And.intro hs2 (And.intro hb2 hO)); clear hs2 hb2 hO hcp; refine ⟨_, rfl, ?_⟩)
      | (refine step_call ent26 [.agg #[.string t.nm, .slice p1 n c1, .string t.key, .slice p2 nd c2]] (by simp [Act.eval]) ?_; (with_reducible refine Calls.mono hkm ?_); rintro e y3 ⟨rfl, hO3, hch⟩; obtain ⟨xs, a0, a1, a2, a3, r, hk3, hx3, hl3, ht3, hb3⟩ := add_mid H1.out.1 H2.out.2.1 H2.out.2.2 hch HF.out.2.1 h8; obtain ⟨q0, q1, q2, q3, q4⟩ := room_cells hk3 hx3 hl3; have qf := fun i => frozen_of_row y3 sb i _ _ hk3; have ql := lt_of_heap hk3; have H3 := Lib.hid (And.intro hO3 (And.intro hk3 (And.intro hx3 (And.intro hl3 (And.intro ht3 hb3))))); clear hO3 hch hk3 hx3 hl3 ht3 hb3 hkm; refine ⟨_, rfl, ?_⟩))
    all_goals
      have hfin := fun (m1 : Int) (hm1 : m1 = (m : Int) + 1) => add_end (W := W) H3.out.1 H3.out.2.1 H3.out.2.2.1 H3.out.2.2.2.1 H3.out.2.2.2.2.1 (below_on H1.out.2 H3.out.2.2.2.2.2) HF.out.2.1 h8 hm1
      have hb4 := put4 H3.out.2.1 H3.out.2.2.1 (.string t.nm) (.slice p1 n c1) (.string t.key) (.slice p2 nd c2)
      clear q0 q1 q2 q3 q4 qf ql v1 v3 z0 z1 z2 z3
      generalize (((y3.setCell _ _).setCell _ _).setCell _ _).setCell _ _ = wz at hfin hb4 ⊢
      obtain ⟨_, _, _, _, q4⟩ := room_cells hb4 H3.out.2.2.1 H3.out.2.2.2.1
      have qf := fun i => frozen_of_row wz sb i _ _ hb4
      have ql := lt_of_heap hb4
      have HFin := Lib.hid hfin
      clear hfin hb4
      go_wp2_with fail
      go_ret
      exact ⟨ret_int HZ.out.1.symm, by rw [HZ.out.2]; exact (HFin.out _ rfl).1, (HFin.out _ rfl).2⟩
  · have HZ : Hid (addT ts t = ts) := Lib.hid (by unfold addT; rw [if_neg hz])
    have HFin := Lib.hid (fun (w1 : World) (hb1 : Below w0.heap.size w0 w1) => And.intro ((HB.out.2.2.2.later HB.out.1).later hb1) (below_on HB.out.1 hb1))
    have hne : (mayP ts t != 0) = true := by simp [hz]
    obtain ⟨z, hzz⟩ : ∃ z, mayP ts t = z := ⟨_, rfl⟩
    rw [hzz] at hm hne ⊢
    clear hz hzz hsm
    go_enter Tryz.func21, Tryz.ntmps21
    go_upto_region 3 with fail
    rw [HW.out, HS.out]
    go_wp2_with (go_at_call 37; (with_reducible refine hm.mono ?_); rintro e w1 ⟨rfl, hb1⟩)
    go_ret
    exact ⟨rfl, by rw [HZ.out]; exact (HFin.out _ hb1).1, Chg.of_below (HFin.out _ hb1).2⟩
end Go.Proofs.YtmfkkpogmmoflaaGreat
namespace Go.Proofs.YtmfkkpogmmoflaaGreat
open Go Go.RowKit Go.Proofs

def zrest : List Value := [.string e0, .slice none 0 0, .string e0, .slice none 0 0, .string e0, .slice none 0 0, .string e0, .slice none 0 0, .string e0, .slice none 0 0, .string e0, .slice none 0 0, .string e0, .slice none 0 0, .string e0, .slice none 0 0, .string e0, .slice none 0 0, .string e0, .slice none 0 0, .string e0, .slice none 0 0, .string e0, .slice none 0 0, .string e0, .slice none 0 0, .string e0, .slice none 0 0, .string e0, .slice none 0 0, .string e0, .slice none 0 0]
set_option maxRecDepth 100000 in
set_option maxHeartbeats 1000000 in
theorem new_any (W : World) : Calls Tryz.prog 20 #[] W fun e w' => e = .returned (Value.pointer (some ⟨W.heap.size, 0, none⟩)) ∧ Sch w' W.heap.size [] ∧ Below W.heap.size W w' := by
  go_enter Tryz.func20, Tryz.ntmps20
  go_wp2_with fail
  go_ret
  exact ⟨rfl, ⟨Nat.zero_le _, [], zrest, heap_alloc_new W _, rfl, TabsC.nil _⟩, below_alloc W _⟩

def AllFew (ts : List T) : Prop := ∀ t ∈ ts, Few t
theorem AllFew.nil : AllFew [] := fun t h => by simp at h
theorem AllFew.add {ts : List T} (h : AllFew ts) (t : T) : AllFew (addT ts t) := by
  unfold addT
  split
  · rename_i h0
    intro u hu
    rw [List.mem_append, List.mem_singleton] at hu
    rcases hu with hu | rfl
    · exact h u hu
    · obtain ⟨h1, h2, h3⟩ := few_of h0
      exact ⟨by unfold formT; simpa using h1, h2, h3⟩
  · exact h
theorem few_zero : Few zeroT := ⟨by decide, by decide, fun d h => by simp [zeroT] at h⟩
theorem few_find {ts : List T} (h : AllFew ts) (x : ByteArray) : Few (orT (findT ts x)) := by
  unfold orT
  cases hf : findT ts x with
  | none => exact few_zero
  | some t => exact h t (List.mem_of_find?_eq_some hf)

set_option maxRecDepth 100000 in
set_option maxHeartbeats 1000000 in
theorem sFind_any {pv : Value} {ts : List T} {x : ByteArray} {W : World} (h : SchP W pv ts) (hf : AllFew ts) : Calls Tryz.prog 46 #[pv, .string x] W (GivesT (orT (findT ts x)) (hasT ts x) W) := by
  have hfew := few_find hf x
  have hB0 := below_alloc W (boxT e0 (.slice none 0 0) e0 (.slice none 0 0))
  have h0 := heap_alloc_new W (boxT e0 (.slice none 0 0) e0 (.slice none 0 0))
  have hfi := sfind_any (x := x) (h.later hB0)
  generalize orT (findT ts x) = t at hfi hfew ⊢
  generalize hasT ts x = ok at hfi ⊢
  obtain ⟨S, hS⟩ : ∃ S, W.heap.size = S := ⟨_, rfl⟩
  obtain ⟨w0, hw0⟩ : ∃ w0, W.alloc (boxT e0 (.slice none 0 0) e0 (.slice none 0 0)) = w0 := ⟨_, rfl⟩
  rw [hw0] at hB0 h0 hfi
  rw [hS] at h0
  have HB := Lib.hid (And.intro hB0 (And.intro h0 hfew))
  have HW := Lib.hid hw0
  have HS := Lib.hid hS
  clear h hf hw0 hS hB0 h0 hfew
  go_enter Tryz.func46, Tryz.ntmps46
  go_upto_region 1 with fail
  rw [HW.out, HS.out]
  go_wp2_with (first
    | (go_at_call 68; (with_reducible refine hfi.mono ?_); rintro e w1 ⟨p1, n1, c1, p2, n2, c2, rfl, hr, hb⟩; have hb1 := below_alloc w1 (boxT t.nm (.slice p1 n1 c1) t.key (.slice p2 n2 c2)); have hcp := copied_any (hr.later hb1) HB.out.2.2; have H1 := Lib.hid (And.intro hb hb1); clear hb hb1 hr hfi)
    | (go_at_call 39; (with_reducible refine hcp.mono ?_); rintro e w2 ⟨q1, d1, q2, d2, ps, rfl, hO, hb2⟩; have hres := heap_on hb2 (heap_on H1.out.2 (heap_on H1.out.1 HB.out.2.1)); have z0 := nd_cell hres 0; have z1 := nd_cell hres 1; have z2 := nd_cell hres 2; have z3 := nd_cell hres 3; have zf := fun i => frozen_of_row w2 S i _ _ hres; have zl := lt_of_heap hres; have H2 := Lib.hid (And.intro hO (And.intro (below_on (below_on (below_on HB.out.1 H1.out.1) H1.out.2) hb2) hres)); clear hO hb2 hcp hres))
  have hS4 := set4 H2.out.2.2 (.string t.nm) (.slice q1 t.cols.length d1) (.string t.key) (.slice q2 t.deps.length d2)
  have hBx := below_set4 H2.out.2.1 (Nat.le_of_eq HS.out) (.string t.nm) (.slice q1 t.cols.length d1) (.string t.key) (.slice q2 t.deps.length d2)
  have hKp := kp_set4 H2.out.2.2 (.inr rfl) (.string t.nm) (.slice q1 t.cols.length d1) (.string t.key) (.slice q2 t.deps.length d2)
  generalize (((w2.setCell _ _).setCell _ _).setCell _ _).setCell _ _ = wz at hS4 hBx hKp ⊢
  have y0 := nd_cell hS4 0
  have y1 := nd_cell hS4 1
  have y2 := nd_cell hS4 2
  have y3 := nd_cell hS4 3
  refine bodyPost_ret (v := .tuple #[.agg #[.string t.nm, (.slice q1 t.cols.length d1), .string t.key, (.slice q2 t.deps.length d2)], .bool ok]) (by simp [results, Tryz.results46, go_sem, y0, y1, y2, y3]) rfl ?_
  exact ⟨_, _, _, _, _, _, rfl, H2.out.1.rd.kp hKp, hBx⟩

set_option maxRecDepth 100000 in
set_option maxHeartbeats 1000000 in
theorem sCol_any {pv : Value} {ts : List T} {x c : ByteArray} {W : World} (h : SchP W pv ts) : Calls Tryz.prog 67 #[pv, .string x, .string c] W fun e w' => e = .returned (.tuple #[colV (orC (colOf (orT (findT ts x)).cols c)), .bool (hasC (orT (findT ts x)).cols c)]) ∧ Below W.heap.size W w' := by
  have hB0 := below_alloc W (.cells #[.string e0, .int .i64 0, .bool false, .string e0] 54)
  have h0 := heap_alloc_new W (.cells #[.string e0, .int .i64 0, .bool false, .string e0] 54)
  have hfi := sfind_any (x := x) (h.later hB0)
  generalize orT (findT ts x) = t at hfi ⊢
  generalize hasT ts x = ok at hfi ⊢
  have hcl := fun (w : World) (v : Value) (hr : RdC w v t.cols) => column_any (x := c) hr
  generalize orC (colOf t.cols c) = k at hcl ⊢
  generalize hasC t.cols c = ok2 at hcl ⊢
  unfold colV at hcl ⊢
  obtain ⟨S, hS⟩ : ∃ S, W.heap.size = S := ⟨_, rfl⟩
  obtain ⟨w0, hw0⟩ : ∃ w0, W.alloc (.cells #[.string e0, .int .i64 0, .bool false, .string e0] 54) = w0 := ⟨_, rfl⟩
  rw [hw0] at hB0 h0 hfi
  rw [hS] at h0
  have HB := Lib.hid (And.intro hB0 h0)
  have HW := Lib.hid hw0
  have HS := Lib.hid hS
  clear h hw0 hS hB0 h0
  go_enter Tryz.func67, Tryz.ntmps67
  go_upto_region 1 with fail
  rw [HW.out, HS.out]
  go_wp2_with (first
    | (go_at_call 68; (with_reducible refine hfi.mono ?_); rintro e w1 ⟨p1, n1, c1, p2, n2, c2, rfl, hr, hb⟩; have hb1 := below_alloc w1 (boxT t.nm (.slice p1 n1 c1) t.key (.slice p2 n2 c2)); have hcp := hcl _ _ (hr.later hb1).c; have H1 := Lib.hid (And.intro hb hb1); clear hb hb1 hr hfi hcl)
    | (go_at_call 87; (with_reducible refine hcp.mono ?_); rintro e w2 ⟨rfl, hb2⟩; have hres := heap_on hb2 (heap_on H1.out.2 (heap_on H1.out.1 HB.out.2)); have z0 := nd_cell hres 0; have z1 := nd_cell hres 1; have z2 := nd_cell hres 2; have z3 := nd_cell hres 3; have zf := fun i => frozen_of_row w2 S i _ _ hres; have zl := lt_of_heap hres; have H2 := Lib.hid (And.intro (below_on (below_on (below_on HB.out.1 H1.out.1) H1.out.2) hb2) hres); clear hb2 hcp hres))
  have hS4 := set4 H2.out.2 (.string k.nm) (.int .i64 k.kd) (.bool k.mu) (.string k.tgt)
  have hBx := below_set4 H2.out.1 (Nat.le_of_eq HS.out) (.string k.nm) (.int .i64 k.kd) (.bool k.mu) (.string k.tgt)
  generalize (((w2.setCell _ _).setCell _ _).setCell _ _).setCell _ _ = wz at hS4 hBx ⊢
  have y0 := nd_cell hS4 0
  have y1 := nd_cell hS4 1
  have y2 := nd_cell hS4 2
  have y3 := nd_cell hS4 3
  refine bodyPost_ret (v := .tuple #[.agg #[.string k.nm, .int .i64 k.kd, .bool k.mu, .string k.tgt], .bool ok2]) (by simp [results, Tryz.results67, go_sem, y0, y1, y2, y3]) rfl ?_
  exact ⟨rfl, hBx⟩

theorem RdTs.later' {W W' : World} {v : Value} {ts : List T} (h : RdTs W v ts) (hb : Below W.heap.size W W') : RdTs W' v ts := h.later hb
set_option maxRecDepth 100000 in
set_option maxHeartbeats 1000000 in
theorem sNames_any {pv : Value} {ts : List T} {W : World} (h : SchP W pv ts) (hl : ts.length ≤ 1000) : Calls Tryz.prog 99 #[pv] W fun e w' => ∃ v', e = .returned v' ∧ HRow w' W.heap.size 9 1 v' ts.length (cellsS (ts.map T.nm)) ∧ Below W.heap.size W w' := by
  have hth := there_any h
  clear h
  obtain ⟨n, hn⟩ : ∃ n, ts.length = n := ⟨_, rfl⟩
  rw [hn] at hl ⊢
  have HNN := Lib.hid hn
  clear hn
  go_enter Tryz.func99, Tryz.ntmps99
  go_wp2_with (go_at_call 92; (with_reducible refine hth.mono ?_); rintro e w1 ⟨v, rfl, hr, hb⟩; clear hth; obtain ⟨p, cap, hv, hc, hm⟩ := hr.slice; rw [HNN.out] at hv hc; subst hv; have H1 := Lib.hid (And.intro hr (And.intro hb HNN.out)); clear hr hb)
  clear hm
  go_loopg [3, 9] (n + 1) (fun gh v jv w => ∃ (j : Nat), jv = .int .i64 (j : Int) ∧ j ≤ n ∧ n + 1 ≤ j + gh ∧ HRow w w1.heap.size 9 1 v j (cellsS ((ts.take j).map T.nm)) ∧ Below w1.heap.size w1 w)
  case atStart => exact ⟨0, rfl, Nat.zero_le _, by omega, HRow.nil, Below.refl _ _⟩
  case round =>
    obtain ⟨j, rfl, hj, hg, hR, hB⟩ := hrel
    obtain ⟨pv', cv', rfl, _, _⟩ := hR.isslice
    have hrw : RdTs wr (.slice p n cap) ts := H1.out.1.later hB
    have HI := Lib.hid (And.intro hR hB)
    by_cases hlt : j < n
    · have hjl : j < ts.length := by rw [H1.out.2.2]; exact hlt
      obtain ⟨b, off, cv, dv, rfl, hb, c0, c1, c2, c3, hrt⟩ := RdTs.tab hrw hjl
      obtain ⟨t, htj⟩ : ∃ t, ts[j] = t := ⟨_, rfl⟩
      rw [htj] at c0 c2 hrt
      obtain ⟨p1, cp1, rfl, _, _⟩ := hrt.1.slice
      obtain ⟨p2, cp2, rfl, _, _⟩ := hrt.2.slice
      generalize t.cols.length = m1 at *
      generalize t.deps.length = m2 at *
      have hba := below_alloc wr (boxT t.nm (.slice p1 m1 cp1) t.key (.slice p2 m2 cp2))
      obtain ⟨g, cap', w3, hrun, r3, g3, o3⟩ := app_one (ty := 24) Tryz.underlying24 info9 (by kernel_rfl) (by decide) (by decide) (wr.alloc (boxT t.nm (.slice p1 m1 cp1) t.key (.slice p2 m2 cp2))) w1.heap.size (hR.later hba) (by omega) (Nat.le_trans hB.size hba.size) #[.string t.nm] rfl (by intro u hu; simp only [List.mem_cons, List.not_mem_nil, or_false] at hu; subst hu; rfl)
      have htk : cellsS ((ts.take (j + 1)).map T.nm) = cellsS ((ts.take j).map T.nm) ++ [.string t.nm] := by rw [List.take_succ_eq_append_getElem hjl, htj]; simp [cellsS]
      have H3 := Lib.hid (And.intro r3 (And.intro ((hB.alloc hB.size _).trans (below_row (hR.later hba) g3 (Nat.le_refl _) (Nat.le_trans hB.size hba.size))) htk))
      rw [World.size_alloc] at hrun
      clear hR hB hrt hrw hba r3 g3 o3 htj htk
      go_wp2_with (at_builtin; refine wpList_append_run rfl (.tmp 13) (.tmp 16) 24 rfl rfl rfl hrun ?_)
      go_roundg (n - j)
      case measure => omega
      case rel => exact ⟨j + 1, by go_num, by omega, by omega, by rw [H3.out.2.2]; exact H3.out.1, H3.out.2.1⟩
    · obtain rfl : j = n := by omega
      clear hR hB hrw
      go_wp2_with fail
      go_ret
      have e : ts.take j = ts := List.take_of_length_le (by rw [H1.out.2.2]; exact Nat.le_refl _)
      refine ⟨_, rfl, ?_, below_on H1.out.2.1 HI.out.2⟩
      have := HI.out.1
      rw [e] at this
      exact this.mono H1.out.2.1.size
end Go.Proofs.YtmfkkpogmmoflaaGreat
