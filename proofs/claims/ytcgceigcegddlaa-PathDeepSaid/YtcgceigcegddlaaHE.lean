/- keyMust. -/
import Derived.Test.YtcgceigcegddlaaHD
namespace Go.Proofs.Ytcgceigcegddlaa
open Go Go.RowKit Go.Proofs

/-- The first j columns are made, the others are not yet. -/
def doneC (key : ByteArray) (l : List C) (j : Nat) : List C := (l.take j).map (formC key) ++ l.drop j
theorem doneC_len (key : ByteArray) (l : List C) (j : Nat) : (doneC key l j).length = l.length := by
  unfold doneC; simp; omega
theorem doneC_at (key : ByteArray) (l : List C) (j : Nat) (hj : j ≤ l.length) (i : Nat) : (doneC key l j)[i]? = (l[i]?).map (fun c => if i < j then formC key c else c) := by
  unfold doneC
  by_cases h : i < j
  · rw [List.getElem?_append_left (by simp; omega), List.getElem?_map, List.getElem?_take, if_pos h]
    simp [h]
  · rw [List.getElem?_append_right (by simp; omega), List.getElem?_drop]
    simp only [List.length_map, List.length_take, Nat.min_eq_left hj, h, if_false]
    rw [show j + (i - j) = i by omega]
    simp
theorem doneC_zero (key : ByteArray) (l : List C) : doneC key l 0 = l := by simp [doneC]
theorem doneC_all (key : ByteArray) (l : List C) : doneC key l l.length = l.map (formC key) := by simp [doneC]
theorem formC_not {key : ByteArray} {c : C} (h : eqS c.nm key = false) : formC key c = c := by unfold formC; rw [h]; simp
theorem formC_yes {key : ByteArray} {c : C} (h : eqS c.nm key = true) : formC key c = { c with mu := true } := by unfold formC; rw [h]; simp
theorem doneC_skip {key : ByteArray} {l : List C} {j : Nat} (hj : j < l.length) (h : eqS l[j].nm key = false) : doneC key l (j + 1) = doneC key l j := by
  apply List.ext_getElem?
  intro i
  rw [doneC_at _ _ _ (by omega), doneC_at _ _ _ (by omega)]
  by_cases e : i = j
  · subst e
    rw [List.getElem?_eq_getElem hj]
    simp [formC_not h]
  · congr 1
    funext c
    by_cases h1 : i < j
    · rw [if_pos h1, if_pos (by omega)]
    · rw [if_neg h1, if_neg (by omega)]
theorem doneC_take {key : ByteArray} {l : List C} {j : Nat} (hj : j < l.length) (h : eqS l[j].nm key = true) : doneC key l (j + 1) = (doneC key l j).set j { l[j] with mu := true } := by
  apply List.ext_getElem?
  intro i
  rw [doneC_at _ _ _ (by omega), List.getElem?_set, doneC_at _ _ _ (by omega)]
  by_cases e : j = i
  · subst e
    rw [if_pos rfl, if_pos (by rw [doneC_len]; exact hj), List.getElem?_eq_getElem hj]
    simp [formC_yes h]
  · rw [if_neg e]
    congr 1
    funext c
    by_cases h1 : i < j
    · rw [if_pos h1, if_pos (by omega)]
    · rw [if_neg h1, if_neg (by omega)]
theorem cellsC_must (l : List C) (j : Nat) (hj : j < l.length) : (cellsC l).set (j * 4 + 2) (.bool true) = cellsC (l.set j { l[j] with mu := true }) := by
  induction l generalizing j with
  | nil => simp at hj
  | cons c r ih =>
    cases j with
    | zero => simp [cellsC_cons]
    | succ j =>
      have := ih j (by simpa using hj)
      rw [cellsC_cons, show (j + 1) * 4 + 2 = j * 4 + 2 + 1 + 1 + 1 + 1 by omega]
      simp only [List.set_cons_succ, List.getElem_cons_succ, cellsC_cons, this]

/-- What keyMust keeps. -/
structure MustI (S : Nat) (W : World) (base : Nat) (t : T) (cv dv : Value) (ps : List Value) (j : Nat) (w : World) : Prop where
  box : w.heap[S]? = some (boxT t.nm cv t.key dv)
  res : w.heap[S + 1]? = some (boxT e0 (.slice none 0 0) e0 (.slice none 0 0))
  own : OwnT w base cv dv { t with cols := doneC t.key t.cols j } ps
  chg : Chg (fun b => cv.ownBlock = some b) W w
  lt : ∀ b, cv.ownBlock = some b → b < S
section
variable {S base : Nat} {W w : World} {t : T} {cv dv : Value} {ps : List Value} {j : Nat}
theorem MustI.cells (h : MustI S W base t cv dv ps j w) : S < w.heap.size ∧ w.cell? ⟨S, 1, none⟩ = some cv ∧ w.cell? ⟨S, 2, none⟩ = some (.string t.key) :=
  ⟨lt_of_heap h.box, nd_cell h.box 1, nd_cell h.box 2⟩
theorem MustI.drew (h : MustI S W base t cv dv ps j w) : MustI S W base t cv dv ps j w.drew :=
  ⟨h.box, h.res, h.own.later (below_drew w), h.chg.drew, h.lt⟩
theorem MustI.skip (h : MustI S W base t cv dv ps j w) (hj : j < t.cols.length) (he : eqS t.cols[j].nm t.key = false) : MustI S W base t cv dv ps (j + 1) w :=
  ⟨h.box, h.res, by rw [doneC_skip hj he]; exact h.own, h.chg, h.lt⟩
theorem OwnT.cset {w : World} {g cap n : Nat} (h : OwnT w base (.slice (some ⟨g, 0, none⟩) n cap) dv t ps) (hn : t.cols.length = n) (hj : j < t.cols.length) : OwnT (w.setCell ⟨g, j * 4 + 2, none⟩ (.bool true)) base (.slice (some ⟨g, 0, none⟩) n cap) dv { t with cols := t.cols.set j { t.cols[j] with mu := true } } ps := by
  have hc := h.c
  rw [hn] at hc
  obtain ⟨h1, h2⟩ := HRow.stored hc (j * 4 + 2) (.bool true)
  rw [cellsC_must _ _ hj] at h1
  refine ⟨?_, h.n, h.d.beside hc (by decide) h2, fun a b c => (h.l a b c).beside hc (by decide) h2⟩
  show HRow _ base 33 4 _ (t.cols.set j _).length (cellsC (t.cols.set j _))
  rw [List.length_set, hn]
  exact h1
theorem MustI.take {g cap n : Nat} (h : MustI S W base t (.slice (some ⟨g, 0, none⟩) n cap) dv ps j w) (hn : t.cols.length = n) (hj : j < t.cols.length) (he : eqS t.cols[j].nm t.key = true) : MustI S W base t (.slice (some ⟨g, 0, none⟩) n cap) dv ps (j + 1) (w.setCell ⟨g, j * 4 + 2, none⟩ (.bool true)) := by
  have hlt := h.lt g rfl
  have hj2 : j < (doneC t.key t.cols j).length := by rw [doneC_len]; exact hj
  have hgj : (doneC t.key t.cols j)[j] = t.cols[j] := by
    have := doneC_at t.key t.cols j (by omega) j
    rw [List.getElem?_eq_getElem hj2, List.getElem?_eq_getElem hj] at this
    simpa using this
  have ho := h.own.cset (j := j) (by show (doneC t.key t.cols j).length = n; rw [doneC_len]; exact hn) hj2
  have ho : OwnT (w.setCell ⟨g, j * 4 + 2, none⟩ (.bool true)) base (.slice (some ⟨g, 0, none⟩) n cap) dv { t with cols := (doneC t.key t.cols j).set j { (doneC t.key t.cols j)[j] with mu := true } } ps := ho
  rw [hgj, ← doneC_take hj he] at ho
  exact ⟨(heap_setCell_other w ⟨g, _, none⟩ S _ (by show S ≠ g; omega)).trans h.box, (heap_setCell_other w ⟨g, _, none⟩ (S + 1) _ (by show S + 1 ≠ g; omega)).trans h.res, ho, h.chg.setCell (p := ⟨g, j * 4 + 2, none⟩) (fun _ => rfl) _, h.lt⟩
theorem MustI.col {g cap n : Nat} (h : MustI S W base t (.slice (some ⟨g, 0, none⟩) n cap) dv ps j w) (hn : t.cols.length = n) (hj : j < t.cols.length) : g < w.heap.size ∧ w.cell? ⟨g, j * 4, none⟩ = some (.string t.cols[j].nm) ∧ (∃ b, w.cell? ⟨g, j * 4 + 2, none⟩ = some (.bool b)) ∧ w.frozen? ⟨g, j * 4 + 2, none⟩ = false := by
  have hc := h.own.c
  have hl : (doneC t.key t.cols j).length = n := by rw [doneC_len]; exact hn
  have hj2 : j < (doneC t.key t.cols j).length := by rw [doneC_len]; exact hj
  have hgj : (doneC t.key t.cols j)[j] = t.cols[j] := by
    have := doneC_at t.key t.cols j (by omega) j
    rw [List.getElem?_eq_getElem hj2, List.getElem?_eq_getElem hj] at this
    simpa using this
  have hc : HRow w base 33 4 (.slice (some ⟨g, 0, none⟩) n cap) (doneC t.key t.cols j).length (cellsC (doneC t.key t.cols j)) := hc
  obtain ⟨c0, _, c2, _⟩ := cellsC_at (doneC t.key t.cols j) j hj2
  rw [hl] at hc
  rw [hgj] at c0
  exact ⟨(hc.lt g rfl).2, hc.cell c0, ⟨_, hc.cell c2⟩, hc.frozenAt _⟩
end

set_option maxRecDepth 100000 in
set_option maxHeartbeats 2000000 in
theorem keyMust_any {t : T} {cv dv : Value} {base : Nat} {ps : List Value} {W : World} (h : OwnT W base cv dv t ps) (hf : t.cols.length ≤ 1000) : Calls Try.prog 42 #[.agg #[.string t.nm, cv, .string t.key, dv]] W fun e w' => e = .returned (.agg #[.string t.nm, cv, .string t.key, dv]) ∧ OwnT w' base cv dv (formT t) ps ∧ Chg (fun b => cv.ownBlock = some b) W w' := by
  obtain ⟨pc, cc, hcv, hc1, hc2⟩ := HRow.isslice h.c
  obtain ⟨p, cap, hdv, hc3, hc4⟩ := HRow.isslice h.d
  obtain ⟨n, hn⟩ : ∃ n, t.cols.length = n := ⟨_, rfl⟩
  obtain ⟨nd, hnd⟩ : ∃ n, t.deps.length = n := ⟨_, rfl⟩
  obtain ⟨S, hS⟩ : ∃ S, W.heap.size = S := ⟨_, rfl⟩
  have hb1 := below_alloc W (boxT t.nm cv t.key dv)
  have hb2 := hb1.alloc hb1.size (boxT e0 (.slice none 0 0) e0 (.slice none 0 0))
  have k0 := alloc_old (u := boxT e0 (.slice none 0 0) e0 (.slice none 0 0)) (heap_alloc_new W (boxT t.nm cv t.key dv))
  have k1 := heap_alloc_new (W.alloc (boxT t.nm cv t.key dv)) (boxT e0 (.slice none 0 0) e0 (.slice none 0 0))
  have hM : MustI S W base t cv dv ps 0 ((W.alloc (boxT t.nm cv t.key dv)).alloc (boxT e0 (.slice none 0 0) e0 (.slice none 0 0))) :=
    ⟨by rw [hS] at k0; exact k0, by rw [World.size_alloc, hS] at k1; exact k1, by rw [doneC_zero]; exact h.later hb2, Chg.of_below hb2, fun b hb => by rw [← hS]; exact (h.c.lt b hb).2⟩
  obtain ⟨w0, hw0⟩ : ∃ w0, (W.alloc (boxT t.nm cv t.key dv)).alloc (boxT e0 (.slice none 0 0) e0 (.slice none 0 0)) = w0 := ⟨_, rfl⟩
  rw [hw0] at hM
  have HW := Lib.hid hw0
  have HS := Lib.hid hS
  rw [hn] at hcv hc1 hf
  rw [hnd] at hdv
  unfold maxLen at hc2
  have HN := Lib.hid (And.intro hn hnd)
  have HM := Lib.hid hM
  obtain ⟨zl, z1, z2⟩ := hM.cells
  subst hcv hdv
  clear h hw0 hS hb1 hb2 k0 k1 hM hn hnd hc3 hc4
  go_enter Try.func42, Try.ntmps42
  go_upto_region 1 with fail
  rw [HW.out, HS.out]
  go_wp2_with fail
  clear z1 z2 zl
  go_loopg [3, 7] (n + 1) (fun gh _ jv w => ∃ (j : Nat), jv = .int .i64 (j : Int) ∧ j ≤ n ∧ n + 1 ≤ j + gh ∧ MustI S W base t (.slice pc n cc) (.slice p nd cap) ps j w)
  case atStart => exact ⟨0, rfl, Nat.zero_le _, by omega, HM.out⟩
  case round =>
    obtain ⟨j, rfl, hj, hg, hK⟩ := hrel
    by_cases hlt : j < n
    · have hjl : j < t.cols.length := by rw [HN.out.1]; exact hlt
      have hcc := hK.own.c
      have hcc : HRow wr base 33 4 (.slice pc n cc) (doneC t.key t.cols j).length (cellsC (doneC t.key t.cols j)) := hcc
      rw [doneC_len, HN.out.1] at hcc
      obtain ⟨g, cc', hgc, _, _⟩ := HRow.slice hcc (by omega)
      obtain ⟨rfl, -, rfl⟩ := Value.slice.inj hgc
      obtain ⟨zl, z1, z2⟩ := hK.cells
      obtain ⟨gl, g0, ⟨b, g2⟩, gf⟩ := hK.col HN.out.1 hjl
      have HK := Lib.hid hK
      have hji : (j : Int) < (n : Int) := by omega
      clear hK hcc
      obtain ⟨c, hcj⟩ : ∃ c, t.cols[j] = c := ⟨_, rfl⟩
      rw [hcj] at g0
      have HC := Lib.hid hcj
      clear hcj
      cases hx : eqS c.nm t.key
      · have HX := Lib.hid hx
        have hx2 : (c.nm.toList == t.key.toList) = false := by rw [eqS_toList]; exact hx
        clear hx
        go_upto_region 4 with fail
        refine Par.wp_region_par 9 [(Value.pointer (some ⟨S, 1, none⟩)), .slice (some ⟨g, 0, none⟩) n cc, (Value.int .i64 ((j : Int))), (Value.pointer (some ⟨g, j * 4, none⟩)), (Value.pointer (some ⟨g, j * 4, none⟩)), (Value.string (c.nm)), (Value.pointer (some ⟨S, 2, none⟩)), (Value.string (t.key)), .bool false] (fun w => w = wr.drew) ?A1 ?hm1 ?hB1 ?hA1 (rfl) ?hop1 ?hT1
        case hm1 => kernel_rfl
        case hB1 => kernel_rfl
        case hA1 =>
          simp only [Par.putA, Par.dstAt, Act.put, List.getElem?_toArray, List.getElem?_cons_zero, List.getElem?_cons_succ, Option.bind_some, List.setIfInBounds_toArray, List.set_cons_zero, List.set_cons_succ, List.getD_cons_zero, List.getD_cons_succ]
          rfl
        case hop1 =>
          simp only [List.take_succ_cons, List.take_zero, Par.GiveAll, and_true]
          refine ⟨fun w' hR => ?_, fun w' hR => ?_, fun w' hR => ?_, fun w' hR => ?_, fun w' hR => ?_, fun w' hR => ?_, fun w' hR => ?_, fun w' hR => ?_, fun w' hR => ?_⟩
          · have HR := Lib.hid hR
            obtain rfl := hR
            simp only [Par.Gives]
            go_simp
            all_goals exact HR.out
          · have HR := Lib.hid hR
            obtain rfl := hR
            simp only [Par.Gives]
            go_simp
            all_goals exact HR.out
          · have HR := Lib.hid hR
            obtain rfl := hR
            simp only [Par.Gives]
            go_simp
            all_goals exact HR.out
          · have HR := Lib.hid hR
            obtain rfl := hR
            simp only [Par.Gives]
            go_simp
            all_goals exact HR.out
          · have HR := Lib.hid hR
            obtain rfl := hR
            simp only [Par.Gives]
            go_simp
            all_goals exact HR.out
          · have HR := Lib.hid hR
            obtain rfl := hR
            simp only [Par.Gives]
            go_simp
            all_goals exact HR.out
          · have HR := Lib.hid hR
            obtain rfl := hR
            simp only [Par.Gives]
            go_simp
            all_goals exact HR.out
          · have HR := Lib.hid hR
            obtain rfl := hR
            simp only [Par.Gives]
            go_simp
            all_goals exact HR.out
          · have HR := Lib.hid hR
            obtain rfl := hR
            simp only [Par.Gives]
            go_simp
            all_goals exact HR.out
        case hT1 =>
          intro w' hR
          simp only [List.drop_succ_cons, List.drop_nil]
          obtain rfl := hR
          go_wp2_with fail
          go_roundg (n - j)
          case measure => omega
          case rel => exact ⟨j + 1, by go_num, by omega, by omega, HK.out.drew.skip hjl (by rw [HC.out]; exact HX.out)⟩
      · have HX := Lib.hid hx
        have hx2 : (c.nm.toList == t.key.toList) = true := by rw [eqS_toList]; exact hx
        clear hx
        go_upto_region 4 with fail
        refine Par.wp_region_par 9 [(Value.pointer (some ⟨S, 1, none⟩)), .slice (some ⟨g, 0, none⟩) n cc, (Value.int .i64 ((j : Int))), (Value.pointer (some ⟨g, j * 4, none⟩)), (Value.pointer (some ⟨g, j * 4, none⟩)), (Value.string (c.nm)), (Value.pointer (some ⟨S, 2, none⟩)), (Value.string (t.key)), .bool true] (fun w => w = wr.drew) ?A2 ?hm2 ?hB2 ?hA2 (rfl) ?hop2 ?hT2
        case hm2 => kernel_rfl
        case hB2 => kernel_rfl
        case hA2 =>
          simp only [Par.putA, Par.dstAt, Act.put, List.getElem?_toArray, List.getElem?_cons_zero, List.getElem?_cons_succ, Option.bind_some, List.setIfInBounds_toArray, List.set_cons_zero, List.set_cons_succ, List.getD_cons_zero, List.getD_cons_succ]
          rfl
        case hop2 =>
          simp only [List.take_succ_cons, List.take_zero, Par.GiveAll, and_true]
          refine ⟨fun w' hR => ?_, fun w' hR => ?_, fun w' hR => ?_, fun w' hR => ?_, fun w' hR => ?_, fun w' hR => ?_, fun w' hR => ?_, fun w' hR => ?_, fun w' hR => ?_⟩
          · have HR := Lib.hid hR
            obtain rfl := hR
            simp only [Par.Gives]
            go_simp
            all_goals exact HR.out
          · have HR := Lib.hid hR
            obtain rfl := hR
            simp only [Par.Gives]
            go_simp
            all_goals exact HR.out
          · have HR := Lib.hid hR
            obtain rfl := hR
            simp only [Par.Gives]
            go_simp
            all_goals exact HR.out
          · have HR := Lib.hid hR
            obtain rfl := hR
            simp only [Par.Gives]
            go_simp
            all_goals exact HR.out
          · have HR := Lib.hid hR
            obtain rfl := hR
            simp only [Par.Gives]
            go_simp
            all_goals exact HR.out
          · have HR := Lib.hid hR
            obtain rfl := hR
            simp only [Par.Gives]
            go_simp
            all_goals exact HR.out
          · have HR := Lib.hid hR
            obtain rfl := hR
            simp only [Par.Gives]
            go_simp
            all_goals exact HR.out
          · have HR := Lib.hid hR
            obtain rfl := hR
            simp only [Par.Gives]
            go_simp
            all_goals exact HR.out
          · have HR := Lib.hid hR
            obtain rfl := hR
            simp only [Par.Gives]
            go_simp
            all_goals exact HR.out
        case hT2 =>
          intro w' hR
          simp only [List.drop_succ_cons, List.drop_nil]
          obtain rfl := hR
          go_wp2_with fail
          go_roundg (n - j)
          case measure => omega
          case rel => exact ⟨j + 1, by go_num, by omega, by omega, HK.out.drew.take HN.out.1 hjl (by rw [HC.out]; exact HX.out)⟩
    · obtain rfl : j = n := by omega
      have hO := hK.own
      have e : doneC t.key t.cols j = t.cols.map (formC t.key) := by rw [← HN.out.1, doneC_all]
      rw [e] at hO
      have hO : OwnT wr base (.slice pc j cc) (.slice p nd cap) (formT t) ps := hO
      have hbox := hK.box
      have hres := hK.res
      have z0 := nd_cell hbox 0
      have z1 := nd_cell hbox 1
      have z2 := nd_cell hbox 2
      have z3 := nd_cell hbox 3
      have zl := lt_of_heap hbox
      have r0 := nd_cell hres 0
      have r1 := nd_cell hres 1
      have r2 := nd_cell hres 2
      have r3 := nd_cell hres 3
      have rf := fun i => frozen_of_row wr (S + 1) i _ _ hres
      have rl := lt_of_heap hres
      have HK := Lib.hid (And.intro hK hO)
      clear hK hO hbox hres e
      go_wp2_with fail
      have hS4 := set4 HK.out.1.res (.string t.nm) (.slice pc j cc) (.string t.key) (.slice p nd cap)
      have hO := set4_other wr (S + 1)
      have ho : ∀ q : Nat, q ≠ S + 1 → ((((wr.setCell ⟨S + 1, 0, none⟩ (.string t.nm)).setCell ⟨S + 1, 1, none⟩ (.slice pc j cc)).setCell ⟨S + 1, 2, none⟩ (.string t.key)).setCell ⟨S + 1, 3, none⟩ (.slice p nd cap)).heap[q]? = wr.heap[q]? := fun q h => hO q h _ _ _ _
      have hns : ∀ (b : Nat), b < W.heap.size → b ≠ S + 1 := fun b h => by rw [HS.out] at h; omega
      have hch : Chg (fun b => (Value.slice pc j cc).ownBlock = some b) W ((((wr.setCell ⟨S + 1, 0, none⟩ (.string t.nm)).setCell ⟨S + 1, 1, none⟩ (.slice pc j cc)).setCell ⟨S + 1, 2, none⟩ (.string t.key)).setCell ⟨S + 1, 3, none⟩ (.slice p nd cap)) :=
        (((HK.out.1.chg.setCell (p := ⟨S + 1, 0, none⟩) (fun h => absurd rfl (hns _ h)) _).setCell (p := ⟨S + 1, 1, none⟩) (fun h => absurd rfl (hns _ h)) _).setCell (p := ⟨S + 1, 2, none⟩) (fun h => absurd rfl (hns _ h)) _).setCell (p := ⟨S + 1, 3, none⟩) (fun h => absurd rfl (hns _ h)) _
      generalize (((wr.setCell _ _).setCell _ _).setCell _ _).setCell _ _ = wz at hS4 hch ho ⊢
      have y0 := nd_cell hS4 0
      have y1 := nd_cell hS4 1
      have y2 := nd_cell hS4 2
      have y3 := nd_cell hS4 3
      refine bodyPost_ret (v := .agg #[.string t.nm, (.slice pc j cc), .string t.key, (.slice p nd cap)]) (by simp [results, Try.results42, go_sem, y0, y1, y2, y3]) rfl ?_
      refine ⟨rfl, ?_, hch⟩
      have hres := HK.out.1.res
      have hq : ∀ {e : TypeId} {s : Nat} {v : Value} {m : Nat} {xs : List Value}, HRow wr base e s v m xs → e ≠ 53 → HRow wz base e s v m xs := fun {e s v m xs} hr he => hr.of (fun k hk => ho k (fun eq => by
        obtain ⟨_, cur, h1⟩ := hr.block k hk
        rw [eq, hres] at h1
        cases h1
        exact he rfl))
      exact ⟨hq HK.out.2.c (by decide), HK.out.2.n, hq HK.out.2.d (by decide), fun a b c => hq (HK.out.2.l a b c) (by decide)⟩
end Go.Proofs.Ytcgceigcegddlaa
