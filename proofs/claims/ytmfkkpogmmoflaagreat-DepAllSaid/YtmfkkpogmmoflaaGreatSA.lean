/- The reference's Form. The reference's Compare, EqPath, of ways that are the same. -/
import Derived.Test.YtmfkkpogmmoflaaGreatLS
import Derived.Laws.Cover1
namespace Go.Proofs.YtmfkkpogmmoflaaGreat
open Go Go.RowKit Go.Proofs

/-- What Form keeps. -/
structure FormI (S : Nat) (W : World) (t : T) (cv dv : Value) (j : Nat) (w : World) : Prop where
  box : w.heap[S]? = some (boxT t.nm cv t.key dv)
  res : w.heap[S + 1]? = some (boxT e0 (.slice none 0 0) e0 (.slice none 0 0))
  c : HRow w (S + 2) 54 4 cv t.cols.length (cellsC (doneC t.key t.cols j))
  below : Below S W w
section
variable {S : Nat} {W w w' : World} {t : T} {cv dv : Value} {j : Nat}
theorem FormI.sz (h : FormI S W t cv dv j w) : S + 2 ≤ w.heap.size := lt_of_heap h.res
theorem FormI.on (h : FormI S W t cv dv j w) (hb : Below w.heap.size w w') : FormI S W t cv dv j w' :=
  ⟨heap_on hb h.box, heap_on hb h.res, h.c.later hb, h.below.trans (hb.mono (by have := h.sz; omega))⟩
theorem FormI.cells (h : FormI S W t cv dv j w) : S < w.heap.size ∧ w.cell? ⟨S, 0, none⟩ = some (.string t.nm) ∧ w.cell? ⟨S, 1, none⟩ = some cv ∧ w.cell? ⟨S, 2, none⟩ = some (.string t.key) ∧ w.cell? ⟨S, 3, none⟩ = some dv :=
  ⟨lt_of_heap h.box, nd_cell h.box 0, nd_cell h.box 1, nd_cell h.box 2, nd_cell h.box 3⟩
theorem FormI.skip (h : FormI S W t cv dv j w) (hj : j < t.cols.length) (he : eqS t.cols[j].nm t.key = false) : FormI S W t cv dv (j + 1) w :=
  ⟨h.box, h.res, by rw [doneC_skip hj he]; exact h.c, h.below⟩
theorem doneC_get (key : ByteArray) (l : List C) (j : Nat) (hj : j < l.length) (h : j < (doneC key l j).length) : (doneC key l j)[j] = l[j] := by
  have := doneC_at key l j (by omega) j
  rw [List.getElem?_eq_getElem h, List.getElem?_eq_getElem hj] at this
  simpa using this
theorem FormI.take {g cap n : Nat} (h : FormI S W t (.slice (some ⟨g, 0, none⟩) n cap) dv j w) (hn : t.cols.length = n) (hj : j < t.cols.length) (he : eqS t.cols[j].nm t.key = true) : FormI S W t (.slice (some ⟨g, 0, none⟩) n cap) dv (j + 1) (w.setCell ⟨g, j * 4 + 2, none⟩ (.bool true)) := by
  have hc := h.c
  rw [hn] at hc
  have hlt := (hc.lt g rfl).1
  have hj2 : j < (doneC t.key t.cols j).length := by rw [doneC_len]; exact hj
  obtain ⟨h1, h2⟩ := HRow.stored hc (j * 4 + 2) (.bool true)
  rw [cellsC_must _ _ hj2, doneC_get _ _ _ hj hj2, ← doneC_take hj he] at h1
  exact ⟨(heap_setCell_other w ⟨g, _, none⟩ S _ (by show S ≠ g; omega)).trans h.box, (heap_setCell_other w ⟨g, _, none⟩ (S + 1) _ (by show S + 1 ≠ g; omega)).trans h.res, by rw [hn]; exact h1, h.below.setCell (p := ⟨g, j * 4 + 2, none⟩) (by show S ≤ g; omega) _⟩
theorem FormI.col {g cap n : Nat} (h : FormI S W t (.slice (some ⟨g, 0, none⟩) n cap) dv j w) (hn : t.cols.length = n) (hj : j < t.cols.length) : g < w.heap.size ∧ w.cell? ⟨g, j * 4, none⟩ = some (.string t.cols[j].nm) ∧ (∃ b, w.cell? ⟨g, j * 4 + 2, none⟩ = some (.bool b)) ∧ w.frozen? ⟨g, j * 4 + 2, none⟩ = false := by
  have hc := h.c
  rw [hn] at hc
  have hj2 : j < (doneC t.key t.cols j).length := by rw [doneC_len]; exact hj
  obtain ⟨c0, _, c2, _⟩ := cellsC_at (doneC t.key t.cols j) j hj2
  rw [doneC_get _ _ _ hj hj2] at c0
  exact ⟨(hc.lt g rfl).2, hc.cell c0, ⟨_, hc.cell c2⟩, hc.frozenAt _⟩
end
/-- append of columns to none. -/
theorem app_cols {y : World} {base : Nat} {v : Value} {l : List C} (h : RdC y v l) (hl : l.length ≤ 1000) (hb : base ≤ y.heap.size) (h0 : 0 < l.length) : ∃ g cap w', (Builtin.append_ #[43, 43] 43 #[.slice none 0 0, v]).run Tryz.prog y = .ok (.slice (some ⟨g, 0, none⟩) l.length cap) w' ∧
    HRow w' base 54 4 (.slice (some ⟨g, 0, none⟩) l.length cap) l.length (cellsC l) ∧ Below y.heap.size y w' := by
  obtain ⟨p, cap, rfl, _, _⟩ := h.slice
  obtain ⟨b, off, rfl, hb2, hcell⟩ := Rd.at h h0
  obtain ⟨i0, hi0, hz0, hz1, hz2⟩ := info_parts info43
  obtain ⟨g, cap', w', h1, h2, h3, h4⟩ := run_append_has (P := Tryz.prog) y y.heap.size 43 43 54 i0 _ 4 48 Tryz.underlying43 hi0 hz0 hz1 hz2 rfl (by decide) (HRow.nil (w := y) (base := y.heap.size)) ⟨b, off, none⟩ l.length cap (cellsC l) (cellsC_len l) (fun j u hj => by
    rw [Addr.add_lit]; exact hcell j u hj) (one_cellsC l) h0 (by unfold maxLen; omega) (by omega) (Nat.le_refl _)
  rw [Nat.zero_add, List.nil_append] at *
  exact ⟨g, cap', w', h1, h2.mono hb, h3.os, h3.tape, h3.output, h3.size, fun q hq => h3.block q hq (by simp [Value.ownBlock])⟩

set_option maxRecDepth 100000 in
set_option maxHeartbeats 2000000 in
theorem rform_any {t : T} {cv dv : Value} {W : World} (h : RdT W cv dv t) (hf : t.cols.length ≤ 1000) (h0 : 0 < t.cols.length) : Calls Tryz.prog 23 #[.agg #[.string t.nm, cv, .string t.key, dv]] W fun e w' => ∃ p1 c1, e = .returned (.agg #[.string t.nm, .slice p1 t.cols.length c1, .string t.key, dv]) ∧ RdT w' (.slice p1 t.cols.length c1) dv (formT t) ∧ Below W.heap.size W w' := by
  obtain ⟨pc, cc, hcv, hc1, hc2⟩ := h.c.slice
  obtain ⟨p, cap, hdv, hc3, hc4⟩ := h.d.slice
  obtain ⟨n, hn⟩ : ∃ n, t.cols.length = n := ⟨_, rfl⟩
  obtain ⟨nd, hnd⟩ : ∃ n, t.deps.length = n := ⟨_, rfl⟩
  obtain ⟨S, hS⟩ : ∃ S, W.heap.size = S := ⟨_, rfl⟩
  have hb1 := below_alloc W (boxT t.nm cv t.key dv)
  have hb2 := hb1.alloc hb1.size (boxT e0 (.slice none 0 0) e0 (.slice none 0 0))
  have k0 := alloc_old (u := boxT e0 (.slice none 0 0) e0 (.slice none 0 0)) (heap_alloc_new W (boxT t.nm cv t.key dv))
  have k1 := heap_alloc_new (W.alloc (boxT t.nm cv t.key dv)) (boxT e0 (.slice none 0 0) e0 (.slice none 0 0))
  have hap := app_cols (base := S + 2) (h.later hb2).c hf (by rw [World.size_alloc, World.size_alloc, hS]; exact Nat.le_refl _) h0
  rw [hS] at k0
  rw [World.size_alloc, hS] at k1
  have hsz : ((W.alloc (boxT t.nm cv t.key dv)).alloc (boxT e0 (.slice none 0 0) e0 (.slice none 0 0))).heap.size = S + 2 := by rw [World.size_alloc, World.size_alloc, hS]
  obtain ⟨w0, hw0⟩ : ∃ w0, (W.alloc (boxT t.nm cv t.key dv)).alloc (boxT e0 (.slice none 0 0) e0 (.slice none 0 0)) = w0 := ⟨_, rfl⟩
  rw [hw0] at k0 k1 hb2 hap hsz
  rw [hsz, hn] at hap
  rw [hS] at hb2
  rw [hnd] at hdv hc3
  rw [hn] at hcv h0 hf
  unfold maxLen at hc4
  obtain ⟨g, c1, w1, hrun, hr, hb⟩ := hap
  have hbx := (hb.block S (by omega)).trans k0
  have hrs := (hb.block (S + 1) (by omega)).trans k1
  have hI : FormI S W t (.slice (some ⟨g, 0, none⟩) n c1) dv 0 (w1.setCell ⟨S, 1, none⟩ (.slice (some ⟨g, 0, none⟩) n c1)) := by
    have hne : ∀ (q : Nat), q ≠ S → (w1.setCell ⟨S, 1, none⟩ (.slice (some ⟨g, 0, none⟩) n c1)).heap[q]? = w1.heap[q]? := fun q h => heap_setCell_other w1 ⟨S, 1, none⟩ q _ h
    refine ⟨heap_setCell_same w1 S 1 _ _ _ hbx, (hne _ (by omega)).trans hrs, ?_, (hb2.trans (hb.mono (by omega))).setCell (p := ⟨S, 1, none⟩) (Nat.le_refl _) _⟩
    rw [hn, doneC_zero]
    exact hr.of (fun k hk => hne k (by have := (hr.lt k hk).1; omega))
  have HI := Lib.hid hI
  have HW := Lib.hid hw0
  have HS := Lib.hid hS
  have HN := Lib.hid (And.intro hn (And.intro hnd h.d))
  have z1 := nd_cell k0 1
  have zl := lt_of_heap k0
  have y1 := nd_cell hbx 1
  have yf := frozen_of_row w1 S 1 _ _ hbx
  have yl := lt_of_heap hbx
  subst hcv hdv
  clear h hw0 hS k0 k1 hb1 hb2 hsz hr hb hbx hrs hI hn hnd
  go_enter Tryz.func23, Tryz.ntmps23
  go_upto_region 1 with fail
  rw [HW.out, HS.out]
  go_upto_region 2 with (at_builtin; refine wpList_append_run rfl (.const (.slice none 0 0)) (.tmp 5) 43 rfl rfl rfl hrun ?_)
  obtain ⟨y2, hy2⟩ : ∃ y2, w1.setCell ⟨S, 1, none⟩ (.slice (some ⟨g, 0, none⟩) n c1) = y2 := ⟨_, rfl⟩
  rw [hy2] at HI ⊢
  clear hy2 y1 yf yl z1 zl hrun
  go_wp2_with fail
  go_loopg [3] (n + 1) (fun gh jv w => ∃ (j : Nat), jv = .int .i64 (j : Int) ∧ j ≤ n ∧ n + 1 ≤ j + gh ∧ FormI S W t (.slice (some ⟨g, 0, none⟩) n c1) (.slice p nd cap) j w)
  case atStart => exact ⟨0, rfl, Nat.zero_le _, by omega, HI.out⟩
  case round =>
    obtain ⟨j, rfl, hj, hg, hK⟩ := hrel
    obtain ⟨zl, _, z1, z2, _⟩ := hK.cells
    by_cases hlt : j < n
    · have hjl : j < t.cols.length := by rw [HN.out.1]; exact hlt
      obtain ⟨gl, g0, ⟨b, g2⟩, gf⟩ := hK.col HN.out.1 hjl
      have HK := Lib.hid hK
      have hji : (j : Int) < (n : Int) := by omega
      clear hK
      obtain ⟨c, hcj⟩ : ∃ c, t.cols[j] = c := ⟨_, rfl⟩
      rw [hcj] at g0
      have HC := Lib.hid hcj
      clear hcj
      go_upto_region 5 with fail
      cases hx : eqS c.nm t.key
      · have HX := Lib.hid hx
        have hx2 : (c.nm.toList == t.key.toList) = false := by rw [eqS_toList]; exact hx
        clear hx
        refine Par.wp_region_par 9 [(Value.pointer (some ⟨S, 1, none⟩)), .slice (some ⟨g, 0, none⟩) n c1, (Value.int .i64 ((j : Int))), (Value.pointer (some ⟨g, j * 4, none⟩)), (Value.pointer (some ⟨g, j * 4, none⟩)), (Value.string (c.nm)), (Value.pointer (some ⟨S, 2, none⟩)), (Value.string (t.key)), .bool false] (fun w => w = wr.drew) ?A1 ?hm1 ?hB1 ?hA1 (rfl) ?hop1 ?hT1
        case hm1 => kernel_rfl
        case hB1 => kernel_rfl
        case hA1 =>
          simp only [Par.putA, Par.dstAt, Act.put, List.getElem?_toArray, List.getElem?_cons_zero, List.getElem?_cons_succ, Option.bind_some, List.setIfInBounds_toArray, List.set_cons_zero, List.set_cons_succ, List.getD_cons_zero, List.getD_cons_succ]
          rfl
        case hop1 =>
          simp only [List.take_succ_cons, List.take_zero, Par.GiveAll, and_true]
          refine ⟨fun w' hR => ?_, fun w' hR => ?_, fun w' hR => ?_, fun w' hR => ?_, fun w' hR => ?_, fun w' hR => ?_, fun w' hR => ?_, fun w' hR => ?_, fun w' hR => ?_⟩
          · have HR := Lib.hid hR
            obtain rfl := hR
            simp only [Par.Gives]
            go_simp
            all_goals exact HR.out
          · have HR := Lib.hid hR
            obtain rfl := hR
            simp only [Par.Gives]
            go_simp
            all_goals exact HR.out
          · have HR := Lib.hid hR
            obtain rfl := hR
            simp only [Par.Gives]
            go_simp
            all_goals exact HR.out
          · have HR := Lib.hid hR
            obtain rfl := hR
            simp only [Par.Gives]
            go_simp
            all_goals exact HR.out
          · have HR := Lib.hid hR
            obtain rfl := hR
            simp only [Par.Gives]
            go_simp
            all_goals exact HR.out
          · have HR := Lib.hid hR
            obtain rfl := hR
            simp only [Par.Gives]
            go_simp
            all_goals exact HR.out
          · have HR := Lib.hid hR
            obtain rfl := hR
            simp only [Par.Gives]
            go_simp
            all_goals exact HR.out
          · have HR := Lib.hid hR
            obtain rfl := hR
            simp only [Par.Gives]
            go_simp
            all_goals exact HR.out
          · have HR := Lib.hid hR
            obtain rfl := hR
            simp only [Par.Gives]
            go_simp
            all_goals exact HR.out
        case hT1 =>
          intro w' hR
          simp only [List.drop_succ_cons, List.drop_nil]
          obtain rfl := hR
          go_wp2_with fail
          go_roundg (n - j)
          case measure => omega
          case rel => exact ⟨j + 1, by go_num, by omega, by omega, (HK.out.on (below_drew wr)).skip hjl (by rw [HC.out]; exact HX.out)⟩
      · have HX := Lib.hid hx
        have hx2 : (c.nm.toList == t.key.toList) = true := by rw [eqS_toList]; exact hx
        clear hx
        refine Par.wp_region_par 9 [(Value.pointer (some ⟨S, 1, none⟩)), .slice (some ⟨g, 0, none⟩) n c1, (Value.int .i64 ((j : Int))), (Value.pointer (some ⟨g, j * 4, none⟩)), (Value.pointer (some ⟨g, j * 4, none⟩)), (Value.string (c.nm)), (Value.pointer (some ⟨S, 2, none⟩)), (Value.string (t.key)), .bool true] (fun w => w = wr.drew) ?A2 ?hm2 ?hB2 ?hA2 (rfl) ?hop2 ?hT2
        case hm2 => kernel_rfl
        case hB2 => kernel_rfl
        case hA2 =>
          simp only [Par.putA, Par.dstAt, Act.put, List.getElem?_toArray, List.getElem?_cons_zero, List.getElem?_cons_succ, Option.bind_some, List.setIfInBounds_toArray, List.set_cons_zero, List.set_cons_succ, List.getD_cons_zero, List.getD_cons_succ]
          rfl
        case hop2 =>
          simp only [List.take_succ_cons, List.take_zero, Par.GiveAll, and_true]
          refine ⟨fun w' hR => ?_, fun w' hR => ?_, fun w' hR => ?_, fun w' hR => ?_, fun w' hR => ?_, fun w' hR => ?_, fun w' hR => ?_, fun w' hR => ?_, fun w' hR => ?_⟩
          · have HR := Lib.hid hR
            obtain rfl := hR
            simp only [Par.Gives]
            go_simp
            all_goals exact HR.out
          · have HR := Lib.hid hR
            obtain rfl := hR
            simp only [Par.Gives]
            go_simp
            all_goals exact HR.out
          · have HR := Lib.hid hR
            obtain rfl := hR
            simp only [Par.Gives]
            go_simp
            all_goals exact HR.out
          · have HR := Lib.hid hR
            obtain rfl := hR
            simp only [Par.Gives]
            go_simp
            all_goals exact HR.out
          · have HR := Lib.hid hR
            obtain rfl := hR
            simp only [Par.Gives]
            go_simp
            all_goals exact HR.out
          · have HR := Lib.hid hR
            obtain rfl := hR
            simp only [Par.Gives]
            go_simp
            all_goals exact HR.out
          · have HR := Lib.hid hR
            obtain rfl := hR
            simp only [Par.Gives]
            go_simp
            all_goals exact HR.out
          · have HR := Lib.hid hR
            obtain rfl := hR
            simp only [Par.Gives]
            go_simp
            all_goals exact HR.out
          · have HR := Lib.hid hR
            obtain rfl := hR
            simp only [Par.Gives]
            go_simp
            all_goals exact HR.out
        case hT2 =>
          intro w' hR
          simp only [List.drop_succ_cons, List.drop_nil]
          obtain rfl := hR
          go_wp2_with fail
          go_roundg (n - j)
          case measure => omega
          case rel => exact ⟨j + 1, by go_num, by omega, by omega, (HK.out.on (below_drew wr)).take HN.out.1 hjl (by rw [HC.out]; exact HX.out)⟩
    · obtain rfl : j = n := by omega
      have hbox := hK.box
      have hres := hK.res
      have z0 := nd_cell hbox 0
      have z1 := nd_cell hbox 1
      have z2 := nd_cell hbox 2
      have z3 := nd_cell hbox 3
      have zl := lt_of_heap hbox
      have r0 := nd_cell hres 0
      have r1 := nd_cell hres 1
      have r2 := nd_cell hres 2
      have r3 := nd_cell hres 3
      have rf := fun i => frozen_of_row wr (S + 1) i _ _ hres
      have rl := lt_of_heap hres
      have HK := Lib.hid hK
      clear hK hbox hres
      go_wp2_with fail
      have hS4 := set4 HK.out.res (.string t.nm) (.slice (some ⟨g, 0, none⟩) j c1) (.string t.key) (.slice p nd cap)
      have hBx := below_set4 HK.out.below (show S ≤ S + 1 by omega) (.string t.nm) (.slice (some ⟨g, 0, none⟩) j c1) (.string t.key) (.slice p nd cap)
      have hO := set4_other wr (S + 1)
      have ho : ∀ q : Nat, q ≠ S + 1 → ((((wr.setCell ⟨S + 1, 0, none⟩ (.string t.nm)).setCell ⟨S + 1, 1, none⟩ (.slice (some ⟨g, 0, none⟩) j c1)).setCell ⟨S + 1, 2, none⟩ (.string t.key)).setCell ⟨S + 1, 3, none⟩ (.slice p nd cap)).heap[q]? = wr.heap[q]? := fun q h => hO q h _ _ _ _
      generalize (((wr.setCell _ _).setCell _ _).setCell _ _).setCell _ _ = wz at hS4 hBx ho ⊢
      have y0 := nd_cell hS4 0
      have y1 := nd_cell hS4 1
      have y2 := nd_cell hS4 2
      have y3 := nd_cell hS4 3
      refine bodyPost_ret (v := .agg #[.string t.nm, (.slice (some ⟨g, 0, none⟩) j c1), .string t.key, (.slice p nd cap)]) (by simp [results, Tryz.results23, go_sem, y0, y1, y2, y3]) rfl ?_
      rw [HN.out.1, HS.out]
      refine ⟨_, _, rfl, ⟨?_, HN.out.2.2.later (by rw [HS.out]; exact hBx)⟩, hBx⟩
      have hc := HK.out.c
      have e : doneC t.key t.cols j = t.cols.map (formC t.key) := by rw [← HN.out.1, doneC_all]
      rw [e, HN.out.1] at hc
      have hc2 := HRow.rd (hc.of (fun k hk => ho k (by have := (hc.lt k hk).1; omega))) (by decide) (by decide)
      show Rd wz _ (t.cols.map (formC t.key)).length 4 _
      rw [List.length_map, HN.out.1]
      exact hc2
end Go.Proofs.YtmfkkpogmmoflaaGreat
namespace Go.Proofs.YtmfkkpogmmoflaaGreat
open Go Go.RowKit Go.Proofs

theorem bl_self : ∀ l : List UInt8, Op.bytesLess l l = false
  | [] => rfl
  | a :: r => by
    unfold Op.bytesLess
    rw [bl_self r]
    simp
set_option maxRecDepth 100000 in
set_option maxHeartbeats 2000000 in
theorem compare_same {l : List ByteArray} {v u : Value} {W : World} (h : RdS W v l) (k : RdS W u l) : Calls Tryz.prog 42 #[v, u] W fun e w' => e = .returned (.int .i64 0) ∧ Below W.heap.size W w' := by
  obtain ⟨p, cap, rfl, hc, hm⟩ := h.slice
  obtain ⟨q, cq, rfl, hc2, hm2⟩ := k.slice
  obtain ⟨n, hn⟩ : ∃ n, l.length = n := ⟨_, rfl⟩
  unfold maxLen at hm
  rw [hn] at hc hc2 h k ⊢
  have HR := Lib.hid (And.intro h k)
  have HN := Lib.hid hn
  clear h k hn
  go_enter Tryz.func42, Tryz.ntmps42
  go_wp2_with fail
  go_loopg [5] (n + 1) (fun gh jv w => ∃ (j : Nat), jv = .int .i64 (j : Int) ∧ j ≤ n ∧ n + 1 ≤ j + gh ∧ Below W.heap.size W w)
  case atStart => exact ⟨0, rfl, Nat.zero_le _, by omega, Below.refl _ _⟩
  case round =>
    obtain ⟨j, rfl, hj, hg, hB⟩ := hrel
    by_cases hlt : j < n
    · have hjl : j < l.length := by rw [HN.out]; exact hlt
      obtain ⟨b1, o1, rfl, hb1, _⟩ := RdS.word (HR.out.1.later hB) hjl
      obtain ⟨b2, o2, rfl, hb2, _⟩ := RdS.word (HR.out.2.later hB) hjl
      obtain ⟨x, hx⟩ : ∃ x, l[j] = x := ⟨_, rfl⟩
      have HX : Hid (∀ w, Below W.heap.size W w → w.cell? ⟨b1, o1 + j, none⟩ = some (.string x) ∧ w.cell? ⟨b2, o2 + j, none⟩ = some (.string x)) := Lib.hid (fun w hb => by
        rw [← hx]
        exact ⟨(RdS.wordAt (HR.out.1.later hb) hjl).2, (RdS.wordAt (HR.out.2.later hb) hjl).2⟩)
      have hji : (j : Int) < (n : Int) := by omega
      have HB := Lib.hid hB
      clear hB hb1 hb2 hx
      go_upto_region 4 with fail
      refine Par.wp_region_par 9 [.slice (some ⟨b1, o1, none⟩) n cap, .int .i64 j, (Value.pointer (some ⟨b1, o1 + j, none⟩)), .string x, .slice (some ⟨b2, o2, none⟩) n cq, .int .i64 j, (Value.pointer (some ⟨b2, o2 + j, none⟩)), .string x, .bool false] (fun w => Below W.heap.size W w) ?A3 ?hm3 ?hB3 ?hA3 (HB.out.drew) ?hop3 ?hT3
      case hm3 => kernel_rfl
      case hB3 => kernel_rfl
      case hA3 =>
        simp only [Par.putA, Par.dstAt, Act.put, List.getElem?_toArray, List.getElem?_cons_zero, List.getElem?_cons_succ, Option.bind_some, List.setIfInBounds_toArray, List.set_cons_zero, List.set_cons_succ, List.getD_cons_zero, List.getD_cons_succ]
        rfl
      case hop3 =>
        simp only [List.take_succ_cons, List.take_zero, Par.GiveAll, and_true]
        refine ⟨fun w' hR => ?_, fun w' hR => ?_, fun w' hR => ?_, fun w' hR => ?_, fun w' hR => ?_, fun w' hR => ?_, fun w' hR => ?_, fun w' hR => ?_, fun w' hR => ?_⟩
        · have HR := Lib.hid hR
          clear hR
          simp only [Par.Gives]
          go_simp
          all_goals exact HR.out
        · have HR := Lib.hid hR
          clear hR
          simp only [Par.Gives]
          go_simp
          all_goals exact HR.out
        · have HR := Lib.hid hR
          clear hR
          simp only [Par.Gives]
          go_simp
          all_goals exact HR.out
        · have HR := Lib.hid hR
          have k := (HX.out w' hR).1
          clear hR
          simp only [Par.Gives]
          go_simp
          all_goals exact HR.out
        · have HR := Lib.hid hR
          clear hR
          simp only [Par.Gives]
          go_simp
          all_goals exact HR.out
        · have HR := Lib.hid hR
          clear hR
          simp only [Par.Gives]
          go_simp
          all_goals exact HR.out
        · have HR := Lib.hid hR
          clear hR
          simp only [Par.Gives]
          go_simp
          all_goals exact HR.out
        · have HR := Lib.hid hR
          have k := (HX.out w' hR).2
          clear hR
          simp only [Par.Gives]
          go_simp
          all_goals exact HR.out
        · have HR := Lib.hid hR
          have k := bl_self x.toList
          clear hR
          simp only [Par.Gives]
          go_simp
          all_goals exact HR.out
      case hT3 =>
        intro w' hR
        simp only [List.drop_succ_cons, List.drop_nil]
        have HR1 := Lib.hid hR
        clear hR
        go_upto_region 6 with fail
        refine Par.wp_region_par 9 [.slice (some ⟨b1, o1, none⟩) n cap, .int .i64 j, (Value.pointer (some ⟨b1, o1 + j, none⟩)), .string x, .slice (some ⟨b2, o2, none⟩) n cq, .int .i64 j, (Value.pointer (some ⟨b2, o2 + j, none⟩)), .string x, .bool false] (fun w => Below W.heap.size W w) ?A4 ?hm4 ?hB4 ?hA4 (HR1.out.drew) ?hop4 ?hT4
        case hm4 => kernel_rfl
        case hB4 => kernel_rfl
        case hA4 =>
          simp only [Par.putA, Par.dstAt, Act.put, List.getElem?_toArray, List.getElem?_cons_zero, List.getElem?_cons_succ, Option.bind_some, List.setIfInBounds_toArray, List.set_cons_zero, List.set_cons_succ, List.getD_cons_zero, List.getD_cons_succ]
          rfl
        case hop4 =>
          simp only [List.take_succ_cons, List.take_zero, Par.GiveAll, and_true]
          refine ⟨fun w' hR => ?_, fun w' hR => ?_, fun w' hR => ?_, fun w' hR => ?_, fun w' hR => ?_, fun w' hR => ?_, fun w' hR => ?_, fun w' hR => ?_, fun w' hR => ?_⟩
          · have HR := Lib.hid hR
            clear hR
            simp only [Par.Gives]
            go_simp
            all_goals exact HR.out
          · have HR := Lib.hid hR
            clear hR
            simp only [Par.Gives]
            go_simp
            all_goals exact HR.out
          · have HR := Lib.hid hR
            clear hR
            simp only [Par.Gives]
            go_simp
            all_goals exact HR.out
          · have HR := Lib.hid hR
            have k := (HX.out w' hR).1
            clear hR
            simp only [Par.Gives]
            go_simp
            all_goals exact HR.out
          · have HR := Lib.hid hR
            clear hR
            simp only [Par.Gives]
            go_simp
            all_goals exact HR.out
          · have HR := Lib.hid hR
            clear hR
            simp only [Par.Gives]
            go_simp
            all_goals exact HR.out
          · have HR := Lib.hid hR
            clear hR
            simp only [Par.Gives]
            go_simp
            all_goals exact HR.out
          · have HR := Lib.hid hR
            have k := (HX.out w' hR).2
            clear hR
            simp only [Par.Gives]
            go_simp
            all_goals exact HR.out
          · have HR := Lib.hid hR
            have k := bl_self x.toList
            clear hR
            simp only [Par.Gives]
            go_simp
            all_goals exact HR.out
        case hT4 =>
          intro w' hR
          simp only [List.drop_succ_cons, List.drop_nil]
          have HR2 := Lib.hid hR
          clear hR
          go_wp2_with fail
          go_roundg (n - j)
          case measure => omega
          case rel => exact ⟨j + 1, by go_num, by omega, by omega, HR2.out⟩
    · obtain rfl : j = n := by omega
      go_wp2_with fail
      go_ret
      exact ⟨rfl, hB⟩
theorem eqPath_same {l : List ByteArray} {v u : Value} {W : World} (h : RdS W v l) (k : RdS W u l) : Calls Tryz.prog 29 #[v, u] W fun e w' => e = .returned (.bool true) ∧ Below W.heap.size W w' := by
  have hc := compare_same h k
  obtain ⟨p, cap, rfl, _, _⟩ := h.slice
  obtain ⟨q, cq, rfl, _, _⟩ := k.slice
  clear h k
  go_enter Tryz.func29, Tryz.ntmps29
  go_wp2_with (go_at_call 42; (with_reducible refine hc.mono ?_); rintro e w1 ⟨rfl, hb⟩)
  go_ret
  exact ⟨rfl, hb⟩
end Go.Proofs.YtmfkkpogmmoflaaGreat
