/- The reference's EqTable, of tables that are the same. -/
import Derived.Test.YtbhcmmkobadmnaaSB
import Derived.Test.YtbhcmmkobadmnaaPar4
namespace Go.Proofs.Ytbhcmmkobadmnaa
open Go Go.RowKit Go.Proofs

abbrev zC : Obj := .cells #[.string e0, .int .i64 0, .bool false, .string e0] 43
abbrev oC (c : C) : Obj := .cells #[.string c.nm, .int .i64 c.kd, .bool c.mu, .string c.tgt] 43
/-- What holds where two columns are read into two variables. -/
structure Je (w0 : World) (E : Nat → Value) (c : C) (l : Nat → Bool) (vs : Nat → Value) (w : World) : Prop where
  b : Below w0.heap.size w0 w
  ev : ∀ j, j < 10 → l j = true → vs j = E j
  p10 : l 10 = true → ∃ g, vs 10 = (Value.pointer (some ⟨g, 0, none⟩)) ∧ w0.heap.size ≤ g ∧ w.heap[g]? = some (if l 12 = true then oC c else zC)
  p11 : l 11 = true → ∃ g, vs 11 = (Value.pointer (some ⟨g, 0, none⟩)) ∧ w0.heap.size ≤ g ∧ w.heap[g]? = some zC
  ne : l 10 = true → l 11 = true → vs 10 ≠ vs 11
section
open Par
variable {w0 w : World} {E : Nat → Value} {c : C} {l : Nat → Bool} {vs : Nat → Value}
theorem upB_ne {l : Nat → Bool} {i j : Nat} (h : j ≠ i) : upB l i j = l j := by simp [upB, h]
theorem upV_ne {vs : Nat → Value} {i j : Nat} {v : Value} (h : j ≠ i) : upV vs i v j = vs j := by simp [upV, h]
theorem upB_eq {l : Nat → Bool} {i : Nat} : upB l i i = true := by simp [upB]
theorem upV_eq {vs : Nat → Value} {i : Nat} {v : Value} : upV vs i v i = v := by simp [upV]
theorem Je.pure (h : Je w0 E c l vs w) (i : Nat) (hi : i < 10) : Je w0 E c (upB l i) (upV vs i (E i)) w := by
  refine ⟨h.b, fun j hj hl => ?_, fun hl => ?_, fun hl => ?_, fun h1 h2 => ?_⟩
  · by_cases e : j = i
    · subst e; rw [upV_eq]
    · rw [upV_ne e]; rw [upB_ne e] at hl; exact h.ev j hj hl
  · rw [upB_ne (by omega)] at hl ⊢
    rw [upV_ne (by omega)]; exact h.p10 hl
  · rw [upB_ne (by omega)] at hl
    rw [upV_ne (by omega)]; exact h.p11 hl
  · rw [upB_ne (by omega)] at h1 h2
    rw [upV_ne (by omega), upV_ne (by omega)]; exact h.ne h1 h2
theorem Je.new10 (h : Je w0 E c l vs w) (h12 : l 12 = false) : Je w0 E c (upB l 10) (upV vs 10 (Value.pointer (some ⟨w.heap.size, 0, none⟩))) (w.alloc zC) := by
  refine ⟨h.b.alloc h.b.size _, fun j hj hl => ?_, fun _ => ⟨_, upV_eq, h.b.size, ?_⟩, fun hl => ?_, fun _ h2 => ?_⟩
  · rw [upV_ne (by omega)]; rw [upB_ne (by omega)] at hl; exact h.ev j hj hl
  · rw [upB_ne (by decide), h12]; exact heap_alloc_new w _
  · rw [upB_ne (by decide)] at hl
    obtain ⟨g, a, b, d⟩ := h.p11 hl
    exact ⟨g, by rw [upV_ne (by decide)]; exact a, b, alloc_old d⟩
  · rw [upB_ne (by decide)] at h2
    obtain ⟨g, a, b, d⟩ := h.p11 h2
    rw [upV_eq, upV_ne (by decide), a]
    intro e
    have hlt := lt_of_heap d
    simp only [Value.pointer.injEq, Option.some.injEq, Addr.mk.injEq, and_true] at e
    omega
theorem Je.new11 (h : Je w0 E c l vs w) : Je w0 E c (upB l 11) (upV vs 11 (Value.pointer (some ⟨w.heap.size, 0, none⟩))) (w.alloc zC) := by
  refine ⟨h.b.alloc h.b.size _, fun j hj hl => ?_, fun hl => ?_, fun _ => ⟨_, upV_eq, h.b.size, heap_alloc_new w _⟩, fun h2 _ => ?_⟩
  · rw [upV_ne (by omega)]; rw [upB_ne (by omega)] at hl; exact h.ev j hj hl
  · rw [upB_ne (by decide)] at hl ⊢
    obtain ⟨g, a, b, d⟩ := h.p10 hl
    exact ⟨g, by rw [upV_ne (by decide)]; exact a, b, alloc_old d⟩
  · rw [upB_ne (by decide)] at h2
    obtain ⟨g, a, b, d⟩ := h.p10 h2
    rw [upV_eq, upV_ne (by decide), a]
    intro e
    have hlt := lt_of_heap d
    simp only [Value.pointer.injEq, Option.some.injEq, Addr.mk.injEq, and_true] at e
    omega
theorem Je.store (h : Je w0 E c l vs w) (h10 : l 10 = true) (v : Value) {g : Nat} (hg : vs 10 = (Value.pointer (some ⟨g, 0, none⟩))) (hW : w0.heap.size ≤ g) (hz : w.heap[g]? = some zC) :
    Je w0 E c (upB l 12) (upV vs 12 v) ((((w.setCell ⟨g, 0, none⟩ (.string c.nm)).setCell ⟨g, 1, none⟩ (.int .i64 c.kd)).setCell ⟨g, 2, none⟩ (.bool c.mu)).setCell ⟨g, 3, none⟩ (.string c.tgt)) := by
  refine ⟨below_set4 h.b hW _ _ _ _, fun j hj hl => ?_, fun hl => ⟨g, by rw [upV_ne (by decide)]; exact hg, hW, ?_⟩, fun hl => ?_, fun h1 h2 => ?_⟩
  · rw [upV_ne (by omega)]; rw [upB_ne (by omega)] at hl; exact h.ev j hj hl
  · rw [upB_eq, if_pos rfl]; exact set4 hz _ _ _ _
  · rw [upB_ne (by decide)] at hl
    obtain ⟨g2, a, b, d⟩ := h.p11 hl
    refine ⟨g2, by rw [upV_ne (by decide)]; exact a, b, (set4_other w g g2 (fun e => ?_) _ _ _ _).trans d⟩
    exact h.ne h10 hl (by rw [hg, a, e])
  · rw [upB_ne (by decide)] at h1 h2
    rw [upV_ne (by decide), upV_ne (by decide)]; exact h.ne h1 h2
end
theorem depCells {W : World} {b off n cap : Nat} {ds : List D} (h : RdD W (.slice (some ⟨b, off, none⟩) n cap) ds) {i : Nat} (hi : i < ds.length) : ∃ p c, W.cell? ⟨b, off + i * 2, none⟩ = some (.slice p ds[i].left.length c) ∧ W.cell? ⟨b, off + i * 2 + 1, none⟩ = some (.string ds[i].right) ∧ RdS W (.slice p ds[i].left.length c) ds[i].left := by
  obtain ⟨_, _, lv, e, _, h1, h2, h3⟩ := RdD.dep h hi
  cases e
  obtain ⟨p, c, rfl, _, _⟩ := h3.slice
  exact ⟨p, c, h1, h2, h3⟩
set_option maxRecDepth 100000 in
set_option maxHeartbeats 8000000 in
theorem eqTable_same {t : T} {cv dv cu du : Value} {W : World} (h : RdT W cv dv t) (k : RdT W cu du t) : Calls Try.prog 17 #[.agg #[.string t.nm, cv, .string t.key, dv], .agg #[.string t.nm, cu, .string t.key, du]] W fun e w' => e = .returned (.bool true) ∧ Below W.heap.size W w' := by
  obtain ⟨p, cc, hcv, hc, hm⟩ := h.c.slice
  obtain ⟨pd, cd, hdv, hc3, hm3⟩ := h.d.slice
  obtain ⟨q, ce, hcu, _, _⟩ := k.c.slice
  obtain ⟨qd, cf, hdu, _, _⟩ := k.d.slice
  obtain ⟨n, hn⟩ : ∃ n, t.cols.length = n := ⟨_, rfl⟩
  obtain ⟨nd, hnd⟩ : ∃ n, t.deps.length = n := ⟨_, rfl⟩
  obtain ⟨S, hS⟩ : ∃ S, W.heap.size = S := ⟨_, rfl⟩
  unfold maxLen at hm hm3
  rw [hnd] at hdv hdu hc3
  rw [hn] at hcv hcu hc
  subst hcv hdv hcu hdu
  have hb1 := below_alloc W (boxT t.nm (.slice p n cc) t.key (.slice pd nd cd))
  have hb2 := hb1.alloc hb1.size (boxT t.nm (.slice q n ce) t.key (.slice qd nd cf))
  have k0 := alloc_old (u := boxT t.nm (.slice q n ce) t.key (.slice qd nd cf)) (heap_alloc_new W (boxT t.nm (.slice p n cc) t.key (.slice pd nd cd)))
  have k1 := heap_alloc_new (W.alloc (boxT t.nm (.slice p n cc) t.key (.slice pd nd cd))) (boxT t.nm (.slice q n ce) t.key (.slice qd nd cf))
  rw [hS] at k0
  rw [World.size_alloc, hS] at k1
  obtain ⟨w0, hw0⟩ : ∃ w0, (W.alloc (boxT t.nm (.slice p n cc) t.key (.slice pd nd cd))).alloc (boxT t.nm (.slice q n ce) t.key (.slice qd nd cf)) = w0 := ⟨_, rfl⟩
  rw [hw0] at k0 k1 hb2
  have HW := Lib.hid hw0
  have HS := Lib.hid hS
  have HN := Lib.hid (And.intro hn hnd)
  have HR := Lib.hid (And.intro (h.later hb2) (And.intro (k.later hb2) hb2))
  have x0 := nd_cell k0 0
  have x1 := nd_cell k0 1
  have x2 := nd_cell k0 2
  have x3 := nd_cell k0 3
  have xl := lt_of_heap k0
  have y0 := nd_cell k1 0
  have y1 := nd_cell k1 1
  have y2 := nd_cell k1 2
  have y3 := nd_cell k1 3
  have yl := lt_of_heap k1
  have HC := Lib.hid (And.intro k0 k1)
  clear h k hn hnd hS hw0 hb1 hb2 k0 k1
  go_enter Try.func17, Try.ntmps17
  go_upto_region 1 with fail
  rw [HW.out, HS.out]
  go_upto_block 0 with fail
  clear x0 x1 x2 x3 xl y0 y1 y2 y3 yl
  go_cut [] from 300 to 300 (fun wx => Below w0.heap.size w0 wx)
  case first =>
    go_wp2_with fail
    go_loopg [5] (n + 1) (fun gh jv w => ∃ (j : Nat), jv = .int .i64 (j : Int) ∧ j ≤ n ∧ n + 1 ≤ j + gh ∧ Below w0.heap.size w0 w)
    case atStart => exact ⟨0, rfl, Nat.zero_le _, by omega, Below.refl _ _⟩
    case round =>
      obtain ⟨j, rfl, hj, hg, hB⟩ := hrel
      have x1 := nd_cell (heap_on hB HC.out.1) 1
      have xl := lt_of_heap (heap_on hB HC.out.1)
      by_cases hlt : j < n
      · have hjl : j < t.cols.length := by rw [HN.out.1]; exact hlt
        obtain ⟨b1, o1, rfl, hb1, _⟩ := RdC.col (HR.out.1.later hB).c hjl
        obtain ⟨b2, o2, rfl, hb2, _⟩ := RdC.col (HR.out.2.1.later hB).c hjl
        obtain ⟨c, hcj⟩ : ∃ c, t.cols[j] = c := ⟨_, rfl⟩
        have HX : Hid (∀ w, Below w0.heap.size w0 w → (w.cell? ⟨b1, o1 + j * 4, none⟩ = some (.string c.nm) ∧ w.cell? ⟨b1, o1 + j * 4 + 1, none⟩ = some (.int .i64 c.kd) ∧ w.cell? ⟨b1, o1 + j * 4 + 2, none⟩ = some (.bool c.mu) ∧ w.cell? ⟨b1, o1 + j * 4 + 3, none⟩ = some (.string c.tgt)) ∧
            (w.cell? ⟨b2, o2 + j * 4, none⟩ = some (.string c.nm) ∧ w.cell? ⟨b2, o2 + j * 4 + 1, none⟩ = some (.int .i64 c.kd) ∧ w.cell? ⟨b2, o2 + j * 4 + 2, none⟩ = some (.bool c.mu) ∧ w.cell? ⟨b2, o2 + j * 4 + 3, none⟩ = some (.string c.tgt))) := Lib.hid (fun w hb => by
          rw [← hcj]
          exact ⟨(RdC.colAt (HR.out.1.later hb).c hjl).2, (RdC.colAt (HR.out.2.1.later hb).c hjl).2⟩)
        have hji : (j : Int) < (n : Int) := by omega
        have HB := Lib.hid hB
        clear hB hcj hb1 hb2
        go_upto_region 6 with fail
        refine Par.wp_region_par4 13 (Je w0 (fun idx => [(Value.pointer (some ⟨S, 1, none⟩)), (.slice (some ⟨b1, o1, none⟩) n cc), (.int .i64 j), (Value.pointer (some ⟨b1, o1 + j * 4, none⟩)), (.agg #[.string c.nm, .int .i64 c.kd, .bool c.mu, .string c.tgt]), (Value.pointer (some ⟨S + 1, 1, none⟩)), (.slice (some ⟨b2, o2, none⟩) n ce), (.int .i64 j), (Value.pointer (some ⟨b2, o2 + j * 4, none⟩)), (.agg #[.string c.nm, .int .i64 c.kd, .bool c.mu, .string c.tgt])].getD idx undef) c) ?AA ?hmA ?hBA ?hAA ?hJA ?hopA ?hTA
        case hmA => kernel_rfl
        case hBA => kernel_rfl
        case hAA =>
          intro vs
          simp only [Par.putA, Par.dstAt, Act.put, List.getElem?_toArray, List.getElem?_cons_zero, List.getElem?_cons_succ, Option.bind_some, List.setIfInBounds_toArray, List.set_cons_zero, List.set_cons_succ]
          rfl
        case hJA => exact fun vs => ⟨HB.out.drew, fun _ _ h => (by cases h), fun h => (by cases h), fun h => (by cases h), fun h => (by cases h)⟩
        case hopA =>
          simp only [List.take_succ_cons, List.take_zero, Par.GiveAllK, and_true]
          refine ⟨fun l vs w hJ hl hd hcl => ?_, fun l vs w hJ hl hd hcl => ?_, fun l vs w hJ hl hd hcl => ?_, fun l vs w hJ hl hd hcl => ?_, fun l vs w hJ hl hd hcl => ?_, fun l vs w hJ hl hd hcl => ?_, fun l vs w hJ hl hd hcl => ?_, fun l vs w hJ hl hd hcl => ?_, fun l vs w hJ hl hd hcl => ?_, fun l vs w hJ hl hd hcl => ?_, fun l vs w hJ hl hd hcl => ?_, fun l vs w hJ hl hd hcl => ?_, fun l vs w hJ hl hd hcl => ?_⟩
          · have HJ := Lib.hid hJ
            clear hJ hd hcl
            simp only [Par.GivesW]
            go_simp
            all_goals exact HJ.out.pure 0 (by decide)
          · have HJ := Lib.hid hJ
            have d0 : vs 0 = (Value.pointer (some ⟨S, 1, none⟩)) := hJ.ev 0 (by decide) (hd 0 (by kernel_rfl))
            have y := nd_cell (heap_on hJ.b HC.out.1) 1
            clear hJ hd hcl
            simp only [Par.GivesW, d0]
            go_simp
            all_goals exact HJ.out.pure 1 (by decide)
          · have HJ := Lib.hid hJ
            clear hJ hd hcl
            simp only [Par.GivesW]
            go_simp
            all_goals exact HJ.out.pure 2 (by decide)
          · have HJ := Lib.hid hJ
            have d1 : vs 1 = (.slice (some ⟨b1, o1, none⟩) n cc) := hJ.ev 1 (by decide) (hd 1 (by kernel_rfl))
            have d2 : vs 2 = (.int .i64 j) := hJ.ev 2 (by decide) (hd 2 (by kernel_rfl))
            clear hJ hd hcl
            simp only [Par.GivesW, d1, d2]
            go_simp
            all_goals exact HJ.out.pure 3 (by decide)
          · have HJ := Lib.hid hJ
            have d3 : vs 3 = (Value.pointer (some ⟨b1, o1 + j * 4, none⟩)) := hJ.ev 3 (by decide) (hd 3 (by kernel_rfl))
            obtain ⟨⟨v0, v1, v2, v3⟩, _⟩ := HX.out w hJ.b
            clear hJ hd hcl
            simp only [Par.GivesW, d3]
            go_simp
            all_goals exact HJ.out.pure 4 (by decide)
          · have HJ := Lib.hid hJ
            clear hJ hd hcl
            simp only [Par.GivesW]
            go_simp
            all_goals exact HJ.out.pure 5 (by decide)
          · have HJ := Lib.hid hJ
            have d5 : vs 5 = (Value.pointer (some ⟨S + 1, 1, none⟩)) := hJ.ev 5 (by decide) (hd 5 (by kernel_rfl))
            have y := nd_cell (heap_on hJ.b HC.out.2) 1
            clear hJ hd hcl
            simp only [Par.GivesW, d5]
            go_simp
            all_goals exact HJ.out.pure 6 (by decide)
          · have HJ := Lib.hid hJ
            clear hJ hd hcl
            simp only [Par.GivesW]
            go_simp
            all_goals exact HJ.out.pure 7 (by decide)
          · have HJ := Lib.hid hJ
            have d6 : vs 6 = (.slice (some ⟨b2, o2, none⟩) n ce) := hJ.ev 6 (by decide) (hd 6 (by kernel_rfl))
            have d7 : vs 7 = (.int .i64 j) := hJ.ev 7 (by decide) (hd 7 (by kernel_rfl))
            clear hJ hd hcl
            simp only [Par.GivesW, d6, d7]
            go_simp
            all_goals exact HJ.out.pure 8 (by decide)
          · have HJ := Lib.hid hJ
            have d8 : vs 8 = (Value.pointer (some ⟨b2, o2 + j * 4, none⟩)) := hJ.ev 8 (by decide) (hd 8 (by kernel_rfl))
            obtain ⟨_, v0, v1, v2, v3⟩ := HX.out w hJ.b
            clear hJ hd hcl
            simp only [Par.GivesW, d8]
            go_simp
            all_goals exact HJ.out.pure 9 (by decide)
          · have HJ := Lib.hid hJ
            have h12 : l 12 = false := Bool.eq_false_iff.2 (fun h => by rw [hcl 12 10 (by kernel_rfl) h] at hl; cases hl)
            clear hJ hd hcl
            simp only [Par.GivesW]
            go_simp
            exact HJ.out.new10 h12
          · have HJ := Lib.hid hJ
            clear hJ hd hcl
            simp only [Par.GivesW]
            go_simp
            exact HJ.out.new11
          · have HJ := Lib.hid hJ
            have h10 := hd 10 (by kernel_rfl)
            obtain ⟨g, a, hW, hz⟩ := hJ.p10 h10
            rw [hl] at hz
            have hz : w.heap[g]? = some zC := hz
            have d4 : vs 4 = (.agg #[.string c.nm, .int .i64 c.kd, .bool c.mu, .string c.tgt]) := hJ.ev 4 (by decide) (hd 4 (by kernel_rfl))
            have z0 := nd_cell hz 0
            have z1 := nd_cell hz 1
            have z2 := nd_cell hz 2
            have z3 := nd_cell hz 3
            have zf := fun i => frozen_of_row w g i _ _ hz
            have zl := lt_of_heap hz
            have HZ := Lib.hid hz
            clear hJ hd hcl hz
            simp only [Par.GivesW, a, d4]
            go_simp
            exact HJ.out.store h10 _ a hW HZ.out
        case hTA =>
          intro l vs w' hl hJ
          simp only [List.drop_succ_cons, List.drop_zero]
          obtain ⟨g, a, hW, hz⟩ := hJ.p10 (hl 10 (by decide))
          rw [hl 12 (by decide), if_pos rfl] at hz
          obtain ⟨g2, a2, hW2, hz2⟩ := hJ.p11 (hl 11 (by decide))
          have hne : g ≠ g2 := fun e => hJ.ne (hl 10 (by decide)) (hl 11 (by decide)) (by rw [a, a2, e])
          have d0 : vs 0 = (Value.pointer (some ⟨S, 1, none⟩)) := hJ.ev 0 (by decide) (hl 0 (by decide))
          have d1 : vs 1 = (.slice (some ⟨b1, o1, none⟩) n cc) := hJ.ev 1 (by decide) (hl 1 (by decide))
          have d2 : vs 2 = (.int .i64 j) := hJ.ev 2 (by decide) (hl 2 (by decide))
          have d3 : vs 3 = (Value.pointer (some ⟨b1, o1 + j * 4, none⟩)) := hJ.ev 3 (by decide) (hl 3 (by decide))
          have d4 : vs 4 = (.agg #[.string c.nm, .int .i64 c.kd, .bool c.mu, .string c.tgt]) := hJ.ev 4 (by decide) (hl 4 (by decide))
          have d5 : vs 5 = (Value.pointer (some ⟨S + 1, 1, none⟩)) := hJ.ev 5 (by decide) (hl 5 (by decide))
          have d6 : vs 6 = (.slice (some ⟨b2, o2, none⟩) n ce) := hJ.ev 6 (by decide) (hl 6 (by decide))
          have d7 : vs 7 = (.int .i64 j) := hJ.ev 7 (by decide) (hl 7 (by decide))
          have d8 : vs 8 = (Value.pointer (some ⟨b2, o2 + j * 4, none⟩)) := hJ.ev 8 (by decide) (hl 8 (by decide))
          have d9 : vs 9 = (.agg #[.string c.nm, .int .i64 c.kd, .bool c.mu, .string c.tgt]) := hJ.ev 9 (by decide) (hl 9 (by decide))
          simp only [d0, d1, d2, d3, d4, d5, d6, d7, d8, d9, a, a2]
          clear d0 d1 d2 d3 d4 d5 d6 d7 d8 d9 a a2
          have z0 := nd_cell hz2 0
          have z1 := nd_cell hz2 1
          have z2 := nd_cell hz2 2
          have z3 := nd_cell hz2 3
          have zf := fun i => frozen_of_row w' g2 i _ _ hz2
          have zl := lt_of_heap hz2
          have h2 := set4 hz2 (.string c.nm) (.int .i64 c.kd) (.bool c.mu) (.string c.tgt)
          have h1 := (set4_other w' g2 g hne (.string c.nm) (.int .i64 c.kd) (.bool c.mu) (.string c.tgt)).trans hz
          have hb := below_set4 hJ.b hW2 (.string c.nm) (.int .i64 c.kd) (.bool c.mu) (.string c.tgt)
          have HZ := Lib.hid (And.intro h1 (And.intro h2 hb))
          clear hJ hz hz2 h1 h2 hb hl
          go_upto_region 7 with fail
          have HZ := Lib.hid HZ.out
          clear z0 z1 z2 z3 zf zl
          obtain ⟨w3, hw3⟩ : ∃ w3, (((w'.setCell ⟨g2, 0, none⟩ (.string c.nm)).setCell ⟨g2, 1, none⟩ (.int .i64 c.kd)).setCell ⟨g2, 2, none⟩ (.bool c.mu)).setCell ⟨g2, 3, none⟩ (.string c.tgt) = w3 := ⟨_, rfl⟩
          rw [hw3] at HZ ⊢
          clear hw3
          have a0 := nd_cell HZ.out.1 0
          have a1 := nd_cell HZ.out.1 1
          have a2 := nd_cell HZ.out.1 2
          have a3 := nd_cell HZ.out.1 3
          have al := lt_of_heap HZ.out.1
          have b0 := nd_cell HZ.out.2.1 0
          have b1 := nd_cell HZ.out.2.1 1
          have b2 := nd_cell HZ.out.2.1 2
          have b3 := nd_cell HZ.out.2.1 3
          have bl := lt_of_heap HZ.out.2.1
          go_wp2_with fail
          go_roundg (n - j)
          case measure => omega
          case rel => exact ⟨j + 1, by go_num, by omega, by omega, HZ.out.2.2⟩
      · obtain rfl : j = n := by omega
        go_wp2_with fail
        go_meet
        exact hB
  case rest =>
    have HB0 := Lib.hid hcut
    go_wp2_with fail
    go_loopg [8] (nd + 1) (fun gh jv w => ∃ (j : Nat), jv = .int .i64 (j : Int) ∧ j ≤ nd ∧ nd + 1 ≤ j + gh ∧ Below w0.heap.size w0 w)
    case atStart => exact ⟨0, rfl, Nat.zero_le _, by omega, HB0.out⟩
    case round =>
      obtain ⟨j, rfl, hj, hg, hB⟩ := hrel
      have x3 := nd_cell (heap_on hB HC.out.1) 3
      have xl := lt_of_heap (heap_on hB HC.out.1)
      by_cases hlt : j < nd
      · have hjl : j < t.deps.length := by rw [HN.out.2]; exact hlt
        obtain ⟨b1, o1, _, rfl, hb1, _⟩ := RdD.dep (HR.out.1.later hB).d hjl
        obtain ⟨b2, o2, _, rfl, hb2, _⟩ := RdD.dep (HR.out.2.1.later hB).d hjl
        obtain ⟨d, hdj⟩ : ∃ d, t.deps[j] = d := ⟨_, rfl⟩
        obtain ⟨p3, c3, u0, u1, u2⟩ := depCells (HR.out.1.later hB).d hjl
        obtain ⟨p4, c4, v0, v1, v2⟩ := depCells (HR.out.2.1.later hB).d hjl
        rw [hdj] at u0 u1 u2 v0 v1 v2
        obtain ⟨nl, hnl⟩ : ∃ m, d.left.length = m := ⟨_, rfl⟩
        rw [hnl] at u0 v0 u2 v2
        have hep := fun (w : World) (hb : Below wr.heap.size wr w) => eqPath_same (u2.later hb) (v2.later hb)
        have HEP := Lib.hid hep
        have hji : (j : Int) < (nd : Int) := by omega
        have HB := Lib.hid hB
        have s1 := heap_on hB HC.out.1
        have s2 := heap_on hB HC.out.2
        have S1 := Lib.hid s1
        have S2 := Lib.hid s2
        clear hB hdj hb1 hb2 hep u2 v2 s1 s2 hnl
        go_upto_region 12 with fail
        refine Par.wp_region_par 29 [(Value.pointer (some ⟨S, 3, none⟩)), .slice (some ⟨b1, o1, none⟩) nd cd, .int .i64 j, (Value.pointer (some ⟨b1, o1 + j * 2, none⟩)), (Value.pointer (some ⟨b1, o1 + j * 2 + 1, none⟩)), .string d.right, (Value.pointer (some ⟨S + 1, 3, none⟩)), .slice (some ⟨b2, o2, none⟩) nd cf, .int .i64 j, (Value.pointer (some ⟨b2, o2 + j * 2, none⟩)), (Value.pointer (some ⟨b2, o2 + j * 2 + 1, none⟩)), .string d.right, .bool false, .bool false, (Value.pointer (some ⟨S, 3, none⟩)), .slice (some ⟨b1, o1, none⟩) nd cd, .int .i64 j, (Value.pointer (some ⟨b1, o1 + j * 2, none⟩)), (Value.pointer (some ⟨b1, o1 + j * 2, none⟩)), .slice p3 nl c3, (Value.pointer (some ⟨S + 1, 3, none⟩)), .slice (some ⟨b2, o2, none⟩) nd cf, .int .i64 j, (Value.pointer (some ⟨b2, o2 + j * 2, none⟩)), (Value.pointer (some ⟨b2, o2 + j * 2, none⟩)), .slice p4 nl c4, .bool true, .bool false, .bool false] (fun w => Below wr.heap.size wr w) ?A1 ?hm1 ?hB1 ?hA1 (below_drew wr) ?hop1 ?hT1
        case hm1 => kernel_rfl
        case hB1 => kernel_rfl
        case hA1 =>
          simp only [Par.putA, Par.dstAt, Act.put, List.getElem?_toArray, List.getElem?_cons_zero, List.getElem?_cons_succ, Option.bind_some, List.setIfInBounds_toArray, List.set_cons_zero, List.set_cons_succ, List.getD_cons_zero, List.getD_cons_succ]
          rfl
        case hop1 =>
          simp only [List.take_succ_cons, List.take_zero, Par.GiveAll, and_true]
          refine ⟨fun w' hR => ?_, fun w' hR => ?_, fun w' hR => ?_, fun w' hR => ?_, fun w' hR => ?_, fun w' hR => ?_, fun w' hR => ?_, fun w' hR => ?_, fun w' hR => ?_, fun w' hR => ?_, fun w' hR => ?_, fun w' hR => ?_, fun w' hR => ?_, fun w' hR => ?_, fun w' hR => ?_, fun w' hR => ?_, fun w' hR => ?_, fun w' hR => ?_, fun w' hR => ?_, fun w' hR => ?_, fun w' hR => ?_, fun w' hR => ?_, fun w' hR => ?_, fun w' hR => ?_, fun w' hR => ?_, fun w' hR => ?_, fun w' hR => ?_, fun w' hR => ?_, fun w' hR => ?_⟩
          · have HR := Lib.hid hR
            clear hR
            simp only [Par.Gives]
            go_simp
            all_goals exact HR.out
          · have HR := Lib.hid hR
            have y := nd_cell (heap_on hR S1.out) 3
            clear hR
            simp only [Par.Gives]
            go_simp
            all_goals exact HR.out
          · have HR := Lib.hid hR
            clear hR
            simp only [Par.Gives]
            go_simp
            all_goals exact HR.out
          · have HR := Lib.hid hR
            clear hR
            simp only [Par.Gives]
            go_simp
            all_goals exact HR.out
          · have HR := Lib.hid hR
            clear hR
            simp only [Par.Gives]
            go_simp
            all_goals exact HR.out
          · have HR := Lib.hid hR
            have y := bel_cell hR u1
            clear hR
            simp only [Par.Gives]
            go_simp
            all_goals exact HR.out
          · have HR := Lib.hid hR
            clear hR
            simp only [Par.Gives]
            go_simp
            all_goals exact HR.out
          · have HR := Lib.hid hR
            have y := nd_cell (heap_on hR S2.out) 3
            clear hR
            simp only [Par.Gives]
            go_simp
            all_goals exact HR.out
          · have HR := Lib.hid hR
            clear hR
            simp only [Par.Gives]
            go_simp
            all_goals exact HR.out
          · have HR := Lib.hid hR
            clear hR
            simp only [Par.Gives]
            go_simp
            all_goals exact HR.out
          · have HR := Lib.hid hR
            clear hR
            simp only [Par.Gives]
            go_simp
            all_goals exact HR.out
          · have HR := Lib.hid hR
            have y := bel_cell hR v1
            clear hR
            simp only [Par.Gives]
            go_simp
            all_goals exact HR.out
          · have HR := Lib.hid hR
            clear hR
            simp only [Par.Gives]
            go_simp
            all_goals exact HR.out
          · have HR := Lib.hid hR
            clear hR
            simp only [Par.Gives]
            go_simp
            all_goals exact HR.out
          · have HR := Lib.hid hR
            clear hR
            simp only [Par.Gives]
            go_simp
            all_goals exact HR.out
          · have HR := Lib.hid hR
            have y := nd_cell (heap_on hR S1.out) 3
            clear hR
            simp only [Par.Gives]
            go_simp
            all_goals exact HR.out
          · have HR := Lib.hid hR
            clear hR
            simp only [Par.Gives]
            go_simp
            all_goals exact HR.out
          · have HR := Lib.hid hR
            clear hR
            simp only [Par.Gives]
            go_simp
            all_goals exact HR.out
          · have HR := Lib.hid hR
            clear hR
            simp only [Par.Gives]
            go_simp
            all_goals exact HR.out
          · have HR := Lib.hid hR
            have y := bel_cell hR u0
            clear hR
            simp only [Par.Gives]
            go_simp
            all_goals exact HR.out
          · have HR := Lib.hid hR
            clear hR
            simp only [Par.Gives]
            go_simp
            all_goals exact HR.out
          · have HR := Lib.hid hR
            have y := nd_cell (heap_on hR S2.out) 3
            clear hR
            simp only [Par.Gives]
            go_simp
            all_goals exact HR.out
          · have HR := Lib.hid hR
            clear hR
            simp only [Par.Gives]
            go_simp
            all_goals exact HR.out
          · have HR := Lib.hid hR
            clear hR
            simp only [Par.Gives]
            go_simp
            all_goals exact HR.out
          · have HR := Lib.hid hR
            clear hR
            simp only [Par.Gives]
            go_simp
            all_goals exact HR.out
          · have HR := Lib.hid hR
            have y := bel_cell hR v0
            clear hR
            simp only [Par.Gives]
            go_simp
            all_goals exact HR.out
          · have HR := Lib.hid hR
            clear hR
            simp only [Par.Gives]
            go_simp
            exact (HEP.out w' HR.out).mono (fun e w'' ⟨he, hb⟩ => ⟨he, below_on HR.out hb⟩)
          · have HR := Lib.hid hR
            clear hR
            simp only [Par.Gives]
            go_simp
            all_goals exact HR.out
          · have HR := Lib.hid hR
            clear hR
            simp only [Par.Gives]
            go_simp
            all_goals exact HR.out
        case hT1 =>
          intro w' hR
          simp only [List.drop_succ_cons, List.drop_nil]
          have HR2 := Lib.hid hR
          clear hR u0 u1 v0 v1
          go_wp2_with fail
          go_roundg (nd - j)
          case measure => omega
          case rel => exact ⟨j + 1, by go_num, by omega, by omega, HB.out.trans (HR2.out.mono HB.out.size)⟩
      · go_wp2_with fail
        go_ret
        exact ⟨rfl, HR.out.2.2.trans (hB.mono HR.out.2.2.size)⟩
end Go.Proofs.Ytbhcmmkobadmnaa
