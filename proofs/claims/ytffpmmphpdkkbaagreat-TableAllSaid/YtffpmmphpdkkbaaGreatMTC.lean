/- at, col, takes. A table's rows, in plain. -/
import Derived.Test.YtffpmmphpdkkbaaGreatMTA
namespace Go.Proofs.YtffpmmphpdkkbaaGreat
open Go Go.RowKit Go.Proofs Co Co.S

def colV (c : C) : Value := .agg #[.string c.nm, .int .i64 c.kd, .bool c.mu, .string c.tgt]
section
variable {W W' : World} {tb next : Nat} {t : T} {i : In} {lab : Nat → Nat}
theorem tat_any (h : TbM W tb t next i lab) {x : Int} (hx : F64 x) : Calls Tryz.prog 42 #[(Value.pointer (some ⟨tb, 0, none⟩)), .int .i64 x] W fun e w' => e = .returned (.tuple #[.int .i64 (((i.f x).getD 0 : Nat) : Int), .bool (i.f x).isSome]) ∧ w' = W := by
  have hl := h.place.look hx
  obtain ⟨_, _, _, _, _, c5, _⟩ := h.cells
  have zl := h.tlt
  generalize (((i.f x).getD 0 : Nat) : Int) = p at hl ⊢
  generalize (i.f x).isSome = ok at hl ⊢
  generalize i.pv = pv at c5 hl
  clear h hx
  go_enter Tryz.func42, Tryz.ntmps42
  go_wp2_with (at_lookup; refine wpList_look rfl (.tmp 14) (.tmp 15) 78 true rfl rfl rfl hl ?_)
  go_ret2
  exact ⟨rfl, rfl⟩
theorem tat_nil (x : Int) (W : World) : Calls Tryz.prog 42 #[.pointer none, .int .i64 x] W fun e w' => e = .returned (.tuple #[.int .i64 0, .bool false]) ∧ w' = W := by
  go_enter Tryz.func42, Tryz.ntmps42
  go_wp2
  go_ret2
  exact ⟨rfl, rfl⟩

theorem colfn_any {c : C} {x : ByteArray} {b : Nat} {w : World} (h : w.cell? ⟨b, 0, none⟩ = some (.string x)) : Calls Tryz.prog 71 #[colV c, (Value.pointer (some ⟨b, 0, none⟩))] w fun e w' => e = .returned (.bool (isC x c)) ∧ Below w.heap.size w w' := by
  have hlt : b < w.heap.size := World.block_lt_of_cell? w ⟨b, 0, none⟩ h
  have hx2 : (c.nm.toList == x.toList) = isC x c := by rw [eqS_toList]; rfl
  generalize isC x c = r at hx2 ⊢
  unfold colV
  go_enter Tryz.func71, Tryz.ntmps71
  go_wp2
  go_ret
  exact ⟨rfl, below_alloc w _⟩
set_option maxRecDepth 100000 in
set_option maxHeartbeats 1000000 in
theorem ixf_any {l : List C} {v : Value} {x : ByteArray} {b : Nat} {W : World} (h : RdC W v l) (hb : W.cell? ⟨b, 0, none⟩ = some (.string x)) : Calls Tryz.prog 70 #[v, .func (.func 71) #[] #[(Value.pointer (some ⟨b, 0, none⟩))]] W fun e w' => e = .returned (.int .i64 (ixC l x)) ∧ Below W.heap.size W w' := by
  obtain ⟨pc, cc, hcv, hc, hm⟩ := h.slice
  obtain ⟨n, hn⟩ : ∃ n, l.length = n := ⟨_, rfl⟩
  unfold maxLen at hm
  rw [hn] at hcv hc
  subst hcv
  have hbl : b < W.heap.size := World.block_lt_of_cell? W ⟨b, 0, none⟩ hb
  have HN := Lib.hid hn
  have HW := Lib.hid (And.intro h (And.intro hb hbl))
  have hent := enters_of Tryz.func71 (by kernel_rfl) rfl
  clear h hb hn hbl
  go_enter Tryz.func70, Tryz.ntmps70
  go_wp2_with fail
  go_loopg [8] (n + 1) (fun gh jv w => ∃ (j : Nat), jv = .int .i64 (j : Int) ∧ j ≤ n ∧ n + 1 ≤ j + gh ∧ (∀ i (h : i < l.length), i < j → isC x l[i] = false) ∧ Below W.heap.size W w)
  case atStart => exact ⟨0, rfl, Nat.zero_le _, by omega, fun i _ hi => by omega, Below.refl _ _⟩
  case round =>
    obtain ⟨j, rfl, hj, hg, hno, hB⟩ := hrel
    have HI := Lib.hid (And.intro hno hB)
    by_cases hlt : j < n
    · have hjl : j < l.length := by rw [HN.out]; exact hlt
      obtain ⟨bc, off, rfl, hbc, c0, c1, c2, c3⟩ := RdC.col (HW.out.1.later hB) hjl
      have hcell : wr.cell? ⟨b, 0, none⟩ = some (.string x) := (World.cell?_of_block (w := W) (hB.block b HW.out.2.2)).trans HW.out.2.1
      have hcall := colfn_any (c := l[j]) hcell
      obtain ⟨c, hcj⟩ : ∃ c, l[j] = c := ⟨_, rfl⟩
      rw [hcj] at c0 c1 c2 c3 hcall
      have HC := Lib.hid hcj
      have hji : (j : Int) < (n : Int) := by omega
      clear hcj hno hB hcell
      unfold colV at hcall
      cases hx : isC x c
      · have HX := Lib.hid hx
        rw [hx] at hcall
        clear hx
        go_wp2_with (go_at_call 71; (with_reducible refine hcall.mono ?_); rintro e w2 ⟨rfl, hb2⟩)
        have HB2 := Lib.hid hb2
        go_roundg (n - j)
        case measure => omega
        case rel =>
          refine ⟨j + 1, by go_num, by omega, by omega, fun i hi hij => ?_, below_on HI.out.2 HB2.out⟩
          by_cases e : i = j
          · subst e; rw [HC.out]; exact HX.out
          · exact HI.out.1 i hi (by omega)
      · have HX := Lib.hid hx
        rw [hx] at hcall
        clear hx
        go_wp2_with (go_at_call 71; (with_reducible refine hcall.mono ?_); rintro e w2 ⟨rfl, hb2⟩)
        go_ret
        exact ⟨ret_int (ixC_at j (by rw [HN.out]; exact hlt) (by rw [HC.out]; exact HX.out) (fun i hi => HI.out.1 i _ hi)).symm, below_on HI.out.2 hb2⟩
    · go_wp2_with fail
      go_ret
      exact ⟨ret_int (ixC_none (fun i hi => HI.out.1 i hi (by have := HN.out; omega))).symm, HI.out.2⟩

/-- The place of a column, and whether there is one. -/
theorem tcol_any (h : TbM W tb t next i lab) (x : ByteArray) : Calls Tryz.prog 45 #[(Value.pointer (some ⟨tb, 0, none⟩)), .string x] W fun e w' => e = .returned (.tuple #[.int .i64 (ixC t.cols x), .bool (decide (0 ≤ ixC t.cols x))]) ∧ Below W.heap.size W w' := by
  have hb := below_alloc W (.cells #[.string x] 9)
  have hk := nd_cell (heap_alloc_new W (.cells #[.string x] 9)) 0
  have h1 := h.later hb
  have hcall := ixf_any (x := x) h1.form.rd.1 hk
  obtain ⟨_, c1, _⟩ := h1.cells
  have zl := h1.tlt
  have HB := Lib.hid hb
  obtain ⟨w1, hw1⟩ : ∃ w1, W.alloc (.cells #[.string x] 9) = w1 := ⟨_, rfl⟩
  obtain ⟨B, hBB⟩ : ∃ B, W.heap.size = B := ⟨_, rfl⟩
  rw [hw1] at c1 zl hcall HB
  rw [hBB] at hcall
  generalize ixC t.cols x = z at hcall ⊢
  generalize i.fc = fc at c1 hcall
  have hz : (z ≥ 0) = (0 ≤ z) := rfl
  have HW := Lib.hid (And.intro hw1 hBB)
  clear h h1 hb hk hw1 hBB
  go_enter Tryz.func45, Tryz.ntmps45
  go_upto_region 1 with fail
  rw [HW.out.1, HW.out.2]
  go_wp2_with (go_at_call 70; (with_reducible refine hcall.mono ?_); rintro e w2 ⟨rfl, hb2⟩)
  go_ret2
  exact ⟨rfl, below_on HB.out hb2⟩
theorem tcol_nil (x : ByteArray) (W : World) : Calls Tryz.prog 45 #[.pointer none, .string x] W fun e w' => e = .returned (.tuple #[.int .i64 0, .bool false]) ∧ Below W.heap.size W w' := by
  go_enter Tryz.func45, Tryz.ntmps45
  go_wp2
  go_ret2
  exact ⟨rfl, below_alloc W _⟩

set_option maxRecDepth 100000 in
set_option maxHeartbeats 2000000 in
/-- May it stand in the column j? -/
theorem ttakes_any (h : TbM W tb t next i lab) (j : Nat) (hj : j < t.cols.length) (k n1 : Int) (s : ByteArray) (hs : s.size ≤ maxLen) : Calls Tryz.prog 46 #[(Value.pointer (some ⟨tb, 0, none⟩)), .int .i64 (j : Int), (Value.agg #[Value.int .i64 (k), Value.int .i64 (n1), Value.string (s)])] W fun e w' => e = .returned (.bool (inC t.cols[j].kd (k, n1, s))) ∧ Below W.heap.size W w' := by
  have hb := below_alloc W (.cells #[.int .i64 k, .int .i64 n1, .string s] 53)
  have hk := heap_alloc_new W (.cells #[.int .i64 k, .int .i64 n1, .string s] 53)
  have h1 := h.later hb
  obtain ⟨pc, cc, hcv, hc, hm⟩ := h.form.rd.1.slice
  obtain ⟨n, hn⟩ : ∃ n, t.cols.length = n := ⟨_, rfl⟩
  have hr := h1.form.rd.1
  rw [hcv] at hr
  obtain ⟨cb, oc, rfl, hbc, _⟩ := RdC.col hr hj
  obtain ⟨kd, hkd⟩ : ∃ kd, t.cols[j].kd = kd := ⟨_, rfl⟩
  obtain ⟨w1, hw1⟩ : ∃ w1, W.alloc (.cells #[.int .i64 k, .int .i64 n1, .string s] 53) = w1 := ⟨_, rfl⟩
  obtain ⟨B, hBB⟩ : ∃ B, W.heap.size = B := ⟨_, rfl⟩
  rw [hw1] at h1 hk hb hr hbc
  rw [hBB] at hk hb
  have hst : B ≤ w1.heap.size := hBB ▸ hb.size
  rw [hn] at hr hcv hc
  have HX : Hid (∀ w, Below w1.heap.size w1 w → w.cell? ⟨B, 0, none⟩ = some (.int .i64 k) ∧ w.cell? ⟨B, 1, none⟩ = some (.int .i64 n1) ∧ w.cell? ⟨B, 2, none⟩ = some (.string s) ∧ w.cell? ⟨tb, 1, none⟩ = some (.slice (some ⟨cb, oc, none⟩) n cc) ∧ w.cell? ⟨cb, oc + j * 4 + 1, none⟩ = some (.int .i64 kd) ∧ w.heap[B]? = some (.cells #[.int .i64 k, .int .i64 n1, .string s] 53)) := Lib.hid (fun w hw => by
    have hB2 := heap_on hw hk
    refine ⟨nd_cell hB2 0, nd_cell hB2 1, nd_cell hB2 2, ?_, ?_, hB2⟩
    · rw [← hcv]; exact (h1.later hw).cells.2.1
    · rw [← hkd]; exact (RdC.colAt (hr.later hw) hj).2.2.1)
  have HW := Lib.hid (And.intro hw1 hBB)
  have HB := Lib.hid (show Below W.heap.size W w1 by rw [hBB]; exact hb)
  have HS := Lib.hid (show W.heap.size ≤ w1.heap.size by rw [hBB]; exact hst)
  have zn : tb < w1.heap.size := h1.tlt
  have hji : (j : Int) < (n : Int) := by omega
  have hcl : cb < w1.heap.size := hbc
  unfold maxLen at hm
  rw [hkd]
  unfold inC
  simp only
  clear h h1 hr hk hb hcv hst hw1 hBB hn hkd hbc
  generalize hmy : mayV k n1 s.data.toList = may
  have HM := Lib.hid hmy
  have hmay := fun w => may_any k n1 s w hs
  rw [hmy] at hmay
  clear hmy
  cases may with
  | false =>
    simp only [Bool.false_and]
    go_enter Tryz.func46, Tryz.ntmps46
    go_upto_region 1 with fail
    rw [HW.out.1, HW.out.2]
    refine Par.wp_region_par 21 [.agg #[.int .i64 k, .int .i64 n1, .string s], .bool false, .bool false, undef, undef, undef, undef, undef, undef, undef, undef, undef, undef, undef, undef, undef, undef, undef, undef, undef, .bool false] (fun w => Below w1.heap.size w1 w) ?A1 ?hm1 ?hB1 ?hA1 ((Below.refl _ _).drew) ?hop1 ?hT1
    case hm1 => kernel_rfl
    case hB1 => kernel_rfl
    case hA1 =>
      simp only [Par.putA, Par.dstAt, Act.put, List.getElem?_toArray, List.getElem?_cons_zero, List.getElem?_cons_succ, Option.bind_some, List.setIfInBounds_toArray, List.set_cons_zero, List.set_cons_succ, List.getD_cons_zero, List.getD_cons_succ]
      rfl
    case hop1 =>
      simp only [List.take_succ_cons, List.take_zero, Par.GiveAll, and_true]
      refine ⟨fun w' hR => ?_, fun w' hR => ?_, fun w' hR => ?_, fun w' hR => ?_, fun w' hR => ?_, fun w' hR => ?_, fun w' hR => ?_, fun w' hR => ?_, fun w' hR => ?_, fun w' hR => ?_, fun w' hR => ?_, fun w' hR => ?_, fun w' hR => ?_, fun w' hR => ?_, fun w' hR => ?_, fun w' hR => ?_, fun w' hR => ?_, fun w' hR => ?_, fun w' hR => ?_, fun w' hR => ?_, fun w' hR => ?_⟩
      · have HR := Lib.hid hR
        have b0 := (HX.out w' hR).1
        have b1 := (HX.out w' hR).2.1
        have b2 := (HX.out w' hR).2.2.1
        clear hR
        simp only [Par.Gives]
        go_simp
        all_goals exact HR.out
      · have HR := Lib.hid hR
        clear hR
        simp only [Par.Gives]
        go_simp
        exact (hmay w').mono (fun e w'' ⟨he, hb⟩ => ⟨he, below_on HR.out hb⟩)
      · have HR := Lib.hid hR
        clear hR
        simp only [Par.Gives]
        go_simp
        all_goals exact HR.out
      · have HR := Lib.hid hR
        clear hR
        simp only [Par.Gives]
        go_simp
        all_goals exact HR.out
      · have HR := Lib.hid hR
        clear hR
        simp only [Par.Gives]
        go_simp
        all_goals exact HR.out
      · have HR := Lib.hid hR
        clear hR
        simp only [Par.Gives]
        go_simp
        all_goals exact HR.out
      · have HR := Lib.hid hR
        clear hR
        simp only [Par.Gives]
        go_simp
        all_goals exact HR.out
      · have HR := Lib.hid hR
        clear hR
        simp only [Par.Gives]
        go_simp
        all_goals exact HR.out
      · have HR := Lib.hid hR
        clear hR
        simp only [Par.Gives]
        go_simp
        all_goals exact HR.out
      · have HR := Lib.hid hR
        clear hR
        simp only [Par.Gives]
        go_simp
        all_goals exact HR.out
      · have HR := Lib.hid hR
        clear hR
        simp only [Par.Gives]
        go_simp
        all_goals exact HR.out
      · have HR := Lib.hid hR
        clear hR
        simp only [Par.Gives]
        go_simp
        all_goals exact HR.out
      · have HR := Lib.hid hR
        clear hR
        simp only [Par.Gives]
        go_simp
        all_goals exact HR.out
      · have HR := Lib.hid hR
        clear hR
        simp only [Par.Gives]
        go_simp
        all_goals exact HR.out
      · have HR := Lib.hid hR
        clear hR
        simp only [Par.Gives]
        go_simp
        all_goals exact HR.out
      · have HR := Lib.hid hR
        clear hR
        simp only [Par.Gives]
        go_simp
        all_goals exact HR.out
      · have HR := Lib.hid hR
        clear hR
        simp only [Par.Gives]
        go_simp
        all_goals exact HR.out
      · have HR := Lib.hid hR
        clear hR
        simp only [Par.Gives]
        go_simp
        all_goals exact HR.out
      · have HR := Lib.hid hR
        clear hR
        simp only [Par.Gives]
        go_simp
        all_goals exact HR.out
      · have HR := Lib.hid hR
        clear hR
        simp only [Par.Gives]
        go_simp
        all_goals exact HR.out
      · have HR := Lib.hid hR
        clear hR
        simp only [Par.Gives]
        go_simp
        all_goals exact HR.out
    case hT1 =>
      intro w' hR
      simp only [List.drop_succ_cons, List.drop_zero]
      have hW := HB.out.trans (hR.mono HS.out)
      clear hR
      go_wp2_with fail
      go_ret
      exact ⟨rfl, hW⟩
  | true =>
    by_cases h0 : k = 0
    · have e0 : (k == 0) = true := by simp [h0]
      have e0d : decide (k = 0) = true := decide_eq_true h0
      rw [e0d]
      simp only [Bool.true_and, Bool.true_or]
      clear e0d h0
      go_enter Tryz.func46, Tryz.ntmps46
      go_upto_region 1 with fail
      rw [HW.out.1, HW.out.2]
      refine Par.wp_region_par 21 [.agg #[.int .i64 k, .int .i64 n1, .string s], .bool true, .bool true, (Value.pointer (some ⟨B, 0, none⟩)), .int .i64 k, .bool true, .bool true, undef, undef, undef, undef, undef, undef, undef, undef, undef, undef, undef, undef, .bool true, .bool true] (fun w => Below w1.heap.size w1 w) ?A2 ?hm2 ?hB2 ?hA2 ((Below.refl _ _).drew) ?hop2 ?hT2
      case hm2 => kernel_rfl
      case hB2 => kernel_rfl
      case hA2 =>
        simp only [Par.putA, Par.dstAt, Act.put, List.getElem?_toArray, List.getElem?_cons_zero, List.getElem?_cons_succ, Option.bind_some, List.setIfInBounds_toArray, List.set_cons_zero, List.set_cons_succ, List.getD_cons_zero, List.getD_cons_succ]
        rfl
      case hop2 =>
        simp only [List.take_succ_cons, List.take_zero, Par.GiveAll, and_true]
        refine ⟨fun w' hR => ?_, fun w' hR => ?_, fun w' hR => ?_, fun w' hR => ?_, fun w' hR => ?_, fun w' hR => ?_, fun w' hR => ?_, fun w' hR => ?_, fun w' hR => ?_, fun w' hR => ?_, fun w' hR => ?_, fun w' hR => ?_, fun w' hR => ?_, fun w' hR => ?_, fun w' hR => ?_, fun w' hR => ?_, fun w' hR => ?_, fun w' hR => ?_, fun w' hR => ?_, fun w' hR => ?_, fun w' hR => ?_⟩
        · have HR := Lib.hid hR
          have b0 := (HX.out w' hR).1
          have b1 := (HX.out w' hR).2.1
          have b2 := (HX.out w' hR).2.2.1
          clear hR
          simp only [Par.Gives]
          go_simp
          all_goals exact HR.out
        · have HR := Lib.hid hR
          clear hR
          simp only [Par.Gives]
          go_simp
          exact (hmay w').mono (fun e w'' ⟨he, hb⟩ => ⟨he, below_on HR.out hb⟩)
        · have HR := Lib.hid hR
          clear hR
          simp only [Par.Gives]
          go_simp
          all_goals exact HR.out
        · have HR := Lib.hid hR
          have b0 := (HX.out w' hR).1
          have zl := lt_of_heap (HX.out w' hR).2.2.2.2.2
          clear hR
          simp only [Par.Gives]
          go_simp
          all_goals exact HR.out
        · have HR := Lib.hid hR
          have b0 := (HX.out w' hR).1
          have zl := lt_of_heap (HX.out w' hR).2.2.2.2.2
          clear hR
          simp only [Par.Gives]
          go_simp
          all_goals exact HR.out
        · have HR := Lib.hid hR
          clear hR
          simp only [Par.Gives]
          go_simp
          all_goals exact HR.out
        · have HR := Lib.hid hR
          clear hR
          simp only [Par.Gives]
          go_simp
          all_goals exact HR.out
        · have HR := Lib.hid hR
          clear hR
          simp only [Par.Gives]
          go_simp
          all_goals exact HR.out
        · have HR := Lib.hid hR
          clear hR
          simp only [Par.Gives]
          go_simp
          all_goals exact HR.out
        · have HR := Lib.hid hR
          clear hR
          simp only [Par.Gives]
          go_simp
          all_goals exact HR.out
        · have HR := Lib.hid hR
          clear hR
          simp only [Par.Gives]
          go_simp
          all_goals exact HR.out
        · have HR := Lib.hid hR
          clear hR
          simp only [Par.Gives]
          go_simp
          all_goals exact HR.out
        · have HR := Lib.hid hR
          clear hR
          simp only [Par.Gives]
          go_simp
          all_goals exact HR.out
        · have HR := Lib.hid hR
          clear hR
          simp only [Par.Gives]
          go_simp
          all_goals exact HR.out
        · have HR := Lib.hid hR
          clear hR
          simp only [Par.Gives]
          go_simp
          all_goals exact HR.out
        · have HR := Lib.hid hR
          clear hR
          simp only [Par.Gives]
          go_simp
          all_goals exact HR.out
        · have HR := Lib.hid hR
          clear hR
          simp only [Par.Gives]
          go_simp
          all_goals exact HR.out
        · have HR := Lib.hid hR
          clear hR
          simp only [Par.Gives]
          go_simp
          all_goals exact HR.out
        · have HR := Lib.hid hR
          clear hR
          simp only [Par.Gives]
          go_simp
          all_goals exact HR.out
        · have HR := Lib.hid hR
          clear hR
          simp only [Par.Gives]
          go_simp
          all_goals exact HR.out
        · have HR := Lib.hid hR
          clear hR
          simp only [Par.Gives]
          go_simp
          all_goals exact HR.out
      case hT2 =>
        intro w' hR
        simp only [List.drop_succ_cons, List.drop_zero]
        have hW := HB.out.trans (hR.mono HS.out)
        clear hR
        go_wp2_with fail
        go_ret
        exact ⟨rfl, hW⟩
    · have e0 : (k == 0) = false := by simp [h0]
      have e0d : decide (k = 0) = false := decide_eq_false h0
      rw [e0d]
      simp only [Bool.true_and, Bool.false_or]
      have ee : (k == kd) = decide (k = kd) := by rw [Bool.eq_iff_iff]; simp
      generalize decide (k = kd) = ke at ee ⊢
      clear e0d h0
      go_enter Tryz.func46, Tryz.ntmps46
      go_upto_region 1 with fail
      rw [HW.out.1, HW.out.2]
      refine Par.wp_region_par 21 [.agg #[.int .i64 k, .int .i64 n1, .string s], .bool true, .bool true, (Value.pointer (some ⟨B, 0, none⟩)), .int .i64 k, .bool false, .bool false, (Value.pointer (some ⟨B, 0, none⟩)), .int .i64 k, (Value.pointer (some ⟨tb, 0, none⟩)), (Value.pointer (some ⟨tb, 0, none⟩)), (Value.pointer (some ⟨tb, 0, none⟩)), (Value.pointer (some ⟨tb, 1, none⟩)), .slice (some ⟨cb, oc, none⟩) n cc, .int .i64 (j : Int), (Value.pointer (some ⟨cb, oc + j * 4, none⟩)), (Value.pointer (some ⟨cb, oc + j * 4 + 1, none⟩)), .int .i64 kd, .bool ke, .bool ke, .bool ke] (fun w => Below w1.heap.size w1 w) ?A3 ?hm3 ?hB3 ?hA3 ((Below.refl _ _).drew) ?hop3 ?hT3
      case hm3 => kernel_rfl
      case hB3 => kernel_rfl
      case hA3 =>
        simp only [Par.putA, Par.dstAt, Act.put, List.getElem?_toArray, List.getElem?_cons_zero, List.getElem?_cons_succ, Option.bind_some, List.setIfInBounds_toArray, List.set_cons_zero, List.set_cons_succ, List.getD_cons_zero, List.getD_cons_succ]
        rfl
      case hop3 =>
        simp only [List.take_succ_cons, List.take_zero, Par.GiveAll, and_true]
        refine ⟨fun w' hR => ?_, fun w' hR => ?_, fun w' hR => ?_, fun w' hR => ?_, fun w' hR => ?_, fun w' hR => ?_, fun w' hR => ?_, fun w' hR => ?_, fun w' hR => ?_, fun w' hR => ?_, fun w' hR => ?_, fun w' hR => ?_, fun w' hR => ?_, fun w' hR => ?_, fun w' hR => ?_, fun w' hR => ?_, fun w' hR => ?_, fun w' hR => ?_, fun w' hR => ?_, fun w' hR => ?_, fun w' hR => ?_⟩
        · have HR := Lib.hid hR
          have b0 := (HX.out w' hR).1
          have b1 := (HX.out w' hR).2.1
          have b2 := (HX.out w' hR).2.2.1
          clear hR
          simp only [Par.Gives]
          go_simp
          all_goals exact HR.out
        · have HR := Lib.hid hR
          clear hR
          simp only [Par.Gives]
          go_simp
          exact (hmay w').mono (fun e w'' ⟨he, hb⟩ => ⟨he, below_on HR.out hb⟩)
        · have HR := Lib.hid hR
          clear hR
          simp only [Par.Gives]
          go_simp
          all_goals exact HR.out
        · have HR := Lib.hid hR
          have b0 := (HX.out w' hR).1
          have zl := lt_of_heap (HX.out w' hR).2.2.2.2.2
          clear hR
          simp only [Par.Gives]
          go_simp
          all_goals exact HR.out
        · have HR := Lib.hid hR
          have b0 := (HX.out w' hR).1
          have zl := lt_of_heap (HX.out w' hR).2.2.2.2.2
          clear hR
          simp only [Par.Gives]
          go_simp
          all_goals exact HR.out
        · have HR := Lib.hid hR
          clear hR
          simp only [Par.Gives]
          go_simp
          all_goals exact HR.out
        · have HR := Lib.hid hR
          clear hR
          simp only [Par.Gives]
          go_simp
          all_goals exact HR.out
        · have HR := Lib.hid hR
          have b0 := (HX.out w' hR).1
          have zl := lt_of_heap (HX.out w' hR).2.2.2.2.2
          clear hR
          simp only [Par.Gives]
          go_simp
          all_goals exact HR.out
        · have HR := Lib.hid hR
          have b0 := (HX.out w' hR).1
          have zl := lt_of_heap (HX.out w' hR).2.2.2.2.2
          clear hR
          simp only [Par.Gives]
          go_simp
          all_goals exact HR.out
        · have HR := Lib.hid hR
          clear hR
          simp only [Par.Gives]
          go_simp
          all_goals exact HR.out
        · have HR := Lib.hid hR
          clear hR
          simp only [Par.Gives]
          go_simp
          all_goals exact HR.out
        · have HR := Lib.hid hR
          clear hR
          simp only [Par.Gives]
          go_simp
          all_goals exact HR.out
        · have HR := Lib.hid hR
          clear hR
          simp only [Par.Gives]
          go_simp
          all_goals exact HR.out
        · have HR := Lib.hid hR
          have zt := (HX.out w' hR).2.2.2.1
          clear hR
          simp only [Par.Gives]
          go_simp
          all_goals exact HR.out
        · have HR := Lib.hid hR
          clear hR
          simp only [Par.Gives]
          go_simp
          all_goals exact HR.out
        · have HR := Lib.hid hR
          clear hR
          simp only [Par.Gives]
          go_simp
          all_goals exact HR.out
        · have HR := Lib.hid hR
          clear hR
          simp only [Par.Gives]
          go_simp
          all_goals exact HR.out
        · have HR := Lib.hid hR
          have zk := (HX.out w' hR).2.2.2.2.1
          clear hR
          simp only [Par.Gives]
          go_simp
          all_goals exact HR.out
        · have HR := Lib.hid hR
          clear hR
          simp only [Par.Gives]
          go_simp
          all_goals exact HR.out
        · have HR := Lib.hid hR
          clear hR
          simp only [Par.Gives]
          go_simp
          all_goals exact HR.out
        · have HR := Lib.hid hR
          clear hR
          simp only [Par.Gives]
          go_simp
          all_goals exact HR.out
      case hT3 =>
        intro w' hR
        simp only [List.drop_succ_cons, List.drop_zero]
        have hW := HB.out.trans (hR.mono HS.out)
        clear hR
        go_wp2_with fail
        go_ret
        exact ⟨rfl, hW⟩
end
end Go.Proofs.YtffpmmphpdkkbaaGreat
namespace Go.Proofs.YtffpmmphpdkkbaaGreat
open Go Go.RowKit Go.Proofs Co Co.S

abbrev R1 := Int × List T3
abbrev z3 : T3 := (0, 0, ⟨#[]⟩)
/-- What stands at a place. -/
def rowOf (cl : Nat → List T3) (n p : Nat) : List T3 := (List.range n).map fun k => ((cl k)[p]?).getD z3
theorem rowOf_len (cl : Nat → List T3) (n p : Nat) : (rowOf cl n p).length = n := by simp [rowOf]
theorem rowOf_get (cl : Nat → List T3) {n p k : Nat} (h : k < n) : (rowOf cl n p)[k]? = some (((cl k)[p]?).getD z3) := by simp [rowOf, h]
theorem rowOf_eq {cl : Nat → List T3} {n p : Nat} {l : List T3} (hl : l.length = n) (h : ∀ k, k < n → (cl k)[p]? = l[k]?) : l = rowOf cl n p := by
  apply List.ext_getElem?
  intro k
  by_cases hk : k < n
  · rw [rowOf_get cl hk, h k hk, List.getElem?_eq_getElem (by omega)]
    rfl
  · rw [List.getElem?_eq_none (by omega), List.getElem?_eq_none (by rw [rowOf_len]; omega)]
theorem rowOf_congr {cl cl' : Nat → List T3} {n p : Nat} (h : ∀ k, k < n → (cl' k)[p]? = (cl k)[p]?) : rowOf cl n p = rowOf cl' n p := by
  apply List.map_congr_left
  intro k hk
  rw [h k (List.mem_range.1 hk)]

/-- The rows are A, rising. -/
structure Inv (n next : Nat) (i : In) (A : List R1) : Prop where
  np : i.np = A.length
  lens : ∀ k, k < n → (i.cl k).length = A.length + i.free.length
  srt : A.Pairwise (fun a b => a.1 < b.1)
  rng : ∀ a ∈ A, 0 ≤ a.1 ∧ a.1 < next
  pl : ∀ a ∈ A, ∃ p, i.f a.1 = some p ∧ p < A.length + i.free.length ∧ a.2 = rowOf i.cl n p
  no : ∀ x, (∀ a ∈ A, a.1 ≠ x) → i.f x = none
  inj : ∀ x y p, i.f x = some p → i.f y = some p → x = y
  fre : ∀ p ∈ i.free, p < A.length + i.free.length ∧ (∀ x, i.f x ≠ some p) ∧ ∀ k, k < n → (i.cl k)[p]? = some z3
  fnd : i.free.Nodup
  cov : ∀ p, p < A.length + i.free.length → p ∈ i.free ∨ ∃ a ∈ A, i.f a.1 = some p
  gone : ∀ x, (i.G x = true ∨ x ∈ i.late) ↔ (0 ≤ x ∧ x < next ∧ ∀ a ∈ A, a.1 ≠ x)
  few : A.length + i.free.length ≤ next
  lat : i.late.length ≤ 63
  lim : next ≤ 65536
section
variable {n next : Nat} {i i' : In} {A : List R1}
theorem Inv.atP {x : Int} {p : Nat} (h : Inv n next i A) (hf : i.f x = some p) : ∃ a ∈ A, a.1 = x ∧ p < A.length + i.free.length ∧ a.2 = rowOf i.cl n p := by
  by_cases hx : ∃ a ∈ A, a.1 = x
  · obtain ⟨a, ha, rfl⟩ := hx
    obtain ⟨q, h1, h2, h3⟩ := h.pl a ha
    rw [hf] at h1
    cases h1
    exact ⟨a, ha, rfl, h2, h3⟩
  · rw [h.no x (fun a ha e => hx ⟨a, ha, e⟩)] at hf
    cases hf
theorem Inv.is {x : Int} (h : Inv n next i A) : (i.f x).isSome = true ↔ ∃ a ∈ A, a.1 = x := by
  constructor
  · intro hs
    obtain ⟨p, hp⟩ := Option.isSome_iff_exists.1 hs
    obtain ⟨a, h1, h2, _⟩ := h.atP hp
    exact ⟨a, h1, h2⟩
  · rintro ⟨a, ha, rfl⟩
    obtain ⟨p, hp, _⟩ := h.pl a ha
    rw [hp]; rfl
/-- One id, one row. -/
theorem srt_one {A : List R1} (h : A.Pairwise (fun a b => a.1 < b.1)) {a b : R1} (ha : a ∈ A) (hb : b ∈ A) (e : a.1 = b.1) : a = b := by
  induction A with
  | nil => cases ha
  | cons c r ih =>
    rw [List.pairwise_cons] at h
    rcases List.mem_cons.1 ha with rfl | ha <;> rcases List.mem_cons.1 hb with rfl | hb
    · rfl
    · have := h.1 b (by assumption); omega
    · have := h.1 a (by assumption); omega
    · exact ih h.2 (by assumption) (by assumption)

/-- A row comes. -/
theorem Inv.ins (h : Inv n next i A) {p : Nat} {vals : List T3} (hv : vals.length = n) (hn : next + 1 ≤ 65536) (hnp : i'.np = i.np + 1) (hf : i'.f = upF i.f next p) (hl : i'.late = i.late) (hG : i'.G = i.G)
    (hnf : ∀ x, i.f x ≠ some p) (hfr : ∀ q, q ∈ i'.free ↔ q ∈ i.free ∧ q ≠ p) (hnd : i'.free.Nodup) (hP : ∀ q, q < A.length + 1 + i'.free.length ↔ (q < A.length + i.free.length ∨ q = p)) (hfew : A.length + 1 + i'.free.length ≤ next + 1)
    (hlen : ∀ k, k < n → (i'.cl k).length = A.length + 1 + i'.free.length) (h1 : ∀ k, k < n → (i'.cl k)[p]? = vals[k]?) (h2 : ∀ k, k < n → ∀ q, q ≠ p → (i'.cl k)[q]? = (i.cl k)[q]?) : Inv n (next + 1) i' (A ++ [((next : Int), vals)]) := by
  have hA : (A ++ [((next : Int), vals)]).length = A.length + 1 := by simp
  have hnx : ∀ a ∈ A, a.1 ≠ (next : Int) := fun a ha => by have := (h.rng a ha).2; omega
  refine ⟨by rw [hA, hnp, h.np], fun k hk => by rw [hA]; exact hlen k hk, ?_, ?_, ?_, ?_, ?_, ?_, hnd, ?_, ?_, by rw [hA]; exact hfew, by rw [hl]; exact h.lat, hn⟩
  · rw [List.pairwise_append]
    refine ⟨h.srt, by simp, fun a ha b hb => ?_⟩
    rw [List.mem_singleton.1 hb]
    exact (h.rng a ha).2
  · intro a ha
    rcases List.mem_append.1 ha with ha | ha
    · have := h.rng a ha; omega
    · rw [List.mem_singleton.1 ha]; exact ⟨by simp only; omega, by simp only; omega⟩
  · intro a ha
    rw [hA, hf]
    rcases List.mem_append.1 ha with ha | ha
    · obtain ⟨q, q1, q2, q3⟩ := h.pl a ha
      have hqp : q ≠ p := fun e => hnf a.1 (by rw [q1, e])
      refine ⟨q, ?_, (hP q).2 (.inl q2), ?_⟩
      · unfold upF; rw [if_neg (hnx a ha)]; exact q1
      · rw [q3]; exact rowOf_congr (fun k hk => h2 k hk q hqp)
    · rw [List.mem_singleton.1 ha]
      exact ⟨p, by unfold upF; rw [if_pos rfl], (hP p).2 (.inr rfl), rowOf_eq hv h1⟩
  · intro x hx
    rw [hf]
    unfold upF
    rw [if_neg (fun e => hx _ (List.mem_append.2 (.inr (List.mem_singleton.2 rfl))) e.symm)]
    exact h.no x (fun a ha => hx a (List.mem_append.2 (.inl ha)))
  · intro x y q hx hy
    rw [hf] at hx hy
    unfold upF at hx hy
    by_cases ex : x = (next : Int) <;> by_cases ey : y = (next : Int)
    · rw [ex, ey]
    · rw [if_pos ex] at hx
      rw [if_neg ey] at hy
      cases hx
      exact absurd hy (hnf y)
    · rw [if_neg ex] at hx
      rw [if_pos ey] at hy
      cases hy
      exact absurd hx (hnf x)
    · rw [if_neg ex] at hx
      rw [if_neg ey] at hy
      exact h.inj x y q hx hy
  · intro q hq
    obtain ⟨q1, q2⟩ := (hfr q).1 hq
    obtain ⟨q3, q4, q5⟩ := h.fre q q1
    refine ⟨by rw [hA]; exact (hP q).2 (.inl q3), fun x => ?_, fun k hk => (h2 k hk q q2).trans (q5 k hk)⟩
    rw [hf]
    unfold upF
    split
    · intro e; cases e; exact q2 rfl
    · exact q4 x
  · intro q hq
    rw [hA] at hq
    rw [hf]
    by_cases e : q = p
    · subst e
      exact .inr ⟨_, List.mem_append.2 (.inr (List.mem_singleton.2 rfl)), by unfold upF; rw [if_pos rfl]⟩
    · rcases h.cov q (((hP q).1 hq).resolve_right e) with h3 | ⟨a, ha, h3⟩
      · exact .inl ((hfr q).2 ⟨h3, e⟩)
      · exact .inr ⟨a, List.mem_append.2 (.inl ha), by unfold upF; rw [if_neg (hnx a ha)]; exact h3⟩
  · intro x
    rw [hl, hG, h.gone x]
    constructor
    · rintro ⟨g1, g2, g3⟩
      refine ⟨g1, by omega, fun a ha => ?_⟩
      rcases List.mem_append.1 ha with ha | ha
      · exact g3 a ha
      · rw [List.mem_singleton.1 ha]; simp only; omega
    · rintro ⟨g1, g2, g3⟩
      have := g3 _ (List.mem_append.2 (.inr (List.mem_singleton.2 rfl)))
      simp only at this
      exact ⟨g1, by omega, fun a ha => g3 a (List.mem_append.2 (.inl ha))⟩

def without (A : List R1) (x : Int) : List R1 := A.filter fun a => decide (a.1 ≠ x)
theorem mem_without {A : List R1} {x : Int} {a : R1} : a ∈ without A x ↔ a ∈ A ∧ a.1 ≠ x := by simp [without]
theorem without_len {A : List R1} (hs : A.Pairwise (fun a b => a.1 < b.1)) {a : R1} (ha : a ∈ A) : (without A a.1).length + 1 = A.length := by
  induction A with
  | nil => cases ha
  | cons c r ih =>
    rw [List.pairwise_cons] at hs
    unfold without at ih ⊢
    rcases List.mem_cons.1 ha with rfl | ha
    · rw [List.filter_cons_of_neg (by simp)]
      rw [List.filter_eq_self.2 (fun b hb => by have := hs.1 b hb; simp; omega)]
      rfl
    · have := hs.1 a ha
      rw [List.filter_cons_of_pos (by simp; omega), List.length_cons, List.length_cons, ih hs.2 ha]
/-- A row goes. -/
theorem Inv.del (h : Inv n next i A) {a : R1} (ha : a ∈ A) {p : Nat} (hp : i.f a.1 = some p) (hnp : i'.np = i.np - 1) (hf : i'.f = delF i.f a.1) (hfr : i'.free = i.free ++ [p])
    (hg : ∀ x, (i'.G x = true ∨ x ∈ i'.late) ↔ ((i.G x = true ∨ x ∈ i.late) ∨ x = a.1)) (hlat : i'.late.length ≤ 63) (hcl : ∀ k, k < n → i'.cl k = (i.cl k).set p z3) : Inv n next i' (without A a.1) := by
  have hA := without_len h.srt ha
  obtain ⟨p', h1, h2, h3⟩ := h.pl a ha
  rw [hp] at h1
  cases h1
  have hlen : (without A a.1).length + i'.free.length = A.length + i.free.length := by rw [hfr, List.length_append, List.length_singleton]; omega
  have hpf : p ∉ i.free := fun hm => (h.fre p hm).2.1 a.1 hp
  have hcl2 : ∀ k, k < n → ∀ q, q ≠ p → (i'.cl k)[q]? = (i.cl k)[q]? := fun k hk q hq => by rw [hcl k hk, List.getElem?_set_ne (fun e => hq e.symm)]
  have hcl1 : ∀ k, k < n → (i'.cl k)[p]? = some z3 := fun k hk => by rw [hcl k hk, List.getElem?_set_self (by rw [h.lens k hk]; exact h2)]
  refine ⟨by rw [hnp, h.np]; omega, fun k hk => by rw [hlen, hcl k hk, List.length_set]; exact h.lens k hk, h.srt.filter _, fun b hb => h.rng b (mem_without.1 hb).1, ?_, ?_, ?_, ?_, ?_, ?_, ?_, by rw [hlen]; exact h.few, hlat, h.lim⟩
  · intro b hb
    obtain ⟨hb1, hb2⟩ := mem_without.1 hb
    obtain ⟨q, q1, q2, q3⟩ := h.pl b hb1
    have hqp : q ≠ p := fun e => hb2 (h.inj _ _ _ q1 (by rw [hp, e]))
    refine ⟨q, by rw [hf]; unfold delF; rw [if_neg hb2]; exact q1, by rw [hlen]; exact q2, ?_⟩
    rw [q3]; exact rowOf_congr (fun k hk => hcl2 k hk q hqp)
  · intro x hx
    rw [hf]
    unfold delF
    by_cases e : x = a.1
    · rw [if_pos e]
    · rw [if_neg e]
      exact h.no x (fun b hb he => hx b (mem_without.2 ⟨hb, by rw [he]; exact e⟩) he)
  · intro x y q hx hy
    rw [hf] at hx hy
    unfold delF at hx hy
    by_cases ex : x = a.1
    · rw [if_pos ex] at hx; cases hx
    · by_cases ey : y = a.1
      · rw [if_pos ey] at hy; cases hy
      · rw [if_neg ex] at hx
        rw [if_neg ey] at hy
        exact h.inj x y q hx hy
  · intro q hq
    rw [hfr] at hq
    rw [hlen, hf]
    rcases List.mem_append.1 hq with hq | hq
    · obtain ⟨q3, q4, q5⟩ := h.fre q hq
      refine ⟨q3, fun x => ?_, fun k hk => (hcl2 k hk q (fun e => hpf (e ▸ hq))).trans (q5 k hk)⟩
      unfold delF
      split
      · intro e; cases e
      · exact q4 x
    · rw [List.mem_singleton.1 hq]
      refine ⟨h2, fun x => ?_, hcl1⟩
      unfold delF
      split
      · intro e; cases e
      · rename_i hx
        exact fun e => hx (h.inj _ _ _ e hp)
  · rw [hfr, List.nodup_append]
    exact ⟨h.fnd, by simp, fun x hx y hy e => hpf (by rw [List.mem_singleton.1 hy] at e; rw [← e]; exact hx)⟩
  · intro q hq
    rw [hlen] at hq
    rw [hfr, hf]
    rcases h.cov q hq with h4 | ⟨b, hb, h4⟩
    · exact .inl (List.mem_append.2 (.inl h4))
    · by_cases e : b.1 = a.1
      · rw [e, hp] at h4
        cases h4
        exact .inl (List.mem_append.2 (.inr (List.mem_singleton.2 rfl)))
      · exact .inr ⟨b, mem_without.2 ⟨hb, e⟩, by unfold delF; rw [if_neg e]; exact h4⟩
  · intro x
    rw [hg x, h.gone x]
    constructor
    · rintro (⟨g1, g2, g3⟩ | rfl)
      · exact ⟨g1, g2, fun b hb => g3 b (mem_without.1 hb).1⟩
      · have := h.rng a ha
        exact ⟨this.1, this.2, fun b hb => (mem_without.1 hb).2⟩
    · rintro ⟨g1, g2, g3⟩
      by_cases e : x = a.1
      · exact .inr e
      · exact .inl ⟨g1, g2, fun b hb he => g3 b (mem_without.2 ⟨hb, by rw [he]; exact e⟩) he⟩

def setA (A : List R1) (x : Int) (j : Nat) (v : T3) : List R1 := A.map fun a => if a.1 = x then (a.1, a.2.set j v) else a
theorem setA_len (A : List R1) (x : Int) (j : Nat) (v : T3) : (setA A x j v).length = A.length := by simp [setA]
theorem setA_ids (A : List R1) (x : Int) (j : Nat) (v : T3) : (setA A x j v).map (·.1) = A.map (·.1) := by
  unfold setA
  rw [List.map_map]
  apply List.map_congr_left
  intro a _
  simp only [Function.comp]
  split <;> rfl
theorem mem_ids {A : List R1} {x : Int} : (∃ a ∈ A, a.1 = x) ↔ x ∈ A.map (·.1) := by simp
theorem ids_none {A B : List R1} (e : B.map (·.1) = A.map (·.1)) (x : Int) : (∀ a ∈ B, a.1 ≠ x) ↔ ∀ a ∈ A, a.1 ≠ x := by
  have h1 := mem_ids (A := A) (x := x)
  have h2 := mem_ids (A := B) (x := x)
  rw [e, ← h1] at h2
  constructor
  · intro h a ha he
    obtain ⟨b, hb, hbe⟩ := h2.2 ⟨a, ha, he⟩
    exact h b hb hbe
  · intro h a ha he
    obtain ⟨b, hb, hbe⟩ := h2.1 ⟨a, ha, he⟩
    exact h b hb hbe
/-- A value is turned. -/
theorem Inv.set (h : Inv n next i A) {a : R1} (ha : a ∈ A) {p j : Nat} (hj : j < n) {v : T3} (hp : i.f a.1 = some p) (hnp : i'.np = i.np) (hf : i'.f = i.f) (hfr : i'.free = i.free)
    (hl : i'.late = i.late) (hG : i'.G = i.G) (hcl : ∀ k, k < n → i'.cl k = if k = j then (i.cl k).set p v else i.cl k) : Inv n next i' (setA A a.1 j v) := by
  have hids := setA_ids A a.1 j v
  have hA := setA_len A a.1 j v
  obtain ⟨p', h1, h2, h3⟩ := h.pl a ha
  rw [hp] at h1
  cases h1
  have hpf : p ∉ i.free := fun hm => (h.fre p hm).2.1 a.1 hp
  have hcl2 : ∀ k, k < n → ∀ q, q ≠ p → (i'.cl k)[q]? = (i.cl k)[q]? := fun k hk q hq => by
    rw [hcl k hk]; split
    · rw [List.getElem?_set_ne (fun e => hq e.symm)]
    · rfl
  have hlen : ∀ k, k < n → (i'.cl k).length = A.length + i.free.length := fun k hk => by
    rw [hcl k hk]; split
    · rw [List.length_set]; exact h.lens k hk
    · exact h.lens k hk
  refine ⟨by rw [hnp, h.np, hA], fun k hk => by rw [hA, hfr]; exact hlen k hk, ?_, ?_, ?_, ?_, ?_, ?_, by rw [hfr]; exact h.fnd, ?_, ?_, by rw [hA, hfr]; exact h.few, by rw [hl]; exact h.lat, h.lim⟩
  · have := h.srt
    rw [← List.pairwise_map (f := fun a : R1 => a.1) (R := (· < ·))] at this ⊢
    rw [hids]; exact this
  · intro b hb
    have : b.1 ∈ A.map (·.1) := by rw [← hids]; exact List.mem_map_of_mem hb
    obtain ⟨c, hc, e⟩ := List.mem_map.1 this
    rw [← e]; exact h.rng c hc
  · intro b hb
    rw [hf, hA, hfr]
    obtain ⟨c, hc, rfl⟩ := List.mem_map.1 hb
    obtain ⟨q, q1, q2, q3⟩ := h.pl c hc
    by_cases e : c.1 = a.1
    · rw [if_pos e]
      have hqp : q = p := by rw [e, hp] at q1; cases q1; rfl
      subst hqp
      refine ⟨q, q1, q2, ?_⟩
      refine rowOf_eq (by rw [List.length_set, q3, rowOf_len]) (fun k hk => ?_)
      rw [hcl k hk]
      by_cases ek : k = j
      · subst ek
        rw [if_pos rfl, List.getElem?_set_self (by rw [h.lens k hk]; exact q2), List.getElem?_set_self (by rw [q3, rowOf_len]; exact hk)]
      · rw [if_neg ek, List.getElem?_set_ne (fun e => ek e.symm), q3, rowOf_get _ hk, List.getElem?_eq_getElem (by rw [h.lens k hk]; exact q2)]
        rfl
    · rw [if_neg e]
      have hqp : q ≠ p := fun e2 => e (h.inj _ _ _ q1 (by rw [hp, e2]))
      exact ⟨q, q1, q2, by rw [q3]; exact rowOf_congr (fun k hk => hcl2 k hk q hqp)⟩
  · intro x hx
    rw [hf]
    exact h.no x ((ids_none hids x).1 hx)
  · rw [hf]; exact h.inj
  · intro q hq
    rw [hfr] at hq
    rw [hf, hA, hfr]
    obtain ⟨q3, q4, q5⟩ := h.fre q hq
    exact ⟨q3, q4, fun k hk => (hcl2 k hk q (fun e => hpf (e ▸ hq))).trans (q5 k hk)⟩
  · intro q hq
    rw [hA, hfr] at hq
    rw [hf, hfr]
    rcases h.cov q hq with h4 | ⟨b, hb, h4⟩
    · exact .inl h4
    · refine .inr ⟨_, List.mem_map_of_mem hb, ?_⟩
      split
      · exact h4
      · exact h4
  · intro x
    rw [hl, hG, h.gone x]
    exact ⟨fun ⟨a, b, c⟩ => ⟨a, b, (ids_none hids x).2 c⟩, fun ⟨a, b, c⟩ => ⟨a, b, (ids_none hids x).1 c⟩⟩
/-- A text stands in a column just if it does in a row. -/
theorem Inv.texts (h : Inv n next i A) {k : Nat} (hk : k < n) (s : K 12) : (∃ x ∈ i.cl k, x.1 = 2 ∧ wd x.2.2 = s) ↔ ∃ a ∈ A, ∃ x, a.2[k]? = some x ∧ x.1 = 2 ∧ wd x.2.2 = s := by
  constructor
  · rintro ⟨x, hx, h1, h2⟩
    obtain ⟨p, hp, rfl⟩ := List.getElem_of_mem hx
    have hpl := hp
    rw [h.lens k hk] at hp
    rcases h.cov p hp with h3 | ⟨a, ha, h3⟩
    · have := (h.fre p h3).2.2 k hk
      rw [List.getElem?_eq_getElem hpl] at this
      rw [Option.some.inj this] at h1
      cases h1
    · obtain ⟨q, q1, q2, q3⟩ := h.pl a ha
      rw [h3] at q1
      cases q1
      refine ⟨a, ha, _, ?_, h1, h2⟩
      rw [q3, rowOf_get _ hk, List.getElem?_eq_getElem hpl]
      rfl
  · rintro ⟨a, ha, x, hx, h1, h2⟩
    obtain ⟨q, q1, q2, q3⟩ := h.pl a ha
    rw [q3, rowOf_get _ hk, List.getElem?_eq_getElem (by rw [h.lens k hk]; exact q2)] at hx
    cases hx
    exact ⟨_, List.getElem_mem _, h1, h2⟩
end
end Go.Proofs.YtffpmmphpdkkbaaGreat
