/- SchemaAll: its walk. -/
import Derived.Test.YtbhcmmkobadmnaaUA
import Derived.Test.YtbhcmmkobadmnaaBG
namespace Go.Proofs.Ytbhcmmkobadmnaa
open Go Go.RowKit Go.Proofs

set_option maxRecDepth 100000 in
set_option maxHeartbeats 8000000 in
theorem all_walk {l : List T} {v : Value} {ask col : ByteArray} {W : World} (h : InTs W v l) : Calls Try.prog 3 #[v, .string ask, .string col] W fun e w' => e = .returned (.bool true) ∧ Below W.heap.size W w' := by
  have HI := Lib.hid h
  obtain ⟨pv, capv, hv, _, _⟩ := h.slice
  obtain ⟨a2, ha⟩ : ∃ x, cutB 20 ask = x := ⟨_, rfl⟩
  obtain ⟨c2, hc⟩ : ∃ x, cutB 20 col = x := ⟨_, rfl⟩
  obtain ⟨us, hus⟩ : ∃ x, (l.map cutT).take 12 = x := ⟨_, rfl⟩
  obtain ⟨N, hN⟩ : ∃ x, us.length = x := ⟨_, rfl⟩
  obtain ⟨m0, hm0⟩ : ∃ m, l.length = m := ⟨_, rfl⟩
  rw [hm0] at hv
  subst hv
  have hsm : ∀ t ∈ us, Sm t := hus ▸ cuts_sm l
  have HU := Lib.hid (And.intro hus (And.intro hN hsm))
  have HA := Lib.hid (And.intro ha hc)
  clear h ha hc hus hN hsm hm0
  go_enter Try.func3, Try.ntmps3
  go_wp2_with fail
  refine (begun_any _).mono ?_
  rintro e w0 ⟨rfl, hb0⟩
  have H0 := Lib.hid hb0
  clear hb0
  go_wp2_with fail
  refine (tables_any (HI.out.on H0.out)).mono ?_
  rintro e w1 ⟨pl, nl, cl, xl, rfl, hT, hnl, hb1⟩
  rw [HU.out.1] at hT hnl
  rw [HU.out.2.1] at hnl
  have hnl := hnl.symm
  subst hnl
  have H1 := Lib.hid (And.intro (rd_row hT.row hT.tabs) (below_on H0.out hb1))
  have hN12 : N ≤ 12 := by rw [← HU.out.2.1, ← HU.out.1, List.length_take]; omega
  clear hT hb1
  have hA := cut_any ask w1
  have hC := cut_any col w1
  rw [HA.out.1] at hA
  rw [HA.out.2] at hC
  go_wp2_with (first
    | (go_at_call 10; (with_reducible refine hA.mono ?_); rintro e w2 ⟨rfl, hw2⟩; have hw2 := hw2.symm; subst hw2)
    | (go_at_call 10; (with_reducible refine hC.mono ?_); rintro e w2 ⟨rfl, hw2⟩; have hw2 := hw2.symm; subst hw2))
  clear hA hC
  refine (new_any _).mono ?_
  rintro e w2 ⟨rfl, hs, hb⟩
  have D0 := Lib.hid (LSt.start (St.new (Below.refl _ _) hs hb))
  clear hs hb
  obtain ⟨S, hS⟩ : ∃ S, w1.heap.size = S := ⟨_, rfl⟩
  rw [hS] at D0 ⊢
  clear hS
  go_upto_block 0 with fail
  go_cut [9] from 300 to 300 (fun rv wx => ∃ (p : Option Addr) (n cp : Nat) (xs : List Value), rv = .slice p n cp ∧ n = (kept us N).length ∧ LSt S w1 (kept us N) (kept us N) (.slice p n cp) xs wx)
  case first =>
    go_wp2_with fail
    go_loopg [9, 10] (N + 1) (fun gh rv iv w => ∃ (i : Nat) (p : Option Addr) (n cp : Nat) (xs : List Value), iv = .int .i64 (i : Int) ∧ i ≤ N ∧ N + 1 ≤ i + gh ∧ rv = .slice p n cp ∧ n = (kept us i).length ∧ LSt S w1 (kept us i) (kept us i) (.slice p n cp) xs w)
    case atStart => exact ⟨0, none, 0, 0, [], rfl, Nat.zero_le _, by omega, rfl, rfl, D0.out⟩
    case round =>
      obtain ⟨i, p, n, cp, xs, rfl, hi, hg, rfl, hn, hK⟩ := hrel
      have HNM := Lib.hid hn
      have HK := Lib.hid hK
      clear hn hK
      by_cases hlt : i < N
      · have hil : i < us.length := by rw [HU.out.2.1]; exact hlt
        obtain ⟨b, off, cv, dv, hpl, hb, g0, g1, g2, g3, hT⟩ := RdTs.tab H1.out.1 hil
        subst hpl
        have hsucc := kept_succ us i hil
        have hsm := HU.out.2.2 us[i] (List.getElem_mem _)
        obtain ⟨t, ht⟩ : ∃ t, us[i] = t := ⟨_, rfl⟩
        rw [ht] at g0 g2 hT hsucc hsm
        obtain ⟨p2, k2, hdv, _, _⟩ := hT.2.slice
        obtain ⟨nd, hnd⟩ : ∃ m, t.deps.length = m := ⟨_, rfl⟩
        rw [hnd] at hdv
        subst hdv
        obtain ⟨m, hm⟩ : ∃ m, mayP (kept us i) t = m := ⟨_, rfl⟩
        have hmay := rmay_any (hT.later HK.out.st.below) HK.out.rd (kept_inv us i).1 hsm
        rw [hm] at hmay
        have hadd : ∀ w, LSt S w1 (kept us i) (kept us i) (.slice p n cp) xs w → Calls Try.prog 13 #[(Value.pointer (some ⟨S, 0, none⟩)), .agg #[.string t.nm, cv, .string t.key, .slice p2 nd k2]] w fun e w' => e = .returned (.int .i64 m) ∧ Sch w' S (kept us (i + 1)) ∧ Chg (fun b => b = S) w w' := fun w hk => by
          rw [← hm, hsucc]; exact add_any (hT.later hk.st.below) hk.st.sch hsm
        have HADD := Lib.hid hadd
        have HG := Lib.hid (And.intro g0 (And.intro g1 (And.intro g2 g3)))
        have HT := Lib.hid hT
        have HM := Lib.hid (And.intro hm hsucc)
        have z0 := bel_cell HK.out.st.below g0
        have z1 := bel_cell HK.out.st.below g1
        have z2 := bel_cell HK.out.st.below g2
        have z3 := bel_cell HK.out.st.below g3
        have hji : (i : Int) < (N : Int) := by omega
        clear hb g0 g1 g2 g3 hT hsucc hsm ht hm hadd hnd hil
        by_cases hm0 : m = 0
        · subst hm0
          have HF := Lib.hid (And.intro (few_of HM.out.1).1 (cols_of HM.out.1))
          have HS : Hid (kept us (i + 1) = kept us i ++ [formT t]) := Lib.hid (by rw [HM.out.2]; unfold addT; rw [if_pos HM.out.1])
          go_wp2_with (first
            | (at_builtin; refine wpList_append_run rfl (.tmp 55) (.tmp 61) 28 rfl rfl rfl hrun ?_)
            | (go_at_call 12; (with_reducible refine hmay.mono ?_); rintro e w3 ⟨rfl, hb3⟩; have K3 := Lib.hid (HK.out.on hb3); have hadd := HADD.out _ K3.out; have y0 := bel_cell K3.out.st.below HG.out.1; have y1 := bel_cell K3.out.st.below HG.out.2.1; have y2 := bel_cell K3.out.st.below HG.out.2.2.1; have y3 := bel_cell K3.out.st.below HG.out.2.2.2; clear hmay hb3 z0 z1 z2 z3)
            | (go_at_call 13; (with_reducible refine hadd.mono ?_); rintro e w4 ⟨rfl, hs4, hc4⟩; have K4 := Lib.hid (K3.out.add hs4 hc4); have hform := rform_any (HT.out.later K4.out.st.below) HF.out.1 HF.out.2; have x0 := bel_cell K4.out.st.below HG.out.1; have x1 := bel_cell K4.out.st.below HG.out.2.1; have x2 := bel_cell K4.out.st.below HG.out.2.2.1; have x3 := bel_cell K4.out.st.below HG.out.2.2.2; clear hadd hs4 hc4 y0 y1 y2 y3)
            | (go_at_call 14; (with_reducible refine hform.mono ?_); rintro e w5 ⟨p5, k5, rfl, hr5, hb5⟩; obtain ⟨g, cap', w6, hrun, h6⟩ := (K4.out.on hb5).app (t := formT t) rfl rfl hr5 (Nat.le_trans (kept_inv us i).1.len (by decide)) Try.underlying28; rw [← HNM.out] at hrun h6; have H6 := Lib.hid h6; clear hform hr5 hb5 h6 x0 x1 x2 x3))
          go_roundg (N - i)
          case measure => omega
          case rel => exact ⟨i + 1, _, _, _, _, by go_num, by omega, by omega, rfl, by rw [HS.out, List.length_append, HNM.out]; rfl, by have := H6.out; rw [← HS.out] at this; exact this⟩
        · have HS : Hid (kept us (i + 1) = kept us i) := Lib.hid (by rw [HM.out.2]; unfold addT; rw [if_neg (by rw [HM.out.1]; exact hm0)])
          have hd0 : decide (m = 0) = false := decide_eq_false hm0
          go_wp2_with (first
            | (go_at_call 12; (with_reducible refine hmay.mono ?_); rintro e w3 ⟨rfl, hb3⟩; have K3 := Lib.hid (HK.out.on hb3); have hadd := HADD.out _ K3.out; have y0 := bel_cell K3.out.st.below HG.out.1; have y1 := bel_cell K3.out.st.below HG.out.2.1; have y2 := bel_cell K3.out.st.below HG.out.2.2.1; have y3 := bel_cell K3.out.st.below HG.out.2.2.2; clear hmay hb3 z0 z1 z2 z3)
            | (go_at_call 13; (with_reducible refine hadd.mono ?_); rintro e w4 ⟨rfl, hs4, hc4⟩; have K4 := Lib.hid (K3.out.add hs4 hc4); clear hadd hs4 hc4 y0 y1 y2 y3))
          go_roundg (N - i)
          case measure => omega
          case rel => exact ⟨i + 1, _, _, _, _, by go_num, by omega, by omega, rfl, by rw [HS.out, HNM.out], by have := K4.out; rw [HS.out] at this ⊢; exact this⟩
      · obtain rfl : i = N := by omega
        go_wp2_with fail
        go_meet
        exact ⟨p, n, cp, xs, rfl, HNM.out, HK.out⟩
  case rest =>
    obtain ⟨wa, rfl⟩ : ∃ wa, wa = wc := ⟨_, rfl⟩
    obtain ⟨p, n, cp, xs, rfl, hn, hK⟩ := hcut
    have hinv := kept_inv us N
    obtain ⟨ks, hks⟩ : ∃ ks, kept us N = ks := ⟨_, rfl⟩
    rw [hks] at hn hK hinv
    have HN := Lib.hid hn
    have HV := Lib.hid hinv
    have HK := Lib.hid hK
    clear hn hK hinv hks D0
    go_wp2_with fail
    refine (sNames_any HK.out.st.sch.p (Nat.le_trans HV.out.1.len (by decide))).mono ?_
    rintro e w3 ⟨v3, rfl, hr3, hb3⟩
    rw [← HN.out] at hr3
    obtain ⟨pn, cn, rfl, _, _⟩ := hr3.isslice
    have HK3 := Lib.hid (HK.out.on hb3)
    obtain ⟨B, hB⟩ : ∃ B, wa.heap.size = B := ⟨_, rfl⟩
    rw [hB] at hr3
    have HR3 := Lib.hid hr3
    clear hb3 hr3 hB
    have hn8 : n ≤ 8 := by rw [HN.out]; exact HV.out.1.len
    go_upto_block 2 with fail
    go_cut [] from 300 to 300 (fun wx => LSt S w1 ks ks (.slice p n cp) xs wx)
    case first =>
      go_wp2_with fail
      go_loopg [13] (n + 1) (fun gh iv w => ∃ (i : Nat), iv = .int .i64 (i : Int) ∧ i ≤ n ∧ n + 1 ≤ i + gh ∧ LSt S w1 ks ks (.slice p n cp) xs w ∧ HRow w B 9 1 (.slice pn n cn) n (cellsS (ks.map T.nm)))
      case atStart => exact ⟨0, rfl, Nat.zero_le _, by omega, HK3.out, HR3.out⟩
      case round =>
        obtain ⟨i, rfl, hi, hg, hK, hR⟩ := hrel
        have HK4 := Lib.hid hK
        by_cases hlt : i < n
        · have hil : i < ks.length := by rw [← HN.out]; exact hlt
          obtain ⟨b, off, cv, dv, hpl, hb, g0, g1, g2, g3, hT⟩ := RdTs.tab hK.rd hil
          obtain ⟨gn, cn', hgn, _, _⟩ := hR.slice (by omega)
          subst hpl
          have hq := Value.slice.inj hgn
          obtain ⟨e1, -, e2⟩ := hq
          clear hgn
          subst e1 e2
          have hnc : wr.cell? ⟨gn, i, none⟩ = some (.string ks[i].nm) := hR.cell (by unfold cellsS; rw [List.getElem?_map, List.getElem?_map, List.getElem?_eq_getElem hil]; rfl)
          have hf1 := (HV.out.1.one i hil).1
          have hh1 : hasT ks ks[i].nm = true := by
            rcases ixT_cases ks ks[i].nm with ⟨_, _, h3⟩ | ⟨_, _, _, h2, _⟩
            · rw [h3] at hf1; cases hf1
            · exact h2
          obtain ⟨t, ht⟩ : ∃ t, ks[i] = t := ⟨_, rfl⟩
          rw [ht] at g0 g2 hT hnc hf1 hh1
          obtain ⟨pc, kc, hcv, _, _⟩ := hT.1.slice
          obtain ⟨pd, kd, hdv, _, _⟩ := hT.2.slice
          obtain ⟨nc, hnc'⟩ : ∃ m, t.cols.length = m := ⟨_, rfl⟩
          obtain ⟨nd, hnd⟩ : ∃ m, t.deps.length = m := ⟨_, rfl⟩
          rw [hnc'] at hcv
          rw [hnd] at hdv
          subst hcv hdv
          have hfind := find_is (t := t) (nm := t.nm) (key := t.key) (ok := true) (x := t.nm) hK.st.sch.p HV.out.2 (by rw [hf1]; rfl) hh1 rfl rfl
          have HG := Lib.hid (And.intro g0 (And.intro g1 (And.intro g2 (And.intro g3 (And.intro hnc (And.intro hT hR))))))
          have hji : (i : Int) < (n : Int) := by omega
          have z0 := g0
          clear hb g1 g2 g3 hT hR hnc hf1 hh1 ht hnd hnc' hil hK g0
          go_wp2_with fail
          refine hfind.mono ?_
          rintro e w5 ⟨q1, m1, d1, q2, m2, d2, rfl, hr5, hb5⟩
          have H5 := Lib.hid (And.intro hr5 hb5)
          clear hr5 hb5 hfind z0
          go_upto_region 22 with fail
          have hx5 := heap_alloc_new w5 (boxT t.nm (.slice q1 m1 d1) t.key (.slice q2 m2 d2))
          have hb6 := below_alloc w5 (boxT t.nm (.slice q1 m1 d1) t.key (.slice q2 m2 d2))
          obtain ⟨TB, hTB⟩ : ∃ x, w5.heap.size = x := ⟨_, rfl⟩
          obtain ⟨w6, hw6⟩ : ∃ x, w5.alloc (boxT t.nm (.slice q1 m1 d1) t.key (.slice q2 m2 d2)) = x := ⟨_, rfl⟩
          have H6 := Lib.hid (And.intro (H5.out.1.later hb6) (And.intro (HK4.out.on (H5.out.2.trans (hb6.mono H5.out.2.size))) (And.intro (H5.out.2.trans (hb6.mono H5.out.2.size)) hx5)))
          rw [hw6, hTB] at H6 ⊢
          clear hx5 hb6 hTB hw6
          have HG6 : Hid (w6.cell? ⟨b, off + i * 4, none⟩ = some (.string t.nm) ∧ w6.cell? ⟨b, off + i * 4 + 1, none⟩ = some (.slice pc nc kc) ∧ w6.cell? ⟨b, off + i * 4 + 2, none⟩ = some (.string t.key) ∧ w6.cell? ⟨b, off + i * 4 + 3, none⟩ = some (.slice pd nd kd) ∧ w6.cell? ⟨gn, i, none⟩ = some (.string t.nm) ∧ RdT w6 (.slice pc nc kc) (.slice pd nd kd) t) :=
            Lib.hid ⟨bel_cell H6.out.2.2.1 HG.out.1, bel_cell H6.out.2.2.1 HG.out.2.1, bel_cell H6.out.2.2.1 HG.out.2.2.1, bel_cell H6.out.2.2.1 HG.out.2.2.2.1, bel_cell H6.out.2.2.1 HG.out.2.2.2.2.1, HG.out.2.2.2.2.2.1.later H6.out.2.2.1⟩
          refine Par.wp_region_par 23 [.bool true, .bool false, .bool false, .slice (some ⟨gn, 0, none⟩) n cn, .int .i64 i, (Value.pointer (some ⟨gn, 0 + i, none⟩)), .string t.nm, .slice (some ⟨b, off, none⟩) n cp, .int .i64 i, (Value.pointer (some ⟨b, off + i * 4, none⟩)), (Value.pointer (some ⟨b, off + i * 4, none⟩)), .string t.nm, .bool false, .bool false, .bool false, .agg #[.string t.nm, .slice q1 m1 d1, .string t.key, .slice q2 m2 d2], .slice (some ⟨b, off, none⟩) n cp, .int .i64 i, (Value.pointer (some ⟨b, off + i * 4, none⟩)), .agg #[.string t.nm, .slice pc nc kc, .string t.key, .slice pd nd kd], .bool true, .bool false, .bool false] (fun w => Below w6.heap.size w6 w) ?A1 ?hm1 ?hB1 ?hA1 ((below_drew w6)) ?hop1 ?hT1
          case hm1 => kernel_rfl
          case hB1 => kernel_rfl
          case hA1 =>
            simp only [Par.putA, Par.dstAt, Act.put, List.getElem?_toArray, List.getElem?_cons_zero, List.getElem?_cons_succ, Option.bind_some, List.setIfInBounds_toArray, List.set_cons_zero, List.set_cons_succ, List.getD_cons_zero, List.getD_cons_succ]
            rfl
          case hop1 =>
            simp only [List.take_succ_cons, List.take_zero, Par.GiveAll, and_true]
            refine ⟨fun w' hR => ?_, fun w' hR => ?_, fun w' hR => ?_, fun w' hR => ?_, fun w' hR => ?_, fun w' hR => ?_, fun w' hR => ?_, fun w' hR => ?_, fun w' hR => ?_, fun w' hR => ?_, fun w' hR => ?_, fun w' hR => ?_, fun w' hR => ?_, fun w' hR => ?_, fun w' hR => ?_, fun w' hR => ?_, fun w' hR => ?_, fun w' hR => ?_, fun w' hR => ?_, fun w' hR => ?_, fun w' hR => ?_, fun w' hR => ?_, fun w' hR => ?_⟩
            · have HR := Lib.hid hR
              clear hR
              simp only [Par.Gives]
              go_simp
              all_goals exact HR.out
            · have HR := Lib.hid hR
              clear hR
              simp only [Par.Gives]
              go_simp
              all_goals exact HR.out
            · have HR := Lib.hid hR
              clear hR
              simp only [Par.Gives]
              go_simp
              all_goals exact HR.out
            · have HR := Lib.hid hR
              clear hR
              simp only [Par.Gives]
              go_simp
              all_goals exact HR.out
            · have HR := Lib.hid hR
              clear hR
              simp only [Par.Gives]
              go_simp
              all_goals exact HR.out
            · have HR := Lib.hid hR
              clear hR
              simp only [Par.Gives]
              go_simp
              all_goals exact HR.out
            · have HR := Lib.hid hR
              have k := bel_cell hR HG6.out.2.2.2.2.1
              clear hR
              simp only [Par.Gives]
              go_simp
              all_goals exact HR.out
            · have HR := Lib.hid hR
              clear hR
              simp only [Par.Gives]
              go_simp
              all_goals exact HR.out
            · have HR := Lib.hid hR
              clear hR
              simp only [Par.Gives]
              go_simp
              all_goals exact HR.out
            · have HR := Lib.hid hR
              clear hR
              simp only [Par.Gives]
              go_simp
              all_goals exact HR.out
            · have HR := Lib.hid hR
              clear hR
              simp only [Par.Gives]
              go_simp
              all_goals exact HR.out
            · have HR := Lib.hid hR
              have k := bel_cell hR HG6.out.1
              clear hR
              simp only [Par.Gives]
              go_simp
              all_goals exact HR.out
            · have HR := Lib.hid hR
              clear hR
              simp only [Par.Gives]
              go_simp
              all_goals exact HR.out
            · have HR := Lib.hid hR
              clear hR
              simp only [Par.Gives]
              go_simp
              all_goals exact HR.out
            · have HR := Lib.hid hR
              clear hR
              simp only [Par.Gives]
              go_simp
              all_goals exact HR.out
            · have HR := Lib.hid hR
              have kk := heap_on hR H6.out.2.2.2
              have k0 := nd_cell kk 0
              have k1 := nd_cell kk 1
              have k2 := nd_cell kk 2
              have k3 := nd_cell kk 3
              clear hR
              simp only [Par.Gives]
              go_simp
              all_goals exact HR.out
            · have HR := Lib.hid hR
              clear hR
              simp only [Par.Gives]
              go_simp
              all_goals exact HR.out
            · have HR := Lib.hid hR
              clear hR
              simp only [Par.Gives]
              go_simp
              all_goals exact HR.out
            · have HR := Lib.hid hR
              clear hR
              simp only [Par.Gives]
              go_simp
              all_goals exact HR.out
            · have HR := Lib.hid hR
              have k0 := bel_cell hR HG6.out.1
              have k1 := bel_cell hR HG6.out.2.1
              have k2 := bel_cell hR HG6.out.2.2.1
              have k3 := bel_cell hR HG6.out.2.2.2.1
              clear hR
              simp only [Par.Gives]
              go_simp
              all_goals exact HR.out
            · have HR := Lib.hid hR
              clear hR
              simp only [Par.Gives]
              go_simp
              exact (eqTable_same (H6.out.1.later HR.out) (HG6.out.2.2.2.2.2.later HR.out)).mono (fun e w'' ⟨he, hb⟩ => ⟨he, below_on HR.out hb⟩)
            · have HR := Lib.hid hR
              clear hR
              simp only [Par.Gives]
              go_simp
              all_goals exact HR.out
            · have HR := Lib.hid hR
              clear hR
              simp only [Par.Gives]
              go_simp
              all_goals exact HR.out
          case hT1 =>
            intro w' hR
            simp only [List.drop_succ_cons, List.drop_nil]
            have H7 := Lib.hid (And.intro (H6.out.2.1.on hR) (HG.out.2.2.2.2.2.2.later (below_on H6.out.2.2.1 hR)))
            clear hR
            go_wp2_with fail
            go_roundg (n - i)
            case measure => omega
            case rel => exact ⟨i + 1, by go_num, by omega, by omega, H7.out.1, H7.out.2⟩
        · obtain rfl : i = n := by omega
          go_wp2_with fail
          go_meet
          exact HK4.out
    case rest =>
      have HK4 := Lib.hid hcut
      clear HK3 HR3 hcut
      rcases ixT_cases ks a2 with ⟨h1, h2, h3⟩ | ⟨j, hj, h1, h2, h3⟩
      · go_wp2_with fail
        refine (find_is (t := zeroT) (nm := e0) (key := e0) (ok := false) (x := a2) HK4.out.st.sch.p HV.out.2 (by rw [h3]; rfl) h2 rfl rfl).mono ?_
        rintro e w5 ⟨q1, m1, d1, q2, m2, d2, rfl, hr5, hb5⟩
        have K5 := Lib.hid (HK4.out.on hb5)
        clear hr5 hb5
        go_upto_region 25 with fail
        have hx := heap_alloc_new w5 (boxT e0 (.slice q1 m1 d1) e0 (.slice q2 m2 d2))
        have hb := below_alloc w5 (boxT e0 (.slice q1 m1 d1) e0 (.slice q2 m2 d2))
        obtain ⟨TB, hTB⟩ : ∃ x, w5.heap.size = x := ⟨_, rfl⟩
        obtain ⟨w6, hw6⟩ : ∃ x, w5.alloc (boxT e0 (.slice q1 m1 d1) e0 (.slice q2 m2 d2)) = x := ⟨_, rfl⟩
        have Kw6 := Lib.hid (And.intro (K5.out.on hb) hx)
        rw [hw6, hTB] at Kw6 ⊢
        clear hx hb hTB hw6
        have hf := rfind_any (x := a2) Kw6.out.1.rd
        rw [h1] at hf
        go_wp2_with fail
        refine hf.mono ?_
        rintro e w7 ⟨rfl, hw7⟩
        have hw7 := hw7.symm
        subst hw7
        clear hf
        go_wp2_with fail
        refine (col_is (nm := e0) (kd := 0) (mu := false) (tg := e0) (ok := false) (x := a2) (c := c2) Kw6.out.1.st.sch.p (by rw [h3]; rfl) (by rw [h3]; rfl)).mono ?_
        rintro e w8 ⟨rfl, hb8⟩
        have K8 := Lib.hid (And.intro (Kw6.out.1.on hb8) (heap_on hb8 Kw6.out.2))
        clear hb8
        go_upto_region 27 with fail
        have hx := heap_alloc_new w8 (.cells #[.string e0, .int .i64 0, .bool false, .string e0] 43)
        have hb := below_alloc w8 (.cells #[.string e0, .int .i64 0, .bool false, .string e0] 43)
        obtain ⟨CB, hCB⟩ : ∃ x, w8.heap.size = x := ⟨_, rfl⟩
        obtain ⟨w9, hw9⟩ : ∃ x, w8.alloc (.cells #[.string e0, .int .i64 0, .bool false, .string e0] 43) = x := ⟨_, rfl⟩
        have Kw9 := Lib.hid (And.intro (K8.out.1.on hb) (And.intro (heap_on hb K8.out.2) hx))
        rw [hw9, hCB] at Kw9 ⊢
        clear hx hb hCB hw9
        have y0 := nd_cell Kw9.out.2.1 0
        have yl := lt_of_heap Kw9.out.2.1
        clear h1 h2 h3
        go_wp2_with fail
        go_ret
        exact ⟨rfl, below_on H1.out.2 Kw9.out.1.st.below⟩
      · obtain ⟨t, ht⟩ : ∃ t, ks[j] = t := ⟨_, rfl⟩
        rw [ht] at h3
        rcases ixC_cases t.cols c2 with ⟨k1, k2, k3⟩ | ⟨k, hk, k1, k2, k3⟩
        · go_wp2_with fail
          refine (find_is (t := t) (nm := t.nm) (key := t.key) (ok := true) (x := a2) HK4.out.st.sch.p HV.out.2 (by rw [h3]; rfl) h2 rfl rfl).mono ?_
          rintro e w5 ⟨q1, m1, d1, q2, m2, d2, rfl, hr5, hb5⟩
          have K5 := Lib.hid (HK4.out.on hb5)
          clear hr5 hb5
          go_upto_region 25 with fail
          have hx := heap_alloc_new w5 (boxT t.nm (.slice q1 m1 d1) t.key (.slice q2 m2 d2))
          have hb := below_alloc w5 (boxT t.nm (.slice q1 m1 d1) t.key (.slice q2 m2 d2))
          obtain ⟨TB, hTB⟩ : ∃ x, w5.heap.size = x := ⟨_, rfl⟩
          obtain ⟨w6, hw6⟩ : ∃ x, w5.alloc (boxT t.nm (.slice q1 m1 d1) t.key (.slice q2 m2 d2)) = x := ⟨_, rfl⟩
          have Kw6 := Lib.hid (And.intro (K5.out.on hb) hx)
          rw [hw6, hTB] at Kw6 ⊢
          clear hx hb hTB hw6
          have hf := rfind_any (x := a2) Kw6.out.1.rd
          rw [h1] at hf
          go_wp2_with fail
          refine hf.mono ?_
          rintro e w7 ⟨rfl, hw7⟩
          have hw7 := hw7.symm
          subst hw7
          clear hf
          go_wp2_with fail
          refine (col_is (nm := e0) (kd := 0) (mu := false) (tg := e0) (ok := false) (x := a2) (c := c2) Kw6.out.1.st.sch.p (by rw [h3]; exact (congrArg orC k3)) (by rw [h3]; exact k2)).mono ?_
          rintro e w8 ⟨rfl, hb8⟩
          have K8 := Lib.hid (And.intro (Kw6.out.1.on hb8) (heap_on hb8 Kw6.out.2))
          clear hb8
          go_upto_region 27 with fail
          have hx := heap_alloc_new w8 (.cells #[.string e0, .int .i64 0, .bool false, .string e0] 43)
          have hb := below_alloc w8 (.cells #[.string e0, .int .i64 0, .bool false, .string e0] 43)
          obtain ⟨CB, hCB⟩ : ∃ x, w8.heap.size = x := ⟨_, rfl⟩
          obtain ⟨w9, hw9⟩ : ∃ x, w8.alloc (.cells #[.string e0, .int .i64 0, .bool false, .string e0] 43) = x := ⟨_, rfl⟩
          have Kw9 := Lib.hid (And.intro (K8.out.1.on hb) (And.intro (heap_on hb K8.out.2) hx))
          rw [hw9, hCB] at Kw9 ⊢
          clear hx hb hCB hw9
          obtain ⟨b, off, cv, dv, hpl, hb, g0, g1, g2, g3, hT⟩ := RdTs.tab Kw9.out.1.rd hj
          subst hpl
          rw [ht] at g0 g2 hT
          obtain ⟨pc, kc, hcv, _, _⟩ := hT.1.slice
          obtain ⟨pd, kd, hdv, _, _⟩ := hT.2.slice
          obtain ⟨nc, hnc⟩ : ∃ m, t.cols.length = m := ⟨_, rfl⟩
          obtain ⟨nd, hnd⟩ : ∃ m, t.deps.length = m := ⟨_, rfl⟩
          rw [hnc] at hcv
          rw [hnd] at hdv
          subst hcv hdv
          have hcl := rcolOf_any (x := c2) hT
          rw [k1] at hcl
          have hd : decide ((j : Int) < 0) = false := decide_eq_false (by omega)
          have hjn : (j : Int) < (n : Int) := by rw [HN.out]; omega
          clear h1 h2 h3 k1 k2 k3 hb hT hnd ht hnc
          go_wp2_with (go_at_call 20; (with_reducible refine hcl.mono ?_); rintro e w10 ⟨rfl, hb10⟩; have K10 := Lib.hid (Kw9.out.1.on hb10); have kx := heap_on hb10 Kw9.out.2.2; have y0 := nd_cell kx 0; have yl := lt_of_heap kx; clear hb10 hcl g0 g1 g2 g3 kx)
          go_ret
          exact ⟨rfl, below_on H1.out.2 K10.out.st.below⟩
        · obtain ⟨c, hc⟩ : ∃ c, t.cols[k] = c := ⟨_, rfl⟩
          rw [hc] at k3
          go_wp2_with fail
          refine (find_is (t := t) (nm := t.nm) (key := t.key) (ok := true) (x := a2) HK4.out.st.sch.p HV.out.2 (by rw [h3]; rfl) h2 rfl rfl).mono ?_
          rintro e w5 ⟨q1, m1, d1, q2, m2, d2, rfl, hr5, hb5⟩
          have K5 := Lib.hid (HK4.out.on hb5)
          clear hr5 hb5
          go_upto_region 25 with fail
          have hx := heap_alloc_new w5 (boxT t.nm (.slice q1 m1 d1) t.key (.slice q2 m2 d2))
          have hb := below_alloc w5 (boxT t.nm (.slice q1 m1 d1) t.key (.slice q2 m2 d2))
          obtain ⟨TB, hTB⟩ : ∃ x, w5.heap.size = x := ⟨_, rfl⟩
          obtain ⟨w6, hw6⟩ : ∃ x, w5.alloc (boxT t.nm (.slice q1 m1 d1) t.key (.slice q2 m2 d2)) = x := ⟨_, rfl⟩
          have Kw6 := Lib.hid (And.intro (K5.out.on hb) hx)
          rw [hw6, hTB] at Kw6 ⊢
          clear hx hb hTB hw6
          have hf := rfind_any (x := a2) Kw6.out.1.rd
          rw [h1] at hf
          go_wp2_with fail
          refine hf.mono ?_
          rintro e w7 ⟨rfl, hw7⟩
          have hw7 := hw7.symm
          subst hw7
          clear hf
          go_wp2_with fail
          refine (col_is (nm := c.nm) (kd := c.kd) (mu := c.mu) (tg := c.tgt) (ok := true) (x := a2) (c := c2) Kw6.out.1.st.sch.p (by rw [h3]; exact (congrArg orC k3)) (by rw [h3]; exact k2)).mono ?_
          rintro e w8 ⟨rfl, hb8⟩
          have K8 := Lib.hid (And.intro (Kw6.out.1.on hb8) (heap_on hb8 Kw6.out.2))
          clear hb8
          go_upto_region 27 with fail
          have hx := heap_alloc_new w8 (.cells #[.string c.nm, .int .i64 c.kd, .bool c.mu, .string c.tgt] 43)
          have hb := below_alloc w8 (.cells #[.string c.nm, .int .i64 c.kd, .bool c.mu, .string c.tgt] 43)
          obtain ⟨CB, hCB⟩ : ∃ x, w8.heap.size = x := ⟨_, rfl⟩
          obtain ⟨w9, hw9⟩ : ∃ x, w8.alloc (.cells #[.string c.nm, .int .i64 c.kd, .bool c.mu, .string c.tgt] 43) = x := ⟨_, rfl⟩
          have Kw9 := Lib.hid (And.intro (K8.out.1.on hb) (And.intro (heap_on hb K8.out.2) hx))
          rw [hw9, hCB] at Kw9 ⊢
          clear hx hb hCB hw9
          obtain ⟨b, off, cv, dv, hpl, hb, g0, g1, g2, g3, hT⟩ := RdTs.tab Kw9.out.1.rd hj
          subst hpl
          rw [ht] at g0 g2 hT
          obtain ⟨pc, kc, hcv, _, _⟩ := hT.1.slice
          obtain ⟨pd, kd, hdv, _, _⟩ := hT.2.slice
          obtain ⟨nc, hnc⟩ : ∃ m, t.cols.length = m := ⟨_, rfl⟩
          obtain ⟨nd, hnd⟩ : ∃ m, t.deps.length = m := ⟨_, rfl⟩
          rw [hnc] at hcv
          rw [hnd] at hdv
          subst hcv hdv
          have hcl := rcolOf_any (x := c2) hT
          rw [k1] at hcl
          obtain ⟨bc, oc, hpc, _, f0, f1, f2, f3⟩ := RdC.col hT.1 hk
          subst hpc
          rw [hc] at f0 f1 f2 f3
          have HF := Lib.hid (And.intro g1 (And.intro f0 (And.intro f1 (And.intro f2 f3))))
          have hd : decide ((j : Int) < 0) = false := decide_eq_false (by omega)
          have hd2 : decide ((k : Int) < 0) = false := decide_eq_false (by omega)
          have hjn : (j : Int) < (n : Int) := by rw [HN.out]; omega
          have hkn : (k : Int) < (nc : Int) := by rw [← hnc]; omega
          clear h1 h2 h3 k1 k2 k3 hb hT hnd ht hnc f0 f1 f2 f3 hc
          go_wp2_with fail
          refine hcl.mono ?_
          rintro e w10 ⟨rfl, hb10⟩
          have K10 := Lib.hid (And.intro (Kw9.out.1.on hb10) (heap_on hb10 Kw9.out.2.2))
          have v1 := bel_cell hb10 HF.out.1
          have f0 := bel_cell hb10 HF.out.2.1
          have f1 := bel_cell hb10 HF.out.2.2.1
          have f2 := bel_cell hb10 HF.out.2.2.2.1
          have f3 := bel_cell hb10 HF.out.2.2.2.2
          clear hb10 hcl g0 g1 g2 g3
          go_upto_region 33 with fail
          have hx := heap_alloc_new w10 (.cells #[.string c.nm, .int .i64 c.kd, .bool c.mu, .string c.tgt] 43)
          have hb := below_alloc w10 (.cells #[.string c.nm, .int .i64 c.kd, .bool c.mu, .string c.tgt] 43)
          obtain ⟨XB, hXB⟩ : ∃ x, w10.heap.size = x := ⟨_, rfl⟩
          obtain ⟨w11, hw11⟩ : ∃ x, w10.alloc (.cells #[.string c.nm, .int .i64 c.kd, .bool c.mu, .string c.tgt] 43) = x := ⟨_, rfl⟩
          have K11 := Lib.hid (And.intro (K10.out.1.on hb) (And.intro (heap_on hb K10.out.2) hx))
          rw [hw11, hXB] at K11 ⊢
          clear hx hb hXB hw11 v1 f0 f1 f2 f3
          have y0 := nd_cell K11.out.2.1 0
          have y1 := nd_cell K11.out.2.1 1
          have y2 := nd_cell K11.out.2.1 2
          have y3 := nd_cell K11.out.2.1 3
          have yl := lt_of_heap K11.out.2.1
          have x0 := nd_cell K11.out.2.2 0
          have x1 := nd_cell K11.out.2.2 1
          have x2 := nd_cell K11.out.2.2 2
          have x3 := nd_cell K11.out.2.2 3
          have xl := lt_of_heap K11.out.2.2
          go_wp2_with fail
          go_ret
          exact ⟨rfl, below_on H1.out.2 K11.out.1.st.below⟩
end Go.Proofs.Ytbhcmmkobadmnaa
