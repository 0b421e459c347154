/- The reference's Col. -/
import Derived.Test.YtcgceigcegddlaaPC
import Derived.Test.YtcgceigcegddlaaLS
namespace Go.Proofs.Ytcgceigcegddlaa
open Go Go.RowKit Go.Proofs

theorem KS.drew {W w : World} (h : KS W w) : KS W w.drew := h.on (below_drew w)
theorem colsAt_none {ts : List T} {t : ByteArray} (h : findT ts t = none) : colsAt ts t = [] := by unfold colsAt; rw [h]; rfl
theorem colsAt_some {ts : List T} {t : ByteArray} {u : T} (h : findT ts t = some u) : colsAt ts t = u.cols := by unfold colsAt; rw [h]; rfl
theorem rcolOf_is {t : T} {nm key : ByteArray} {cv dv : Value} {x : ByteArray} {W : World} {z : Int} (h : RdT W cv dv t) (hn : t.nm = nm) (hk : t.key = key) (hz : ixC t.cols x = z) : Calls Try.prog 32 #[.agg #[.string nm, cv, .string key, dv], .string x] W fun e w' => e = .returned (.int .i64 z) ∧ Below W.heap.size W w' := by
  subst hn hk hz
  exact rcolOf_any h
set_option maxRecDepth 100000 in
set_option maxHeartbeats 8000000 in
theorem refCol_any {ts : List T} {pv v : Value} {tb : ByteArray} {p : List ByteArray} {W : World} (h : RdTs W pv ts) (hp : RdS W v p) : Calls Try.prog 13 #[pv, .string tb, v] W fun e w' => e = .returned (.tuple #[colV (pcolL ts tb p).1, .string (pcolL ts tb p).2.1, .int .i64 (pcolL ts tb p).2.2]) ∧ Below W.heap.size W w' := by
  obtain ⟨q, cap, rfl, hc, hm⟩ := hp.slice
  obtain ⟨pt, capt, rfl, hct, hmt⟩ := h.slice
  obtain ⟨n, hn⟩ : ∃ n, p.length = n := ⟨_, rfl⟩
  obtain ⟨N, hNt⟩ : ∃ n, ts.length = n := ⟨_, rfl⟩
  obtain ⟨S, hS⟩ : ∃ S, W.heap.size = S := ⟨_, rfl⟩
  unfold maxLen at hm hmt
  rw [hn] at hc hp ⊢
  rw [hNt] at hct h ⊢
  have HP := Lib.hid (And.intro h hp)
  have HN := Lib.hid (And.intro hn hNt)
  have HS := Lib.hid hS
  have K0 := KS.start W
  obtain ⟨w0, hw0⟩ : ∃ w0, W.alloc (.cells #[.string e0, .int .i64 0, .bool false, .string e0] 33) = w0 := ⟨_, rfl⟩
  have HW := Lib.hid hw0
  rw [hw0] at K0
  obtain ⟨r, hr⟩ : ∃ r, pcolL ts tb p = r := ⟨_, rfl⟩
  rw [hr]
  have FIN : Hid (∀ (w wz : World) (a b c d : Value), KS W w → (((w.setCell ⟨S, 0, none⟩ a).setCell ⟨S, 1, none⟩ b).setCell ⟨S, 2, none⟩ c).setCell ⟨S, 3, none⟩ d = wz →
      wz.cell? ⟨S, 0, none⟩ = some a ∧ wz.cell? ⟨S, 1, none⟩ = some b ∧ wz.cell? ⟨S, 2, none⟩ = some c ∧ wz.cell? ⟨S, 3, none⟩ = some d ∧ Below W.heap.size W wz) := Lib.hid (fun w wz a b c d hk e => by
    subst e
    have hz := hk.2
    rw [hS] at hz
    have h4 := set4 hz a b c d
    exact ⟨nd_cell h4 0, nd_cell h4 1, nd_cell h4 2, nd_cell h4 3, below_set4 hk.1 (Nat.le_of_eq hS) _ _ _ _⟩)
  have CELLS : Hid (∀ w, KS W w → S < w.heap.size ∧ w.cell? ⟨S, 0, none⟩ = some (.string e0) ∧ w.cell? ⟨S, 1, none⟩ = some (.int .i64 0) ∧ w.cell? ⟨S, 2, none⟩ = some (.bool false) ∧ w.cell? ⟨S, 3, none⟩ = some (.string e0) ∧ ∀ i, w.frozen? ⟨S, i, none⟩ = false) := Lib.hid (fun w hk => by
    have hz := hk.2
    rw [hS] at hz
    exact ⟨lt_of_heap hz, nd_cell hz 0, nd_cell hz 1, nd_cell hz 2, nd_cell hz 3, fun i => frozen_of_row w S i _ _ hz⟩)
  have HK := Lib.hid K0
  have HR := Lib.hid hr
  clear h hp hw0 hS K0 hr hn hNt
  go_enter Try.func13, Try.ntmps13
  go_upto_region 1 with fail
  rw [HW.out, HS.out]
  by_cases h0 : n = 0
  · subst h0
    obtain ⟨zl, z0, z1, z2, z3, zf⟩ := CELLS.out _ HK.out
    have e : r = (zeroC, e0, 5) := by rw [← HR.out]; unfold pcolL; rw [if_pos (by rw [HN.out.1]; omega)]
    subst e
    go_wp2_with fail
    generalize hwz : (((World.setCell _ _ _).setCell _ _).setCell _ _).setCell _ _ = wz
    obtain ⟨y0, y1, y2, y3, hB⟩ := FIN.out _ _ _ _ _ _ HK.out hwz
    refine bodyPost_ret (v := .tuple #[colV zeroC, _, _]) (by simp [results, Try.results13, go_sem, y0, y1, y2, y3, colV, zeroC]; first | rfl | exact ⟨rfl, rfl⟩) rfl ?_
    exact ⟨rfl, hB⟩
  · by_cases h4 : 4 < n
    · obtain ⟨zl, z0, z1, z2, z3, zf⟩ := CELLS.out _ HK.out
      have e : r = (zeroC, e0, 5) := by rw [← HR.out]; unfold pcolL; rw [if_pos (by rw [HN.out.1]; omega)]
      subst e
      go_wp2_with fail
      generalize hwz : (((World.setCell _ _ _).setCell _ _).setCell _ _).setCell _ _ = wz
      obtain ⟨y0, y1, y2, y3, hB⟩ := FIN.out _ _ _ _ _ _ HK.out hwz
      refine bodyPost_ret (v := .tuple #[colV zeroC, _, _]) (by simp [results, Try.results13, go_sem, y0, y1, y2, y3, colV, zeroC]; first | rfl | exact ⟨rfl, rfl⟩) rfl ?_
      exact ⟨rfl, hB⟩
    · have HR0 : Hid (pcol ts tb (p.drop 0) = r) := Lib.hid (by
        rw [← HR.out]
        unfold pcolL
        rw [if_neg (by rw [HN.out.1]; omega)]; rfl)
      clear HR
      obtain ⟨k, hk⟩ : ∃ k, n = k + 1 := ⟨n - 1, by omega⟩
      subst hk
      have hb1 : decide (((k : Int) + 1) < 1) = false := decide_eq_false (by omega)
      have hb2 : decide (4 < ((k : Int) + 1)) = false := decide_eq_false (by omega)
      go_upto_region 3 with fail
      go_wp2_with fail
      go_loopg [1, 9] (k + 1) (fun gh tv jv w => ∃ (j : Nat) (t : ByteArray), jv = .int .i64 (j : Int) ∧ tv = .string t ∧ j ≤ k ∧ k + 1 ≤ j + gh ∧ pcol ts t (p.drop j) = r ∧ KS W w)
      case atStart => exact ⟨0, tb, rfl, rfl, Nat.zero_le _, by omega, HR0.out, HK.out⟩
      case round =>
        obtain ⟨j, t, rfl, rfl, hj, hg, hr, hk⟩ := hrel
        clear HR0
        have hjl : j < p.length := by rw [HN.out.1]; omega
        have HK1 := Lib.hid hk
        obtain ⟨b1, o1, rfl, hb1', c1⟩ := (HP.out.2.later hk.1).word hjl
        have HX : Hid (∀ w, KS W w → w.cell? ⟨b1, o1 + j, none⟩ = some (.string p[j])) := Lib.hid (fun w hk => (RdS.wordAt (HP.out.2.later hk.1) hjl).2)
        rw [pcol_at ts t p hjl] at hr
        obtain ⟨x, hx⟩ : ∃ x, p[j] = x := ⟨_, rfl⟩
        rw [hx] at hr HX
        rw [HN.out.1] at hr
        clear c1 hx
        rcases ixT_cases ts t with ⟨h1, _, h3⟩ | ⟨m, hml, h1, _, h3⟩
        · have hfind := rfind_any (x := t) (HP.out.1.later hk.1)
          rw [h1] at hfind
          rw [colsAt_none h3, if_neg (by simp [hasC])] at hr
          subst hr
          clear h1 h3 hk
          go_upto_region 7 with (go_at_call 31; (with_reducible refine hfind.mono ?_); rintro e w2 ⟨rfl, hw⟩; have hw := hw.symm; subst hw)
          obtain ⟨zl, z0, z1, z2, z3, zf⟩ := CELLS.out _ HK1.out
          go_wp2_with fail
          generalize hwz : (((World.setCell _ _ _).setCell _ _).setCell _ _).setCell _ _ = wz
          obtain ⟨y0, y1, y2, y3, hB⟩ := FIN.out _ _ _ _ _ _ HK1.out hwz
          refine bodyPost_ret (v := .tuple #[colV zeroC, _, _]) (by simp [results, Try.results13, go_sem, y0, y1, y2, y3, colV, zeroC]; first | rfl | exact ⟨rfl, rfl⟩) rfl ?_
          exact ⟨rfl, hB⟩
        · have hfind := rfind_any (x := t) (HP.out.1.later hk.1)
          rw [h1] at hfind
          rw [colsAt_some h3] at hr
          obtain ⟨bt, ot, cv, dv, rfl, _, g0, g1, g2, g3, hT⟩ := RdTs.tab HP.out.1 hml
          obtain ⟨u, hu⟩ : ∃ u, ts[m] = u := ⟨_, rfl⟩
          rw [hu] at hr g0 g2 hT
          obtain ⟨pc, kc, hcv, hcc, hcm⟩ := hT.1.slice
          obtain ⟨pd, kd, hdv, _, _⟩ := hT.2.slice
          obtain ⟨nc, hnc⟩ : ∃ m, u.cols.length = m := ⟨_, rfl⟩
          obtain ⟨nd, hnd⟩ : ∃ m, u.deps.length = m := ⟨_, rfl⟩
          rw [hnc] at hcv hcc
          rw [hnd] at hdv
          subst hcv hdv
          obtain ⟨nm, hnm⟩ : ∃ m, u.nm = m := ⟨_, rfl⟩
          obtain ⟨key, hkey⟩ : ∃ m, u.key = m := ⟨_, rfl⟩
          rw [hnm] at g0
          rw [hkey] at g2
          obtain ⟨z, hz⟩ : ∃ z, ixC u.cols x = z := ⟨_, rfl⟩
          have HCALL : Hid (∀ w, KS W w → Calls Try.prog 32 #[.agg #[.string nm, .slice pc nc kc, .string key, .slice pd nd kd], .string x] w fun e w' => e = .returned (.int .i64 z) ∧ Below w.heap.size w w') := Lib.hid (fun w hk => rcolOf_is (hT.later hk.1) hnm hkey hz)
          have HG : Hid (∀ w, KS W w → w.cell? ⟨bt, ot + m * 4, none⟩ = some (.string nm) ∧ w.cell? ⟨bt, ot + m * 4 + 1, none⟩ = some (.slice pc nc kc) ∧ w.cell? ⟨bt, ot + m * 4 + 2, none⟩ = some (.string key) ∧ w.cell? ⟨bt, ot + m * 4 + 3, none⟩ = some (.slice pd nd kd)) := Lib.hid (fun w hk => ⟨bel_cell hk.1 g0, bel_cell hk.1 g1, bel_cell hk.1 g2, bel_cell hk.1 g3⟩)
          have HT := Lib.hid (And.intro hT hnc)
          have hmN : m < N := by rw [← HN.out.2]; exact hml
          have hmN2 : (m : Int) < (N : Int) := by omega
          have hm0 : decide ((m : Int) < 0) = false := decide_eq_false (by omega)
          have hjk : (j : Int) < (k : Int) + 1 := by omega
          clear g0 g1 g2 g3 hT hu hnc hnd hnm hkey h1 h3 hk
          go_upto_region 8 with (go_at_call 31; (with_reducible refine hfind.mono ?_); rintro e w2 ⟨rfl, hw⟩; have hw := hw.symm; subst hw)
          refine Par.wp_region_par 10 [.slice (some ⟨bt, ot, none⟩) N capt, .int .i64 m, (Value.pointer (some ⟨bt, ot + m * 4, none⟩)), .agg #[.string nm, .slice pc nc kc, .string key, .slice pd nd kd], .slice (some ⟨b1, o1, none⟩) (k + 1) cap, .int .i64 j, (Value.pointer (some ⟨b1, o1 + j, none⟩)), .string x, .int .i64 z, .int .i64 z] (fun w => KS W w) ?A1 ?hm1 ?hB1 ?hA1 (HK1.out.drew) ?hop1 ?hT1
          case hm1 => kernel_rfl
          case hB1 => kernel_rfl
          case hA1 =>
            simp only [Par.putA, Par.dstAt, Act.put, List.getElem?_toArray, List.getElem?_cons_zero, List.getElem?_cons_succ, Option.bind_some, List.setIfInBounds_toArray, List.set_cons_zero, List.set_cons_succ, List.getD_cons_zero, List.getD_cons_succ]
            rfl
          case hop1 =>
            simp only [List.take_succ_cons, List.take_zero, Par.GiveAll, and_true]
            refine ⟨fun w' hR => ?_, fun w' hR => ?_, fun w' hR => ?_, fun w' hR => ?_, fun w' hR => ?_, fun w' hR => ?_, fun w' hR => ?_, fun w' hR => ?_, fun w' hR => ?_, fun w' hR => ?_⟩
            · have HR := Lib.hid hR
              clear hR
              simp only [Par.Gives]
              go_simp
              all_goals exact HR.out
            · have HR := Lib.hid hR
              clear hR
              simp only [Par.Gives]
              go_simp
              all_goals exact HR.out
            · have HR := Lib.hid hR
              clear hR
              simp only [Par.Gives]
              go_simp
              all_goals exact HR.out
            · have HR := Lib.hid hR
              have k0 := (HG.out w' hR).1
              have k1 := (HG.out w' hR).2.1
              have k2 := (HG.out w' hR).2.2.1
              have k3 := (HG.out w' hR).2.2.2
              clear hR
              simp only [Par.Gives]
              go_simp
              all_goals exact HR.out
            · have HR := Lib.hid hR
              clear hR
              simp only [Par.Gives]
              go_simp
              all_goals exact HR.out
            · have HR := Lib.hid hR
              clear hR
              simp only [Par.Gives]
              go_simp
              all_goals exact HR.out
            · have HR := Lib.hid hR
              clear hR
              simp only [Par.Gives]
              go_simp
              all_goals exact HR.out
            · have HR := Lib.hid hR
              have k0 := HX.out w' hR
              clear hR
              simp only [Par.Gives]
              go_simp
              all_goals exact HR.out
            · have HR := Lib.hid hR
              clear hR
              simp only [Par.Gives]
              go_simp
              exact (HCALL.out _ HR.out).mono (fun e w'' ⟨he, hb⟩ => ⟨he, HR.out.on hb⟩)
            · have HR := Lib.hid hR
              clear hR
              simp only [Par.Gives]
              go_simp
              all_goals exact HR.out
          case hT1 =>
            intro w' hR
            simp only [List.drop_succ_cons, List.drop_nil]
            have HK2 := Lib.hid hR
            clear hR
            rcases ixC_cases u.cols x with ⟨h5, h6, _⟩ | ⟨c, hcl, h5, h6, h7⟩
            · rw [hz] at h5
              subst h5
              rw [h6, if_neg (by decide)] at hr
              subst hr
              obtain ⟨zl, z0, z1, z2, z3, zf⟩ := CELLS.out _ HK2.out
              clear h6 hz
              go_wp2_with fail
              generalize hwz : (((World.setCell _ _ _).setCell _ _).setCell _ _).setCell _ _ = wz
              obtain ⟨y0, y1, y2, y3, hB⟩ := FIN.out _ _ _ _ _ _ HK2.out hwz
              refine bodyPost_ret (v := .tuple #[colV zeroC, _, _]) (by simp [results, Try.results13, go_sem, y0, y1, y2, y3, colV, zeroC]; first | rfl | exact ⟨rfl, rfl⟩) rfl ?_
              exact ⟨rfl, hB⟩
            · rw [hz] at h5
              subst h5
              rw [h6, if_pos rfl, h7] at hr
              obtain ⟨bc, oc, rfl, hbc, -, -, -, -⟩ := RdC.col HT.out.1.1 hcl
              have hcN : c < nc := by rw [← HT.out.2]; exact hcl
              have hcN2 : (c : Int) < (nc : Int) := by omega
              have hc0 : decide ((c : Int) < 0) = false := decide_eq_false (by omega)
              obtain ⟨l, hlc⟩ : ∃ l, u.cols[c] = l := ⟨_, rfl⟩
              have e : orC (some u.cols[c]) = l := hlc
              rw [e] at hr
              have HL : Hid (∀ w, KS W w → bc < w.heap.size ∧ w.cell? ⟨bc, oc + c * 4, none⟩ = some (.string l.nm) ∧ w.cell? ⟨bc, oc + c * 4 + 1, none⟩ = some (.int .i64 l.kd) ∧ w.cell? ⟨bc, oc + c * 4 + 2, none⟩ = some (.bool l.mu) ∧ w.cell? ⟨bc, oc + c * 4 + 3, none⟩ = some (.string l.tgt)) := Lib.hid (fun w hk => by
                obtain ⟨bb, oo, e1, hb2, d0, d1, d2, d3⟩ := RdC.col (HT.out.1.1.later hk.1) hcl
                rw [hlc] at d0 d1 d2 d3
                cases e1
                exact ⟨hb2, d0, d1, d2, d3⟩)
              obtain ⟨zl, z0, z1, z2, z3, zf⟩ := CELLS.out _ HK2.out
              obtain ⟨i0, i1, i2, i3⟩ := HG.out _ HK2.out
              obtain ⟨lb, l0, l1, l2, l3⟩ := HL.out _ HK2.out
              clear hz h6 h7 hlc e hcl hbc
              by_cases hlt : j < k
              · rw [if_neg (show ¬ j + 1 = k + 1 by omega)] at hr
                have hne : ((j : Int) == (k : Int)) = false := by rw [beq_eq_false_iff_ne]; omega
                cases he : eqS l.tgt e0
                · rw [he, if_neg (by decide)] at hr
                  have HRR := Lib.hid hr
                  have hx2 : l.tgt.toList.isEmpty = false := by rw [eqS_e0]; exact he
                  clear hr he
                  go_wp2_with fail
                  go_roundg (k - j)
                  case measure => omega
                  case rel => exact ⟨j + 1, l.tgt, by go_num, rfl, by omega, by omega, HRR.out, HK2.out⟩
                · rw [he, if_pos rfl] at hr
                  subst hr
                  have hx2 : l.tgt.toList.isEmpty = true := by rw [eqS_e0]; exact he
                  clear he
                  go_wp2_with fail
                  generalize hwz : (((World.setCell _ _ _).setCell _ _).setCell _ _).setCell _ _ = wz
                  obtain ⟨y0, y1, y2, y3, hB⟩ := FIN.out _ _ _ _ _ _ HK2.out hwz
                  refine bodyPost_ret (v := .tuple #[colV zeroC, _, _]) (by simp [results, Try.results13, go_sem, y0, y1, y2, y3, colV, zeroC]; first | rfl | exact ⟨rfl, rfl⟩) rfl ?_
                  exact ⟨rfl, hB⟩
              · obtain rfl : j = k := by omega
                rw [if_pos rfl] at hr
                subst hr
                go_wp2_with fail
                generalize hwz : (((World.setCell _ _ _).setCell _ _).setCell _ _).setCell _ _ = wz
                obtain ⟨y0, y1, y2, y3, hB⟩ := FIN.out _ _ _ _ _ _ HK2.out hwz
                refine bodyPost_ret (v := .tuple #[colV l, _, _]) (by simp [results, Try.results13, go_sem, y0, y1, y2, y3, colV]; first | rfl | exact ⟨rfl, rfl⟩) rfl ?_
                exact ⟨rfl, hB⟩
end Go.Proofs.Ytcgceigcegddlaa
