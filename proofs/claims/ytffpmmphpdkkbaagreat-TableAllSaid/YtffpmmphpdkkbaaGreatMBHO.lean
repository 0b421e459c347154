/- Or. -/
import Derived.Test.YtffpmmphpdkkbaaGreatMBF
namespace Go.Proofs.YtffpmmphpdkkbaaGreat
open Go Go.RowKit Go.Proofs

set_option maxRecDepth 100000 in
set_option maxHeartbeats 2000000 in
theorem or_any {la lb : List R2} {va vb : Value} {P Q : Int → Bool} {W : World} (ha : Nrm la) (hb : Nrm lb) (hva : Mv W va la) (hvb : Mv W vb lb) (hP : Is la P) (hQ : Is lb Q) :
    Calls Tryz.prog 63 #[.agg #[va], .agg #[vb]] W (IsMap (fun x => P x || Q x) W) := by
  obtain ⟨W4, hW4, hB, h0, h1, h2, hm⟩ := box4 W va vb
  have hla := runs_len ha
  have hlb := runs_len hb
  obtain ⟨pa, ca, rfl, _, _⟩ := hva.slice
  obtain ⟨pb, cb, rfl, _, _⟩ := hvb.slice
  obtain ⟨S, hS⟩ : ∃ S, W.heap.size = S := ⟨_, rfl⟩
  have HW := Lib.hid (And.intro hva (And.intro hvb (And.intro hB hS)))
  have H0 := Lib.hid (And.intro h0 (And.intro h1 h2))
  rw [hS] at hm H0
  obtain ⟨na, hna⟩ : ∃ na, la.length = na := ⟨_, rfl⟩
  obtain ⟨nb, hnb⟩ : ∃ nb, lb.length = nb := ⟨_, rfl⟩
  have HN := Lib.hid (And.intro hna (And.intro hnb (And.intro ha (And.intro hb (And.intro hP hQ)))))
  rw [hna] at hla H0
  rw [hnb] at hlb H0
  have HM := Lib.hid hm
  have HW4 := Lib.hid hW4
  clear hva hvb hB h0 h1 h2 hm hW4 hna hnb ha hb hP hQ hS
  go_enter Tryz.func63, Tryz.ntmps63
  go_upto_block 0 with fail
  rw [HW4.out, HW.out.2.2.2, HN.out.1, HN.out.2.1]
  clear HW4
  obtain ⟨mb, hmb⟩ : ∃ mb, S + 1 + 1 + 1 = mb := ⟨_, rfl⟩
  rw [hmb] at HM ⊢
  have HB := Lib.hid hmb
  clear hmb
  go_wp2_with fail
  go_loopg [6, 7] (na + nb + 1) (fun gh iv kv w => ∃ (i k : Nat) (v : Value) (m : List R2), iv = .int .i64 (i : Int) ∧ kv = .int .i64 (k : Int) ∧ i ≤ na ∧ k ≤ nb ∧ na + nb + 1 ≤ i + k + gh ∧ OrI la lb m i k ∧ Mk w mb v m ∧ Below mb W4 w)
  case atStart => exact ⟨0, 0, _, _, rfl, rfl, Nat.zero_le _, Nat.zero_le _, by omega, OrI.start la lb, HM.out, Below.refl _ _⟩
  case round =>
    obtain ⟨i, k, v, m, rfl, rfl, hi, hk, hg, hI, hM, hBw⟩ := hrel
    have hL := H0.out
    have z0 := (hBw.block S (by have := HB.out; omega)).trans hL.1
    have z1 := (hBw.block (S + 1) (by have := HB.out; omega)).trans hL.2.1
    have c0 := nd_cell z0 0
    have c1 := nd_cell z1 0
    have y0 : S < wr.heap.size := lt_of_heap z0
    have y1 : S + 1 < wr.heap.size := lt_of_heap z1
    have HR := Lib.hid (And.intro hI (And.intro hM (And.intro hBw (And.intro z0 z1))))
    clear hL hM hBw z0 z1
    by_cases hlt : i < na ∨ k < nb
    · have hWb : Below W.heap.size W wr := HW.out.2.2.1.trans (HR.out.2.2.1.mono (by rw [HW.out.2.2.2]; have := HB.out; omega))
      have va := fun h : i < na => (HW.out.1.later hWb).run (j := i) (by rw [HN.out.1]; exact h)
      have vb := fun h : k < nb => (HW.out.2.1.later hWb).run (j := k) (by rw [HN.out.2.1]; exact h)
      have HQ := Lib.hid (And.intro hI (And.intro hI.nrm hWb))
      have HV := Lib.hid (And.intro va vb)
      clear va vb hI hWb
      rcases Nat.lt_or_ge k nb with hk1 | hk1
      · have hkb : k < lb.length := by rw [HN.out.2.1]; exact hk1
        obtain ⟨gb, rfl, hgb, b0, b1, b2⟩ := HV.out.2 hk1
        obtain ⟨s, hs⟩ : ∃ s, lb[k] = s := ⟨_, rfl⟩
        rw [hs] at b0 b1
        have HSB := Lib.hid hs
        clear hs b2
        obtain ⟨f2, t2⟩ := s
        have b0 : wr.cell? ⟨gb, k * 3, none⟩ = some (Value.int .i64 (f2)) := b0
        have b1 : wr.cell? ⟨gb, k * 3 + 1, none⟩ = some (Value.int .i64 (t2)) := b1
        have hneb : ((k : Int) == (nb : Int)) = false := by simp; omega
        rcases Nat.lt_or_ge i na with hi1 | hi1
        · have hia : i < la.length := by rw [HN.out.1]; exact hi1
          obtain ⟨ga, rfl, hga, a0, a1, a2⟩ := HV.out.1 hi1
          obtain ⟨r, hr⟩ : ∃ r, la[i] = r := ⟨_, rfl⟩
          rw [hr] at a0 a1
          have HRA := Lib.hid hr
          clear hr a2
          obtain ⟨f1, t1⟩ := r
          have a0 : wr.cell? ⟨ga, i * 3, none⟩ = some (Value.int .i64 (f1)) := a0
          have a1 : wr.cell? ⟨ga, i * 3 + 1, none⟩ = some (Value.int .i64 (t1)) := a1
          by_cases hff : f1 < f2
          · have hd : decide (f1 < f2) = true := decide_eq_true hff
            have HL : Hid (OrI la lb (addL m f1 t1) (i + 1) k) := Lib.hid (by
              have h := HQ.out.1.left HN.out.2.2.1 hia (drop_from HN.out.2.2.2.1 hkb (by rw [HRA.out, HSB.out]; show f1 ≤ f2; omega))
              rw [HRA.out] at h
              exact h)
            go_upto_region 4 with fail
            go_quiet (fail)
            go_upto_region 5 with fail
            have hadd := fun y (hy : Below wr.heap.size wr y) => add_any (f := f1) (t := t1) HQ.out.2.1 (HR.out.2.1.later hy)
            have hS : ∀ w, Below wr.heap.size wr w → w.cell? ⟨S, 0, none⟩ = some (.slice (some ⟨ga, 0, none⟩) na ca) ∧ w.cell? ⟨ga, i * 3, none⟩ = some (Value.int .i64 (f1)) ∧ w.cell? ⟨ga, i * 3 + 1, none⟩ = some (Value.int .i64 (t1)) := fun w hw => ⟨bel_cell hw c0, bel_cell hw a0, bel_cell hw a1⟩
            have HS := Lib.hid hS
            clear hS
            have hSm : S < mb := by have := HB.out; omega
            have hgm : ga < mb := by have := (HRow.lt HW.out.1 ga rfl).2; have h2 := HB.out; have h3 := HW.out.2.2.2; omega
            go_region_held3 (fun w => w.cell? ⟨S, 0, none⟩ = some (.slice (some ⟨ga, 0, none⟩) na ca) ∧ w.cell? ⟨ga, i * 3, none⟩ = some (Value.int .i64 (f1)) ∧ w.cell? ⟨ga, i * 3 + 1, none⟩ = some (Value.int .i64 (t1))) (first | exact HS.out _ (Below.refl _ wr) | exact HS.out _ (Below.refl _ wr).drew | exact HS.out _ (below_drewN wr _) | exact HS.out _ (below_drewN wr _).drew | exact ⟨(HK.out.2.cell (p := ⟨S, 0, none⟩) hSm).trans c0, (HK.out.2.cell (p := ⟨ga, i * 3, none⟩) hgm).trans a0, (HK.out.2.cell (p := ⟨ga, i * 3 + 1, none⟩) hgm).trans a1⟩) (first | (go_at_call 80; (with_reducible refine (hadd _ (below_drewN wr _)).mono ?_); rintro e x1 ⟨rfl, v1, k1, g1, o1⟩; have HK := Lib.hid (And.intro k1 ((HR.out.2.1.later (below_drewN wr _)).below' g1)); clear k1 g1 o1 hadd))
            go_wp2_with fail
            go_roundg (na + nb - (i + k))
            case measure => omega
            case rel =>
              have hBx : Below mb W4 x1 := (HR.out.2.2.1.trans ((below_drewN wr _).mono (Nat.le_of_lt HR.out.2.1.lt))).trans HK.out.2
              exact ⟨i + 1, k, v1, _, by go_num, rfl, by omega, by omega, by omega, HL.out, HK.out.1, hBx⟩
          · have hd : decide (f1 < f2) = false := decide_eq_false hff
            have HL : Hid (OrI la lb (addL m f2 t2) i (k + 1)) := Lib.hid (by
              have h := HQ.out.1.right HN.out.2.2.2.1 hkb (drop_from HN.out.2.2.1 hia (by rw [HRA.out, HSB.out]; show f2 ≤ f1; omega))
              rw [HSB.out] at h
              exact h)
            go_upto_region 4 with fail
            go_quiet (fail)
            go_upto_region 7 with fail
            have hadd := fun y (hy : Below wr.heap.size wr y) => add_any (f := f2) (t := t2) HQ.out.2.1 (HR.out.2.1.later hy)
            have hS : ∀ w, Below wr.heap.size wr w → w.cell? ⟨S + 1, 0, none⟩ = some (.slice (some ⟨gb, 0, none⟩) nb cb) ∧ w.cell? ⟨gb, k * 3, none⟩ = some (Value.int .i64 (f2)) ∧ w.cell? ⟨gb, k * 3 + 1, none⟩ = some (Value.int .i64 (t2)) := fun w hw => ⟨bel_cell hw c1, bel_cell hw b0, bel_cell hw b1⟩
            have HS := Lib.hid hS
            clear hS
            have hSm : S + 1 < mb := by have := HB.out; omega
            have hgm : gb < mb := by have := (HRow.lt HW.out.2.1 gb rfl).2; have h2 := HB.out; have h3 := HW.out.2.2.2; omega
            go_region_held3 (fun w => w.cell? ⟨S + 1, 0, none⟩ = some (.slice (some ⟨gb, 0, none⟩) nb cb) ∧ w.cell? ⟨gb, k * 3, none⟩ = some (Value.int .i64 (f2)) ∧ w.cell? ⟨gb, k * 3 + 1, none⟩ = some (Value.int .i64 (t2))) (first | exact HS.out _ (Below.refl _ wr) | exact HS.out _ (Below.refl _ wr).drew | exact HS.out _ (below_drewN wr _) | exact HS.out _ (below_drewN wr _).drew | exact ⟨(HK.out.2.cell (p := ⟨S + 1, 0, none⟩) hSm).trans c1, (HK.out.2.cell (p := ⟨gb, k * 3, none⟩) hgm).trans b0, (HK.out.2.cell (p := ⟨gb, k * 3 + 1, none⟩) hgm).trans b1⟩) (first | (go_at_call 80; (with_reducible refine (hadd _ (below_drewN wr _)).mono ?_); rintro e x1 ⟨rfl, v1, k1, g1, o1⟩; have HK := Lib.hid (And.intro k1 ((HR.out.2.1.later (below_drewN wr _)).below' g1)); clear k1 g1 o1 hadd))
            go_wp2_with fail
            go_roundg (na + nb - (i + k))
            case measure => omega
            case rel =>
              have hBx : Below mb W4 x1 := (HR.out.2.2.1.trans ((below_drewN wr _).mono (Nat.le_of_lt HR.out.2.1.lt))).trans HK.out.2
              exact ⟨i, k + 1, v1, _, rfl, by go_num, by omega, by omega, by omega, HL.out, HK.out.1, hBx⟩
        · have hi2 : ¬ i < na := by omega
          have hd : decide ((i : Int) < (na : Int)) = false := decide_eq_false (by omega)
          have HL : Hid (OrI la lb (addL m f2 t2) i (k + 1)) := Lib.hid (by
            have h := HQ.out.1.right HN.out.2.2.2.1 hkb (fun a ha => by rw [List.drop_eq_nil_of_le (by rw [HN.out.1]; exact hi1)] at ha; cases ha)
            rw [HSB.out] at h
            exact h)
          go_upto_region 4 with fail
          go_quiet (fail)
          go_upto_region 7 with fail
          have hadd := fun y (hy : Below wr.heap.size wr y) => add_any (f := f2) (t := t2) HQ.out.2.1 (HR.out.2.1.later hy)
          have hS : ∀ w, Below wr.heap.size wr w → w.cell? ⟨S + 1, 0, none⟩ = some (.slice (some ⟨gb, 0, none⟩) nb cb) ∧ w.cell? ⟨gb, k * 3, none⟩ = some (Value.int .i64 (f2)) ∧ w.cell? ⟨gb, k * 3 + 1, none⟩ = some (Value.int .i64 (t2)) := fun w hw => ⟨bel_cell hw c1, bel_cell hw b0, bel_cell hw b1⟩
          have HS := Lib.hid hS
          clear hS
          have hSm : S + 1 < mb := by have := HB.out; omega
          have hgm : gb < mb := by have := (HRow.lt HW.out.2.1 gb rfl).2; have h2 := HB.out; have h3 := HW.out.2.2.2; omega
          go_region_held3 (fun w => w.cell? ⟨S + 1, 0, none⟩ = some (.slice (some ⟨gb, 0, none⟩) nb cb) ∧ w.cell? ⟨gb, k * 3, none⟩ = some (Value.int .i64 (f2)) ∧ w.cell? ⟨gb, k * 3 + 1, none⟩ = some (Value.int .i64 (t2))) (first | exact HS.out _ (Below.refl _ wr) | exact HS.out _ (Below.refl _ wr).drew | exact HS.out _ (below_drewN wr _) | exact HS.out _ (below_drewN wr _).drew | exact ⟨(HK.out.2.cell (p := ⟨S + 1, 0, none⟩) hSm).trans c1, (HK.out.2.cell (p := ⟨gb, k * 3, none⟩) hgm).trans b0, (HK.out.2.cell (p := ⟨gb, k * 3 + 1, none⟩) hgm).trans b1⟩) (first | (go_at_call 80; (with_reducible refine (hadd _ (below_drewN wr _)).mono ?_); rintro e x1 ⟨rfl, v1, k1, g1, o1⟩; have HK := Lib.hid (And.intro k1 ((HR.out.2.1.later (below_drewN wr _)).below' g1)); clear k1 g1 o1 hadd))
          go_wp2_with fail
          go_roundg (na + nb - (i + k))
          case measure => omega
          case rel =>
            have hBx : Below mb W4 x1 := (HR.out.2.2.1.trans ((below_drewN wr _).mono (Nat.le_of_lt HR.out.2.1.lt))).trans HK.out.2
            exact ⟨i, k + 1, v1, _, rfl, by go_num, by omega, by omega, by omega, HL.out, HK.out.1, hBx⟩
      · have hi1 : i < na := by omega
        have hia : i < la.length := by rw [HN.out.1]; exact hi1
        have hkb : lb.length ≤ k := by rw [HN.out.2.1]; exact hk1
        obtain ⟨ga, rfl, hga, a0, a1, a2⟩ := HV.out.1 hi1
        obtain ⟨r, hr⟩ : ∃ r, la[i] = r := ⟨_, rfl⟩
        rw [hr] at a0 a1
        have HRA := Lib.hid hr
        clear hr a2
        obtain ⟨f1, t1⟩ := r
        have a0 : wr.cell? ⟨ga, i * 3, none⟩ = some (Value.int .i64 (f1)) := a0
        have a1 : wr.cell? ⟨ga, i * 3 + 1, none⟩ = some (Value.int .i64 (t1)) := a1
        have hneb : ((k : Int) == (nb : Int)) = true := by simp; omega
        have HL : Hid (OrI la lb (addL m f1 t1) (i + 1) k) := Lib.hid (by
          have h := HQ.out.1.left HN.out.2.2.1 hia (fun a ha => by rw [List.drop_eq_nil_of_le hkb] at ha; cases ha)
          rw [HRA.out] at h
          exact h)
        go_upto_region 4 with fail
        go_quiet (fail)
        go_upto_region 5 with fail
        have hadd := fun y (hy : Below wr.heap.size wr y) => add_any (f := f1) (t := t1) HQ.out.2.1 (HR.out.2.1.later hy)
        have hS : ∀ w, Below wr.heap.size wr w → w.cell? ⟨S, 0, none⟩ = some (.slice (some ⟨ga, 0, none⟩) na ca) ∧ w.cell? ⟨ga, i * 3, none⟩ = some (Value.int .i64 (f1)) ∧ w.cell? ⟨ga, i * 3 + 1, none⟩ = some (Value.int .i64 (t1)) := fun w hw => ⟨bel_cell hw c0, bel_cell hw a0, bel_cell hw a1⟩
        have HS := Lib.hid hS
        clear hS
        have hSm : S < mb := by have := HB.out; omega
        have hgm : ga < mb := by have := (HRow.lt HW.out.1 ga rfl).2; have h2 := HB.out; have h3 := HW.out.2.2.2; omega
        go_region_held3 (fun w => w.cell? ⟨S, 0, none⟩ = some (.slice (some ⟨ga, 0, none⟩) na ca) ∧ w.cell? ⟨ga, i * 3, none⟩ = some (Value.int .i64 (f1)) ∧ w.cell? ⟨ga, i * 3 + 1, none⟩ = some (Value.int .i64 (t1))) (first | exact HS.out _ (Below.refl _ wr) | exact HS.out _ (Below.refl _ wr).drew | exact HS.out _ (below_drewN wr _) | exact HS.out _ (below_drewN wr _).drew | exact ⟨(HK.out.2.cell (p := ⟨S, 0, none⟩) hSm).trans c0, (HK.out.2.cell (p := ⟨ga, i * 3, none⟩) hgm).trans a0, (HK.out.2.cell (p := ⟨ga, i * 3 + 1, none⟩) hgm).trans a1⟩) (first | (go_at_call 80; (with_reducible refine (hadd _ (below_drewN wr _)).mono ?_); rintro e x1 ⟨rfl, v1, k1, g1, o1⟩; have HK := Lib.hid (And.intro k1 ((HR.out.2.1.later (below_drewN wr _)).below' g1)); clear k1 g1 o1 hadd))
        go_wp2_with fail
        go_roundg (na + nb - (i + k))
        case measure => omega
        case rel =>
          have hBx : Below mb W4 x1 := (HR.out.2.2.1.trans ((below_drewN wr _).mono (Nat.le_of_lt HR.out.2.1.lt))).trans HK.out.2
          exact ⟨i + 1, k, v1, _, by go_num, rfl, by omega, by omega, by omega, HL.out, HK.out.1, hBx⟩
    · have h1 : ¬ i < na := by omega
      have h2 : ¬ k < nb := by omega
      have hfin := hI.fin (by rw [HN.out.1]; omega) (by rw [HN.out.2.1]; omega)
      have z2 := (HR.out.2.2.1.block (S + 1 + 1) (by have := HB.out; omega)).trans H0.out.2.2
      have d0 := nd_cell z2 0
      have df := frozen_of_row wr (S + 1 + 1) 0 _ _ z2
      have m0 := HR.out.2.1.1.1
      obtain ⟨p1, n1, cp1, rfl⟩ := HR.out.2.1.slc
      have s0 := World.cell?_setCell_same wr ⟨S + 1 + 1, 0, none⟩ (.slice p1 n1 cp1) d0
      have hIs : Is m (fun x => P x || Q x) := fun x => by
        rw [hfin, Bool.or_eq_true, HN.out.2.2.2.2.1 x, HN.out.2.2.2.2.2 x]
      have hWb : Below W.heap.size W wr := HW.out.2.2.1.trans (HR.out.2.2.1.mono (by rw [HW.out.2.2.2]; have := HB.out; omega))
      have HE := Lib.hid (fin_map (P := fun x => P x || Q x) HR.out.2.1 (by have := HB.out; omega) hI.nrm hIs hWb (show W.heap.size ≤ S + 1 + 1 by rw [HW.out.2.2.2]; omega))
      clear hlt hI hfin z2 hIs hWb
      all_goals
        go_wp2_with fail
        refine bodyPost_ret (v := .agg #[.slice p1 n1 cp1]) (by simp [results, Tryz.results63, go_sem, s0]) rfl ?_
        exact HE.out
end Go.Proofs.YtffpmmphpdkkbaaGreat
