/- may. -/
import Derived.Test.YtcgceigcegddlaaFF
namespace Go.Proofs.Ytcgceigcegddlaa
open Go Go.RowKit Go.Proofs

theorem RdT.c {W : World} {cv dv : Value} {t : T} (h : RdT W cv dv t) : RdC W cv t.cols := h.1
theorem RdT.d {W : World} {cv dv : Value} {t : T} (h : RdT W cv dv t) : RdD W dv t.deps := h.2
structure KeepM (B : Nat) (W0 : World) (S0 : Nat) (t : T) (cv dv : Value) (sb : Nat) (ts : List T) (w : World) : Prop where
  tb : KeepT B W0 S0 t cv dv w
  sch : Sch w sb ts
theorem KeepM.on {B : Nat} {W0 : World} {S0 : Nat} {t : T} {cv dv : Value} {sb : Nat} {ts : List T} {w w' : World} (h : KeepM B W0 S0 t cv dv sb ts w) (hb : Below w.heap.size w w') : KeepM B W0 S0 t cv dv sb ts w' := ⟨h.tb.on hb, h.sch.later hb⟩
theorem Sch.p {W : World} {sb : Nat} {ts : List T} (h : Sch W sb ts) : SchP W (Value.pointer (some ⟨sb, 0, none⟩)) ts := .inr ⟨sb, rfl, h⟩
theorem fits_is {t : T} {cv dv : Value} {W : World} {b : Bool} (h : RdT W cv dv t) (hb : fitsB t = b) : Calls Try.prog 56 #[.agg #[.string t.nm, cv, .string t.key, dv]] W fun e w' => e = .returned (.bool b) ∧ Below W.heap.size W w' := hb ▸ fits_any h
theorem free_is {pv : Value} {ts : List T} {x : ByteArray} {W : World} {b : Bool} (h : SchP W pv ts) (hs : x.size ≤ maxLen) (hb : free ts x = b) : Calls Try.prog 57 #[pv, .string x] W fun e w' => e = .returned (.bool b) ∧ Below W.heap.size W w' := hb ▸ sfree_any h hs
theorem namedCols_is {l : List C} {v : Value} {W : World} {b : Bool} (h : RdC W v l) (hs : SmC l) (hb : colsGood l = b) : Calls Try.prog 58 #[v] W fun e w' => e = .returned (.bool b) ∧ Below W.heap.size W w' := hb ▸ namedCols_any h hs
theorem namedKey_is {t : T} {cv dv : Value} {W : World} {b : Bool} (h : RdT W cv dv t) (hb : keyGood t = b) : Calls Try.prog 59 #[.agg #[.string t.nm, cv, .string t.key, dv]] W fun e w' => e = .returned (.bool b) ∧ Below W.heap.size W w' := hb ▸ namedKey_any h
theorem namedDeps_is {t : T} {cv dv : Value} {W : World} {b : Bool} (h : RdT W cv dv t) (hb : depsGood t.cols t.deps = b) : Calls Try.prog 60 #[.agg #[.string t.nm, cv, .string t.key, dv]] W fun e w' => e = .returned (.bool b) ∧ Below W.heap.size W w' := hb ▸ namedDeps_any h
theorem typed_is {l : List C} {v : Value} {W : World} {b : Bool} (h : RdC W v l) (hb : kindsGood l = b) : Calls Try.prog 61 #[v] W fun e w' => e = .returned (.bool b) ∧ Below W.heap.size W w' := hb ▸ typed_any h
theorem lim_fits {ts : List T} {t : T} (h : ts.length ≤ 8) : lim ts t = (decide (ts.length = 8) || !fitsB t) := by
  unfold lim fitsB
  rw [Bool.eq_iff_iff]
  simp only [Bool.or_eq_true, decide_eq_true_eq, Bool.not_eq_true', Bool.and_eq_false_iff, decide_eq_false_iff_not]
  omega

set_option maxRecDepth 100000 in
set_option maxHeartbeats 4000000 in
theorem may_any {t : T} {cv dv : Value} {sb : Nat} {ts : List T} {W : World} (h : RdT W cv dv t) (hs : Sch W sb ts) (hsm : Sm t) : Calls Try.prog 41 #[(Value.pointer (some ⟨sb, 0, none⟩)), .agg #[.string t.nm, cv, .string t.key, dv]] W fun e w' => e = .returned (.int .i64 (mayP ts t)) ∧ Below W.heap.size W w' := by
  have K0 := Lib.hid (show KeepM W.heap.size W W.heap.size t cv dv sb ts _ from ⟨KeepT.new h, hs.later (below_alloc W (boxT t.nm cv t.key dv))⟩)
  obtain ⟨pc, cc, hcv, hc1, hc2⟩ := h.1.slice
  obtain ⟨p, cap, hdv, _, _⟩ := h.2.slice
  obtain ⟨n, hn⟩ : ∃ n, t.cols.length = n := ⟨_, rfl⟩
  obtain ⟨nd, hnd⟩ : ∃ n, t.deps.length = n := ⟨_, rfl⟩
  obtain ⟨B, hB⟩ : ∃ B, W.heap.size = B := ⟨_, rfl⟩
  unfold maxLen at hc2
  rw [hnd] at hdv
  rw [hn] at hcv hc1
  subst hcv hdv
  rw [hB] at K0
  have HB := Lib.hid hB
  have HN := Lib.hid hn
  have SM := Lib.hid (And.intro hsm.1 hsm.2)
  have hl8 := hs.1
  obtain ⟨m, hm⟩ : ∃ m, ts.length = m := ⟨_, rfl⟩
  have hlim := lim_fits (t := t) hl8
  rw [hm] at hl8 hlim
  clear h hs hsm hn hnd hB
  go_enter Try.func41, Try.ntmps41
  go_upto_region 1 with fail
  obtain ⟨w0, hw0⟩ : ∃ w0, W.alloc (boxT t.nm (.slice pc n cc) t.key (.slice p nd cap)) = w0 := ⟨_, rfl⟩
  rw [HB.out, hw0]
  rw [hw0] at K0
  clear hw0
  obtain ⟨u00, u01, u02, u03, u04⟩ := K0.out.tb.cells
  obtain ⟨v0, v1⟩ := K0.out.sch.num
  rw [hm] at v1
  clear hm
  by_cases hm8 : m = 8
  · have hb8 : ((m : Int) == 8) = true := beq_iff_eq.2 (by omega)
    have HG : Hid (mayP ts t = 5) := Lib.hid (by unfold mayP; rw [hlim, decide_eq_true hm8]; rfl)
    clear hlim hm8
    go_wp2_with fail
    go_ret
    exact ⟨ret_int HG.out.symm, HB.out ▸ K0.out.tb.below⟩
  have hb8 : ((m : Int) == 8) = false := beq_eq_false_iff_ne.2 (by omega)
  rw [decide_eq_false hm8, Bool.false_or] at hlim
  clear hm8 hl8
  cases hf1 : fitsB t
  · have HG : Hid (mayP ts t = 5) := Lib.hid (by unfold mayP; rw [hlim, hf1]; rfl)
    clear hlim
    go_wp2_with (first
      | (go_at_call 56; (with_reducible refine (fits_is K0.out.tb.tab hf1).mono ?_); rintro e w1 ⟨rfl, hb1⟩; have K1 := Lib.hid (K0.out.on hb1); obtain ⟨u10, u11, u12, u13, u14⟩ := K1.out.tb.cells; clear hb1))
    go_ret
    exact ⟨ret_int (HG.out.symm), HB.out ▸ K1.out.tb.below⟩
  have HL : Hid (mayP ts t = if namesGood ts t = true then (if kindsGood t.cols = true then firstErr (t.cols.map (leads ts)) else 4) else 3) := Lib.hid (by unfold mayP; rw [hlim, hf1]; rfl)
  clear hlim
  cases hf2 : free ts t.nm
  · have HG : Hid (mayP ts t = 3) := Lib.hid (by rw [HL.out]; unfold namesGood; rw [hf2]; rfl)
    go_wp2_with (first
      | (go_at_call 56; (with_reducible refine (fits_is K0.out.tb.tab hf1).mono ?_); rintro e w1 ⟨rfl, hb1⟩; have K1 := Lib.hid (K0.out.on hb1); obtain ⟨u10, u11, u12, u13, u14⟩ := K1.out.tb.cells; clear hb1)
      | (go_at_call 57; (with_reducible refine (free_is K1.out.sch.p SM.out.1 hf2).mono ?_); rintro e w2 ⟨rfl, hb2⟩; have K2 := Lib.hid (K1.out.on hb2); obtain ⟨u20, u21, u22, u23, u24⟩ := K2.out.tb.cells; clear hb2))
    go_ret
    exact ⟨ret_int (HG.out.symm), HB.out ▸ K2.out.tb.below⟩
  cases hf3 : colsGood t.cols
  · have HG : Hid (mayP ts t = 3) := Lib.hid (by rw [HL.out]; unfold namesGood; rw [hf2, hf3]; rfl)
    go_wp2_with (first
      | (go_at_call 56; (with_reducible refine (fits_is K0.out.tb.tab hf1).mono ?_); rintro e w1 ⟨rfl, hb1⟩; have K1 := Lib.hid (K0.out.on hb1); obtain ⟨u10, u11, u12, u13, u14⟩ := K1.out.tb.cells; clear hb1)
      | (go_at_call 57; (with_reducible refine (free_is K1.out.sch.p SM.out.1 hf2).mono ?_); rintro e w2 ⟨rfl, hb2⟩; have K2 := Lib.hid (K1.out.on hb2); obtain ⟨u20, u21, u22, u23, u24⟩ := K2.out.tb.cells; clear hb2)
      | (go_at_call 58; (with_reducible refine (namedCols_is K2.out.tb.tab.c SM.out.2 hf3).mono ?_); rintro e w3 ⟨rfl, hb3⟩; have K3 := Lib.hid (K2.out.on hb3); obtain ⟨u30, u31, u32, u33, u34⟩ := K3.out.tb.cells; clear hb3))
    go_ret
    exact ⟨ret_int (HG.out.symm), HB.out ▸ K3.out.tb.below⟩
  cases hf4 : keyGood t
  · have HG : Hid (mayP ts t = 3) := Lib.hid (by rw [HL.out]; unfold namesGood; rw [hf2, hf3, hf4]; rfl)
    go_wp2_with (first
      | (go_at_call 56; (with_reducible refine (fits_is K0.out.tb.tab hf1).mono ?_); rintro e w1 ⟨rfl, hb1⟩; have K1 := Lib.hid (K0.out.on hb1); obtain ⟨u10, u11, u12, u13, u14⟩ := K1.out.tb.cells; clear hb1)
      | (go_at_call 57; (with_reducible refine (free_is K1.out.sch.p SM.out.1 hf2).mono ?_); rintro e w2 ⟨rfl, hb2⟩; have K2 := Lib.hid (K1.out.on hb2); obtain ⟨u20, u21, u22, u23, u24⟩ := K2.out.tb.cells; clear hb2)
      | (go_at_call 58; (with_reducible refine (namedCols_is K2.out.tb.tab.c SM.out.2 hf3).mono ?_); rintro e w3 ⟨rfl, hb3⟩; have K3 := Lib.hid (K2.out.on hb3); obtain ⟨u30, u31, u32, u33, u34⟩ := K3.out.tb.cells; clear hb3)
      | (go_at_call 59; (with_reducible refine (namedKey_is K3.out.tb.tab hf4).mono ?_); rintro e w4 ⟨rfl, hb4⟩; have K4 := Lib.hid (K3.out.on hb4); obtain ⟨u40, u41, u42, u43, u44⟩ := K4.out.tb.cells; clear hb4))
    go_ret
    exact ⟨ret_int (HG.out.symm), HB.out ▸ K4.out.tb.below⟩
  cases hf5 : depsGood t.cols t.deps
  · have HG : Hid (mayP ts t = 3) := Lib.hid (by rw [HL.out]; unfold namesGood; rw [hf2, hf3, hf4, hf5]; rfl)
    go_wp2_with (first
      | (go_at_call 56; (with_reducible refine (fits_is K0.out.tb.tab hf1).mono ?_); rintro e w1 ⟨rfl, hb1⟩; have K1 := Lib.hid (K0.out.on hb1); obtain ⟨u10, u11, u12, u13, u14⟩ := K1.out.tb.cells; clear hb1)
      | (go_at_call 57; (with_reducible refine (free_is K1.out.sch.p SM.out.1 hf2).mono ?_); rintro e w2 ⟨rfl, hb2⟩; have K2 := Lib.hid (K1.out.on hb2); obtain ⟨u20, u21, u22, u23, u24⟩ := K2.out.tb.cells; clear hb2)
      | (go_at_call 58; (with_reducible refine (namedCols_is K2.out.tb.tab.c SM.out.2 hf3).mono ?_); rintro e w3 ⟨rfl, hb3⟩; have K3 := Lib.hid (K2.out.on hb3); obtain ⟨u30, u31, u32, u33, u34⟩ := K3.out.tb.cells; clear hb3)
      | (go_at_call 59; (with_reducible refine (namedKey_is K3.out.tb.tab hf4).mono ?_); rintro e w4 ⟨rfl, hb4⟩; have K4 := Lib.hid (K3.out.on hb4); obtain ⟨u40, u41, u42, u43, u44⟩ := K4.out.tb.cells; clear hb4)
      | (go_at_call 60; (with_reducible refine (namedDeps_is K4.out.tb.tab hf5).mono ?_); rintro e w5 ⟨rfl, hb5⟩; have K5 := Lib.hid (K4.out.on hb5); obtain ⟨u50, u51, u52, u53, u54⟩ := K5.out.tb.cells; clear hb5))
    go_ret
    exact ⟨ret_int (HG.out.symm), HB.out ▸ K5.out.tb.below⟩
  cases hf6 : kindsGood t.cols
  · have HG : Hid (mayP ts t = 4) := Lib.hid (by rw [HL.out]; unfold namesGood; rw [hf2, hf3, hf4, hf5, hf6]; rfl)
    go_wp2_with (first
      | (go_at_call 56; (with_reducible refine (fits_is K0.out.tb.tab hf1).mono ?_); rintro e w1 ⟨rfl, hb1⟩; have K1 := Lib.hid (K0.out.on hb1); obtain ⟨u10, u11, u12, u13, u14⟩ := K1.out.tb.cells; clear hb1)
      | (go_at_call 57; (with_reducible refine (free_is K1.out.sch.p SM.out.1 hf2).mono ?_); rintro e w2 ⟨rfl, hb2⟩; have K2 := Lib.hid (K1.out.on hb2); obtain ⟨u20, u21, u22, u23, u24⟩ := K2.out.tb.cells; clear hb2)
      | (go_at_call 58; (with_reducible refine (namedCols_is K2.out.tb.tab.c SM.out.2 hf3).mono ?_); rintro e w3 ⟨rfl, hb3⟩; have K3 := Lib.hid (K2.out.on hb3); obtain ⟨u30, u31, u32, u33, u34⟩ := K3.out.tb.cells; clear hb3)
      | (go_at_call 59; (with_reducible refine (namedKey_is K3.out.tb.tab hf4).mono ?_); rintro e w4 ⟨rfl, hb4⟩; have K4 := Lib.hid (K3.out.on hb4); obtain ⟨u40, u41, u42, u43, u44⟩ := K4.out.tb.cells; clear hb4)
      | (go_at_call 60; (with_reducible refine (namedDeps_is K4.out.tb.tab hf5).mono ?_); rintro e w5 ⟨rfl, hb5⟩; have K5 := Lib.hid (K4.out.on hb5); obtain ⟨u50, u51, u52, u53, u54⟩ := K5.out.tb.cells; clear hb5)
      | (go_at_call 61; (with_reducible refine (typed_is K5.out.tb.tab.c hf6).mono ?_); rintro e w6 ⟨rfl, hb6⟩; have K6 := Lib.hid (K5.out.on hb6); obtain ⟨u60, u61, u62, u63, u64⟩ := K6.out.tb.cells; clear hb6))
    go_ret
    exact ⟨ret_int (HG.out.symm), HB.out ▸ K6.out.tb.below⟩
  have HG : Hid (mayP ts t = firstErr (t.cols.map (leads ts))) := Lib.hid (by rw [HL.out]; unfold namesGood; rw [hf2, hf3, hf4, hf5, hf6]; rfl)
  go_wp2_with (first
    | (go_at_call 56; (with_reducible refine (fits_is K0.out.tb.tab hf1).mono ?_); rintro e w1 ⟨rfl, hb1⟩; have K1 := Lib.hid (K0.out.on hb1); obtain ⟨u10, u11, u12, u13, u14⟩ := K1.out.tb.cells; clear hb1)
    | (go_at_call 57; (with_reducible refine (free_is K1.out.sch.p SM.out.1 hf2).mono ?_); rintro e w2 ⟨rfl, hb2⟩; have K2 := Lib.hid (K1.out.on hb2); obtain ⟨u20, u21, u22, u23, u24⟩ := K2.out.tb.cells; clear hb2)
    | (go_at_call 58; (with_reducible refine (namedCols_is K2.out.tb.tab.c SM.out.2 hf3).mono ?_); rintro e w3 ⟨rfl, hb3⟩; have K3 := Lib.hid (K2.out.on hb3); obtain ⟨u30, u31, u32, u33, u34⟩ := K3.out.tb.cells; clear hb3)
    | (go_at_call 59; (with_reducible refine (namedKey_is K3.out.tb.tab hf4).mono ?_); rintro e w4 ⟨rfl, hb4⟩; have K4 := Lib.hid (K3.out.on hb4); obtain ⟨u40, u41, u42, u43, u44⟩ := K4.out.tb.cells; clear hb4)
    | (go_at_call 60; (with_reducible refine (namedDeps_is K4.out.tb.tab hf5).mono ?_); rintro e w5 ⟨rfl, hb5⟩; have K5 := Lib.hid (K4.out.on hb5); obtain ⟨u50, u51, u52, u53, u54⟩ := K5.out.tb.cells; clear hb5)
    | (go_at_call 61; (with_reducible refine (typed_is K5.out.tb.tab.c hf6).mono ?_); rintro e w6 ⟨rfl, hb6⟩; have K6 := Lib.hid (K5.out.on hb6); obtain ⟨u60, u61, u62, u63, u64⟩ := K6.out.tb.cells; clear hb6))
  clear hf1 hf2 hf3 hf4 hf5 hf6 HL u00 u01 u02 u03 u04 v0 v1 u10 u11 u12 u13 u14 u20 u21 u22 u23 u24 u30 u31 u32 u33 u34 u40 u41 u42 u43 u44 u50 u51 u52 u53 u54 u60 u61 u62 u63 u64 hb8 K1 K2 K3 K4 K5
  go_loopg [6, 7, 49] (n + 1) (fun gh _ _ jv w => ∃ (j : Nat), jv = .int .i64 (j : Int) ∧ j ≤ n ∧ n + 1 ≤ j + gh ∧ (∀ i (h : i < t.cols.length), i < j → leads ts t.cols[i] = 0) ∧ KeepM B W B t (.slice pc n cc) (.slice p nd cap) sb ts w)
  case atStart => exact ⟨0, rfl, Nat.zero_le _, by omega, fun i _ hi => by omega, K6.out⟩
  case round =>
    obtain ⟨j, rfl, hj, hg, hno, hK⟩ := hrel
    have HI := Lib.hid (And.intro hno hK)
    clear hno
    by_cases hlt : j < n
    · have hjl : j < t.cols.length := by rw [HN.out]; exact hlt
      obtain ⟨b, off, rfl, hb, c0, c1, c2, c3⟩ := RdC.col hK.tb.tab.1 hjl
      obtain ⟨c, hcj⟩ : ∃ c, t.cols[j] = c := ⟨_, rfl⟩
      rw [hcj] at c0 c1 c2 c3
      have HC := Lib.hid hcj
      have hle := leads_any (c := c) (hK.on (below_alloc wr (.cells #[.string c.nm, .int .i64 c.kd, .bool c.mu, .string c.tgt] 33))).sch.p
      clear hK hcj
      have hml : j < (t.cols.map (leads ts)).length := by rw [List.length_map]; exact hjl
      by_cases hz : leads ts c = 0
      · have HZ := Lib.hid hz
        rw [hz] at hle
        clear hz hml
        go_wp2_with (go_at_call 62; (with_reducible refine hle.mono ?_); rintro e w7 ⟨rfl, hb7⟩)
        go_roundg (n - j)
        case measure => omega
        case rel =>
          refine ⟨j + 1, by go_num, by omega, by omega, fun i hi hij => ?_, (HI.out.2.on (below_alloc wr _)).on hb7⟩
          by_cases e : i = j
          · subst e; rw [HC.out]; exact HZ.out
          · exact HI.out.1 i hi (by omega)
      · have hne : (leads ts c != 0) = true := by simp [hz]
        have HZ := Lib.hid hz
        clear hz
        obtain ⟨z, hzz⟩ : ∃ z, leads ts c = z := ⟨_, rfl⟩
        rw [hzz] at hle hne
        have HE : Hid (firstErr (t.cols.map (leads ts)) = z) := Lib.hid (by
          have := firstErr_at (t.cols.map (leads ts)) j hml (by rw [List.getElem_map, HC.out]; exact HZ.out) (fun i hi => by rw [List.getElem_map]; exact HI.out.1 i (by omega) hi)
          rw [this, List.getElem_map, HC.out]; exact hzz)
        clear hzz hml
        go_wp2_with (go_at_call 62; (with_reducible refine hle.mono ?_); rintro e w7 ⟨rfl, hb7⟩)
        go_ret
        exact ⟨ret_int (by rw [HG.out, HE.out]), HB.out ▸ ((HI.out.2.on (below_alloc wr _)).on hb7).tb.below⟩
    · go_wp2_with fail
      go_ret
      exact ⟨ret_int (by rw [HG.out]; exact (firstErr_none _ (fun i hi => by rw [List.getElem_map]; rw [List.length_map] at hi; exact HI.out.1 i hi (by have := HN.out; omega))).symm), HB.out ▸ HI.out.2.tb.below⟩
end Go.Proofs.Ytcgceigcegddlaa
