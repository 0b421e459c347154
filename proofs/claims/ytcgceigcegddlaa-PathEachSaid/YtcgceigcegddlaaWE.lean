/- Same; PathEach: its walk. -/
import Derived.Test.YtcgceigcegddlaaQF
import Derived.Test.YtcgceigcegddlaaPM
namespace Go.Proofs.Ytcgceigcegddlaa
open Go Go.RowKit Go.Proofs

set_option maxRecDepth 100000 in
set_option maxHeartbeats 4000000 in
theorem same_any {B1 B2 : Nat} {v1 v2 : Value} {vs us : List Value} {ps : List (List ByteArray)} {W : World} (h1 : PR B1 v1 vs ps W) (h2 : PR B2 v2 us ps W) (hl : ps.length ≤ 100000) : Calls Try.prog 18 #[v1, v2] W fun e w' => e = .returned (.bool true) ∧ Below W.heap.size W w' := by
  obtain ⟨p1, c1, rfl, hc1, hm1⟩ := h1.row.isslice
  obtain ⟨p2, c2, rfl, hc2, hm2⟩ := h2.row.isslice
  obtain ⟨n, hn⟩ : ∃ n, ps.length = n := ⟨_, rfl⟩
  rw [hn] at hc1 hc2 h1 h2 hl ⊢
  have HR := Lib.hid (And.intro h1 (And.intro h2 hn))
  clear h1 h2 hn
  go_enter Try.func18, Try.ntmps18
  go_wp2_with fail
  go_loopg [5] (n + 1) (fun gh jv w => ∃ (j : Nat), jv = .int .i64 (j : Int) ∧ j ≤ n ∧ n + 1 ≤ j + gh ∧ Below W.heap.size W w)
  case atStart => exact ⟨0, rfl, Nat.zero_le _, by omega, Below.refl _ _⟩
  case round =>
    obtain ⟨j, rfl, hj, hg, hB⟩ := hrel
    obtain ⟨w1, rfl⟩ : ∃ w1, w1 = wr := ⟨_, rfl⟩
    by_cases hlt : j < n
    · have hjl : j < ps.length := by rw [HR.out.2.2]; exact hlt
      obtain ⟨g1, d1, e1, _, _⟩ := HR.out.1.row.slice (by omega)
      obtain ⟨rfl, -, rfl⟩ := Value.slice.inj e1
      obtain ⟨g2, d2, e2, _, _⟩ := HR.out.2.1.row.slice (by omega)
      obtain ⟨rfl, -, rfl⟩ := Value.slice.inj e2
      obtain ⟨pa, ca, k1, k2, k3⟩ := PR.elem (HR.out.1.on hB) hjl
      obtain ⟨pb, cb, k4, k5, k6⟩ := PR.elem (HR.out.2.1.on hB) hjl
      obtain ⟨x, hx⟩ : ∃ x, ps[j] = x := ⟨_, rfl⟩
      rw [hx] at k1 k2 k4 k5
      obtain ⟨lx, hlx⟩ : ∃ k, x.length = k := ⟨_, rfl⟩
      rw [hlx] at k1 k2 k4 k5
      have HQ : Hid (∀ w, Below w1.heap.size w1 w → w.cell? ⟨g1, j, none⟩ = some (.slice pa lx ca) ∧ w.cell? ⟨g2, j, none⟩ = some (.slice pb lx cb)) := Lib.hid (fun w hb => ⟨bel_cell hb k1, bel_cell hb k4⟩)
      have hz : decide (cmpP x x = 0) = true := decide_eq_true (cmpP_self x)
      have HC : Hid (∀ w, Below w1.heap.size w1 w → Calls Try.prog 35 #[.slice pa lx ca, .slice pb lx cb] w fun e w' => e = .returned (.bool true) ∧ Below w.heap.size w w') := Lib.hid (fun w hb => hz ▸ reqP_any (k2.later hb).rd (k5.later hb).rd)
      have HB := Lib.hid hB
      have hji : (j : Int) < (n : Int) := by omega
      clear hB e1 e2 k1 k2 k3 k4 k5 k6 hx hlx hz hjl
      go_upto_region 6 with fail
      refine Par.wp_region_par 10 [.slice (some ⟨g1, 0, none⟩) n c1, .int .i64 j, (Value.pointer (some ⟨g1, j, none⟩)), .slice pa lx ca, .slice (some ⟨g2, 0, none⟩) n c2, .int .i64 j, (Value.pointer (some ⟨g2, j, none⟩)), .slice pb lx cb, .bool true, .bool false] (fun w => Below w1.heap.size w1 w) ?A1 ?hm1 ?hB1 ?hA1 ((below_drew w1)) ?hop1 ?hT1
      case hm1 => kernel_rfl
      case hB1 => kernel_rfl
      case hA1 =>
        simp only [Par.putA, Par.dstAt, Act.put, List.getElem?_toArray, List.getElem?_cons_zero, List.getElem?_cons_succ, Option.bind_some, List.setIfInBounds_toArray, List.set_cons_zero, List.set_cons_succ, List.getD_cons_zero, List.getD_cons_succ]
        rfl
      case hop1 =>
        simp only [List.take_succ_cons, List.take_zero, Par.GiveAll, and_true]
        refine ⟨fun w' hR => ?_, fun w' hR => ?_, fun w' hR => ?_, fun w' hR => ?_, fun w' hR => ?_, fun w' hR => ?_, fun w' hR => ?_, fun w' hR => ?_, fun w' hR => ?_, fun w' hR => ?_⟩
        · have HR := Lib.hid hR
          clear hR
          simp only [Par.Gives]
          go_simp
          all_goals exact HR.out
        · have HR := Lib.hid hR
          clear hR
          simp only [Par.Gives]
          go_simp
          all_goals exact HR.out
        · have HR := Lib.hid hR
          clear hR
          simp only [Par.Gives]
          go_simp
          all_goals exact HR.out
        · have HR := Lib.hid hR
          have k := (HQ.out w' hR).1
          clear hR
          simp only [Par.Gives]
          go_simp
          all_goals exact HR.out
        · have HR := Lib.hid hR
          clear hR
          simp only [Par.Gives]
          go_simp
          all_goals exact HR.out
        · have HR := Lib.hid hR
          clear hR
          simp only [Par.Gives]
          go_simp
          all_goals exact HR.out
        · have HR := Lib.hid hR
          clear hR
          simp only [Par.Gives]
          go_simp
          all_goals exact HR.out
        · have HR := Lib.hid hR
          have k := (HQ.out w' hR).2
          clear hR
          simp only [Par.Gives]
          go_simp
          all_goals exact HR.out
        · have HR := Lib.hid hR
          clear hR
          simp only [Par.Gives]
          go_simp
          exact (HC.out _ HR.out).mono (fun e w'' ⟨he, hb⟩ => ⟨he, below_on HR.out hb⟩)
        · have HR := Lib.hid hR
          clear hR
          simp only [Par.Gives]
          go_simp
          all_goals exact HR.out
      case hT1 =>
        intro w' hR
        simp only [List.drop_succ_cons, List.drop_nil]
        have HB2 := Lib.hid (below_on HB.out hR)
        clear hR
        go_wp2_with fail
        go_roundg (n - j)
        case measure => omega
        case rel => exact ⟨j + 1, by go_num, by omega, by omega, HB2.out⟩
    · obtain rfl : j = n := by omega
      go_wp2_with fail
      go_ret
      exact ⟨rfl, hB⟩
theorem all_len {ts : List T} (hN : Nice ts) {tb : ByteArray} {qs : List (List ByteArray)} (h : IsAll ts tb qs) : qs.length ≤ 1554 := by
  have h1 := h.2.length_eq
  have h2 := ways_len hN 4 tb []
  have h3 := manyW_le 4 (by omega)
  omega
theorem tables_of {l : List T} {v : Value} {W : World} (h : InTs W v l) : Calls Try.prog 11 #[v] W fun e w' => ∃ p n c, e = .returned (.slice p n c) ∧ n = ((l.map cutT).take 12).length ∧ RdTs w' (.slice p n c) ((l.map cutT).take 12) ∧ Below W.heap.size W w' :=
  (tables_any h).mono fun _ _ ⟨p, n, c, _, h1, h2, h3, h4⟩ => ⟨p, n, c, h1, h3, rd_row h2.row h2.tabs, h4⟩
set_option maxRecDepth 100000 in
set_option maxHeartbeats 4000000 in
theorem pathEach_walk {l : List T} {v : Value} {tb : ByteArray} {W : World} (h : InTs W v l) : Calls Try.prog 4 #[v, .string tb] W fun e w' => e = .returned (.bool true) ∧ Below W.heap.size W w' := by
  have HI := Lib.hid h
  obtain ⟨pv, capv, hv, _, _⟩ := h.slice
  obtain ⟨n0, hn0⟩ : ∃ m, l.length = m := ⟨_, rfl⟩
  rw [hn0] at hv
  subst hv
  clear h hn0
  obtain ⟨us, hus⟩ : ∃ x, (l.map cutT).take 12 = x := ⟨_, rfl⟩
  obtain ⟨ks, hks⟩ : ∃ x, kept us us.length = x := ⟨_, rfl⟩
  have hsm : ∀ t ∈ us, Sm t := hus ▸ cuts_sm l
  have hul : us.length ≤ 12 := by rw [← hus, List.length_take]; omega
  have hfew : AllFew ks := hks ▸ (kept_inv us us.length).2
  have hnice : Nice ks := hks ▸ kept_nice us us.length
  have HU := Lib.hid (And.intro hus (And.intro hks (And.intro hsm (And.intro hul (And.intro hfew hnice)))))
  clear hus hks hsm hul hfew hnice
  go_enter Try.func4, Try.ntmps4
  go_upto_region 4 with (go_at_call 8; (with_reducible refine (pbegun_any _).mono ?_); rintro e w0 ⟨rfl, hb0⟩; have H0 := Lib.hid hb0; have hc3 := tables_of (HI.out.on hb0); rw [HU.out.1] at hc3; clear hb0)
  go_upto_region 5 with (first
    | (go_at_call 11; (with_reducible refine hc3.mono ?_); rintro e w3 ⟨p3, m3, c3, rfl, hm3, hR3, hb3⟩; have H3 := Lib.hid (below_on H0.out hb3); have hc4 := both_is hR3 HU.out.2.2.1 (Nat.le_trans HU.out.2.2.2.1 (by decide)) HU.out.2.1; clear hc3 hm3 hR3 hb3)
    | (go_at_call 10; (with_reducible refine hc4.mono ?_); rintro e w4 ⟨S, p4, m4, c4, rfl, hm4, hK4⟩; have K4 := Lib.hid hK4; clear hc4 hm4 hK4))
  have hall := pall_any (tb := tb) HU.out.2.2.2.2.1 HU.out.2.2.2.2.2 K4.out.sch
  go_wp2_with (first
    | (go_at_call 19; (with_reducible refine hall.mono ?_); rintro e w5 ⟨p5, m5, c5, vs5, qs5, rfl, hm5, hA5, hP5, hb5⟩; have K5 := Lib.hid (K4.out.on hb5); have H5 := Lib.hid (And.intro hA5 hP5); have hra := rall_any (tb := tb) K5.out.rd HU.out.2.2.2.2.2; clear hall hm5 hA5 hP5 hb5)
    | (go_at_call 20; (with_reducible refine hra.mono ?_); rintro e w6 ⟨p6, m6, c6, vs6, qs6, rfl, hm6, hA6, hP6, hb6⟩; have K6 := Lib.hid (K5.out.on hb6); have hsame := same_any (H5.out.2.on hb6) ((hA6.one H5.out.1) ▸ hP6) (Nat.le_trans (all_len HU.out.2.2.2.2.2 H5.out.1) (by decide)); clear hra hm6 hA6 hP6 hb6)
    | (go_at_call 18; (with_reducible refine hsame.mono ?_); rintro e w7 ⟨rfl, hb7⟩; have K7 := Lib.hid (K6.out.on hb7); clear hsame hb7))
  go_ret
  exact ⟨rfl, below_on H3.out K7.out.below⟩
end Go.Proofs.Ytcgceigcegddlaa
