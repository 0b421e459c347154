/- DepAll: its walk. -/
import Derived.Test.YtmfkkpogmmoflaaGreatZD
namespace Go.Proofs.YtmfkkpogmmoflaaGreat
open Go Go.RowKit Go.Proofs

set_option maxRecDepth 100000 in
set_option maxHeartbeats 8000000 in
theorem depAll_walk {vt vf vp : Value} {t : ByteArray} {l : List T} {lf : List (List ByteArray)} {pl : List ByteArray} {W : World} (h : InTs W vt l) (hf : InPs W vf lf) (hp : InS W vp pl) : Calls Tryz.prog 3 #[vt, .string t, vf, vp] W fun e w' => e = .returned (.bool true) ∧ Below W.heap.size W w' := by
  obtain ⟨pv, capv, rfl, _, _⟩ := h.slice
  obtain ⟨pf, cpf, rfl, _, _⟩ := hf.slice
  obtain ⟨pp, cpp, rfl, _, _⟩ := InR.slice hp
  obtain ⟨nt, hnt⟩ : ∃ m, l.length = m := ⟨_, rfl⟩
  obtain ⟨nf, hnf⟩ : ∃ m, lf.length = m := ⟨_, rfl⟩
  obtain ⟨n0, hn0⟩ : ∃ m, pl.length = m := ⟨_, rfl⟩
  rw [hnt] at h ⊢
  rw [hnf] at hf ⊢
  rw [hn0] at hp ⊢
  have HI := Lib.hid (And.intro h (And.intro hf hp))
  obtain ⟨fr, hfr⟩ : ∃ x, pathsP lf = x := ⟨_, rfl⟩
  obtain ⟨tw, hto⟩ : ∃ x, pathP pl = x := ⟨_, rfl⟩
  have HE := Lib.hid (And.intro hfr hto)
  have HL : Hid (fr.length ≤ 100000) := Lib.hid (by rw [← hfr]; unfold pathsP; rw [List.length_take]; omega)
  obtain ⟨us, hus⟩ : ∃ x, (l.map cutT).take 12 = x := ⟨_, rfl⟩
  obtain ⟨ks, hks⟩ : ∃ x, kept us us.length = x := ⟨_, rfl⟩
  have hsm : ∀ t ∈ us, Sm t := hus ▸ cuts_sm l
  have hul : us.length ≤ 12 := by rw [← hus, List.length_take]; omega
  have hfew : AllFew ks := hks ▸ (kept_inv us us.length).2
  have hfine : Fine ks := hks ▸ Fine.kept Fine.nil
  have HU := Lib.hid (And.intro hus (And.intro hks (And.intro hsm (And.intro hul (And.intro hfew hfine)))))
  clear h hf hp hnt hnf hn0 hfr hto hus hks hsm hul hfew hfine
  go_enter Tryz.func3, Tryz.ntmps3
  go_upto_region 4 with (go_at_call 5; (with_reducible refine (dbegun_any _).mono ?_); rintro e w0 ⟨rfl, hb0⟩; have H0 := Lib.hid hb0; have hc1 := tables_is (HI.out.1.on hb0); rw [HU.out.1] at hc1; clear hb0)
  go_upto_region 5 with (first
    | (go_at_call 6; (with_reducible refine hc1.mono ?_); rintro e w1 ⟨p1, n1, c1, rfl, hn1, hP1, hb1⟩; have H1 := Lib.hid (And.intro hn1 (And.intro hP1 (below_on H0.out hb1))); have hc2 := paths_any (HI.out.2.1.on (below_on H0.out hb1)); rw [HE.out.1] at hc2; clear hc1 hn1 hP1 hb1)
    | (go_at_call 7; (with_reducible refine hc2.mono ?_); rintro e w2 ⟨p2, n2, c2, vs2, rfl, hn2, hP2, hb2⟩; have H2 := Lib.hid (And.intro (H1.out.2.1.later hb2) (And.intro hP2 (below_on H1.out.2.2 hb2))); have hc3 := path_is (HI.out.2.2.on (below_on H1.out.2.2 hb2)); rw [HE.out.2] at hc3; clear hc2 hn2 hP2 hb2)
    | (go_at_call 8; (with_reducible refine hc3.mono ?_); rintro e w3 ⟨p3, n3, c3, rfl, hn3, hW3, hb3⟩; have H3 := Lib.hid (And.intro (H2.out.1.later hb3) (And.intro (H2.out.2.1.on hb3) (And.intro hW3 (below_on H2.out.2.2 hb3)))); have hboth := both_is (H2.out.1.later hb3) HU.out.2.2.1 (Nat.le_trans HU.out.2.2.2.1 (by decide)) HU.out.2.1; clear hc3 hn3 hW3 hb3))
  go_upto_region 6 with (go_at_call 9; (with_reducible refine hboth.mono ?_); rintro e w4 ⟨S, p4, n4, c4, rfl, hn4, hK⟩; have K4 := Lib.hid hK; clear hn4 hK hboth)
  have hall := rall_any (tb := t) K4.out.rd HU.out.2.2.2.2.2.nice
  go_upto_if 31 with (go_at_call 10; (with_reducible refine hall.mono ?_); rintro e w5 ⟨p5, m5, c5, vs5, qs5, rfl, hm5, hA5, hP5, hb5⟩; have K5 := Lib.hid (K4.out.on hb5); clear hm5 hA5 hP5 hb5 hall)
  by_cases hgt : 150 < m5
  · have hgi : (150 : Int) < (m5 : Int) := by omega
    clear hgt
    go_wp2_with fail
    go_ret
    exact ⟨rfl, below_on H3.out.2.2.2 K5.out.below⟩
  · have hgi : ¬ (150 : Int) < (m5 : Int) := by omega
    clear hgt
    have hcl := rclos_any (tb := t) HU.out.2.2.2.2.2 K5.out.rd (H3.out.2.1.on K5.out.below).rdw HL.out
    go_upto_region 9 with (go_at_call 11; (with_reducible refine hcl.mono ?_); rintro e w6 ⟨p6, m6, c6, vs6, ls, rfl, hm6, hl6, hI6, hP6, hb6⟩; have Z6 := Lib.hid (ZI.mk (K5.out.on hb6) ((H3.out.2.1.on K5.out.below).on hb6).rdw ((H3.out.2.2.1.later K5.out.below).later hb6) hP6); have H6 := Lib.hid (And.intro hm6 (And.intro hl6 hI6)); clear hcl hm6 hl6 hI6 hP6 hb6)
    have hk := kclos_any (tb := t) HU.out.2.2.2.2.1 HU.out.2.2.2.2.2 Z6.out.k.sch Z6.out.f
    obtain ⟨r, hr⟩ : ∃ r, inP ls tw = r := ⟨_, rfl⟩
    have HR := Lib.hid hr
    clear hr
    go_wp2_with (first
      | (go_at_call 13; (with_reducible refine hk.mono ?_); rintro e w7 ⟨p7, m7, c7, vs7, l7, rfl, hm7, hl7, hI7, hP7, hb7⟩; have e7 := hI7.one H6.out.2.2; rw [e7] at hP7; have Z7 := Lib.hid (Z6.out.on hb7); have hs7 := same_any hP7 Z7.out.c (by have := H6.out.2.1; omega); clear hk hm7 hl7 hI7 hP7 hb7 e7)
      | (go_at_call 12; (with_reducible refine hs7.mono ?_); rintro e w8 ⟨rfl, hb8⟩; have Z8 := Lib.hid (Z7.out.on hb8); have hd8 := kdet_any (tb := t) HU.out.2.2.2.2.1 HU.out.2.2.2.2.2 Z8.out.k.sch Z8.out.f Z8.out.t (inP_cl H6.out.2.2 HR.out); clear hs7 hb8)
      | (go_at_call 14; (with_reducible refine hd8.mono ?_); rintro e w9 ⟨rfl, hb9⟩; have Z9 := Lib.hid (Z8.out.on hb9); have hi9 := in_any Z9.out.c.rdw Z9.out.t (by have := H6.out.2.1; omega); rw [HR.out] at hi9; clear hd8 hb9)
      | (go_at_call 15; (with_reducible refine hi9.mono ?_); rintro e w10 ⟨rfl, hb10⟩; have Z10 := Lib.hid (Z9.out.on hb10); clear hi9 hb10))
    go_ret
    exact ⟨by simp, below_on H3.out.2.2.2 Z10.out.k.below⟩
end Go.Proofs.YtmfkkpogmmoflaaGreat
