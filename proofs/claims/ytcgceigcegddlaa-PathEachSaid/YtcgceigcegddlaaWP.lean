/- PathAll: its walk. -/
import Derived.Test.YtcgceigcegddlaaPM
namespace Go.Proofs.Ytcgceigcegddlaa
open Go Go.RowKit Go.Proofs

theorem path_is {l : List ByteArray} {v : Value} {W : World} (h : InS W v l) : Calls Try.prog 9 #[v] W fun e w' => ∃ p n c, e = .returned (.slice p n c) ∧ n = (pathP l).length ∧ Wd w' (.slice p n c) (pathP l) ∧ Below W.heap.size W w' :=
  (path_any h).mono fun _ _ ⟨p, n, c, h1, h2, h3, h4⟩ => ⟨p, n, c, h1, h2, h3.wd, h4⟩
theorem pathP_short (l : List ByteArray) : Short (pathP l) := ⟨pathP_len l, fun x hx => by
  unfold pathP at hx
  obtain ⟨y, _, rfl⟩ := List.mem_map.1 (List.mem_of_mem_take hx)
  exact Nat.le_trans (cutB_le 20 y) (by decide)⟩
theorem refCol_is {ts : List T} {pv v : Value} {tb : ByteArray} {p : List ByteArray} {W : World} {nm tg u : ByteArray} {kd er : Int} {mu : Bool} (h : RdTs W pv ts) (hp : Wd W v p) (hr : pcolL ts tb p = (⟨nm, kd, mu, tg⟩, u, er)) : Calls Try.prog 13 #[pv, .string tb, v] W fun e w' => e = .returned (.tuple #[.agg #[.string nm, .int .i64 kd, .bool mu, .string tg], .string u, .int .i64 er]) ∧ Below W.heap.size W w' := by
  have := refCol_any (tb := tb) h hp.rd
  rw [hr] at this
  exact this
theorem tables_is {l : List T} {v : Value} {W : World} (h : InTs W v l) : Calls Try.prog 11 #[v] W fun e w' => ∃ p n c, e = .returned (.slice p n c) ∧ n = ((l.map cutT).take 12).length ∧ RdTs w' (.slice p n c) ((l.map cutT).take 12) ∧ Below W.heap.size W w' :=
  (tables_any h).mono fun _ _ ⟨p, n, c, _, h1, h2, h3, h4⟩ => ⟨p, n, c, h1, h3, rd_row h2.row h2.tabs, h4⟩
set_option maxRecDepth 100000 in
set_option maxHeartbeats 4000000 in
theorem pathAll_walk {l : List T} {v vp vq : Value} {tb : ByteArray} {pl ql : List ByteArray} {W : World} (h : InTs W v l) (hp : InS W vp pl) (hq : InS W vq ql) : Calls Try.prog 3 #[v, .string tb, vp, vq] W fun e w' => e = .returned (.bool true) ∧ Below W.heap.size W w' := by
  have HI := Lib.hid (And.intro h (And.intro hp hq))
  obtain ⟨pv, capv, hv, _, _⟩ := h.slice
  obtain ⟨pp, cpp, hpp, _, _⟩ := InR.slice hp
  obtain ⟨pq, cpq, hpq, _, _⟩ := InR.slice hq
  obtain ⟨n0, hn0⟩ : ∃ m, l.length = m := ⟨_, rfl⟩
  obtain ⟨n1, hn1⟩ : ∃ m, pl.length = m := ⟨_, rfl⟩
  obtain ⟨n2, hn2⟩ : ∃ m, ql.length = m := ⟨_, rfl⟩
  rw [hn0] at hv
  rw [hn1] at hpp
  rw [hn2] at hpq
  subst hv hpp hpq
  clear h hp hq hn0 hn1 hn2
  obtain ⟨us, hus⟩ : ∃ x, (l.map cutT).take 12 = x := ⟨_, rfl⟩
  obtain ⟨ks, hks⟩ : ∃ x, kept us us.length = x := ⟨_, rfl⟩
  have hsm : ∀ t ∈ us, Sm t := hus ▸ cuts_sm l
  have hul : us.length ≤ 12 := by rw [← hus, List.length_take]; omega
  have HU := Lib.hid (And.intro hus (And.intro hks (And.intro hsm hul)))
  obtain ⟨p, hpe⟩ : ∃ x, pathP pl = x := ⟨_, rfl⟩
  obtain ⟨q, hqe⟩ : ∃ x, pathP ql = x := ⟨_, rfl⟩
  have hps : Short p := hpe ▸ pathP_short pl
  have HE := Lib.hid (And.intro hpe (And.intro hqe hps))
  clear hus hks hsm hul hpe hqe hps
  go_enter Try.func3, Try.ntmps3
  go_upto_region 4 with (go_at_call 8; (with_reducible refine (pbegun_any _).mono ?_); rintro e w0 ⟨rfl, hb0⟩; have H0 := Lib.hid hb0; have hc1 := path_is (HI.out.2.1.on hb0); rw [HE.out.1] at hc1; clear hb0)
  go_upto_region 5 with (first
    | (go_at_call 9; (with_reducible refine hc1.mono ?_); rintro e w1 ⟨p1, m1, c1, rfl, hm1, hW1, hb1⟩; have H1 := Lib.hid (And.intro hm1 (And.intro hW1 (below_on H0.out hb1))); have hc2 := path_is (HI.out.2.2.on H1.out.2.2); rw [HE.out.2.1] at hc2; clear hc1 hm1 hW1 hb1)
    | (go_at_call 9; (with_reducible refine hc2.mono ?_); rintro e w2 ⟨p2, m2, c2, rfl, hm2, hW2, hb2⟩; have H2 := Lib.hid (And.intro (H1.out.2.1.later hb2) (And.intro hW2 (below_on H1.out.2.2 hb2))); have hc3 := tables_is (HI.out.1.on H2.out.2.2); rw [HU.out.1] at hc3; clear hc2 hm2 hW2 hb2))
  go_upto_region 6 with (first
    | (go_at_call 11; (with_reducible refine hc3.mono ?_); rintro e w3 ⟨p3, m3, c3, rfl, hm3, hR3, hb3⟩; have H3 := Lib.hid hb3; have hc4 := both_is hR3 HU.out.2.2.1 (Nat.le_trans HU.out.2.2.2 (by decide)) HU.out.2.1; clear hc3 hm3 hR3 hb3)
    | (go_at_call 10; (with_reducible refine hc4.mono ?_); rintro e w4 ⟨S, p4, m4, c4, rfl, hm4, hK4⟩; have K4 := Lib.hid (hK4.mono H3.out); clear hc4 hm4 hK4))
  obtain ⟨r, hr⟩ : ∃ r, pcolL ks tb p = r := ⟨_, rfl⟩
  obtain ⟨⟨nm, kd, mu, tg⟩, u, er⟩ := r
  have hc5 := pathCol_is K4.out.sch (H2.out.1.later K4.out.below) hr
  go_upto_region 7 with (go_at_call 12; (with_reducible refine hc5.mono ?_); rintro e w5 ⟨rfl, hb5⟩)
  have hx5 := heap_alloc_new w5 (.cells #[.string nm, .int .i64 kd, .bool mu, .string tg] 33)
  have hbb := below_on hb5 (below_alloc w5 (.cells #[.string nm, .int .i64 kd, .bool mu, .string tg] 33))
  obtain ⟨B5, hB5⟩ : ∃ x, w5.heap.size = x := ⟨_, rfl⟩
  obtain ⟨w6, hw6⟩ : ∃ x, w5.alloc (.cells #[.string nm, .int .i64 kd, .bool mu, .string tg] 33) = x := ⟨_, rfl⟩
  rw [hB5, hw6] at hx5
  rw [hw6] at hbb
  rw [hB5, hw6]
  have K6 := Lib.hid (And.intro (K4.out.on hbb) hx5)
  clear hc5 hb5 hx5 hbb hB5 hw6
  have hc6 := refCol_is K6.out.1.rd (H2.out.1.later K6.out.1.below) hr
  go_upto_region 8 with (go_at_call 13; (with_reducible refine hc6.mono ?_); rintro e w7 ⟨rfl, hb7⟩)
  have hx7 := heap_alloc_new w7 (.cells #[.string nm, .int .i64 kd, .bool mu, .string tg] 33)
  have hbb := below_on hb7 (below_alloc w7 (.cells #[.string nm, .int .i64 kd, .bool mu, .string tg] 33))
  obtain ⟨B7, hB7⟩ : ∃ x, w7.heap.size = x := ⟨_, rfl⟩
  obtain ⟨w8, hw8⟩ : ∃ x, w7.alloc (.cells #[.string nm, .int .i64 kd, .bool mu, .string tg] 33) = x := ⟨_, rfl⟩
  rw [hB7, hw8] at hx7
  rw [hw8] at hbb
  rw [hB7, hw8]
  have hx6 := heap_on hbb K6.out.2
  have K8 := Lib.hid (K6.out.1.on hbb)
  have z0 := nd_cell hx6 0
  have z1 := nd_cell hx6 1
  have z2 := nd_cell hx6 2
  have z3 := nd_cell hx6 3
  have zl := lt_of_heap hx6
  have y0 := nd_cell hx7 0
  have y1 := nd_cell hx7 1
  have y2 := nd_cell hx7 2
  have y3 := nd_cell hx7 3
  have yl := lt_of_heap hx7
  clear hc6 hb7 hx7 hbb hB7 hw8 hx6 hr
  have hP8 := H2.out.1.later K8.out.below
  have hQ8 := H2.out.2.1.later K8.out.below
  obtain ⟨t, ht⟩ : ∃ x, textP p = x := ⟨_, rfl⟩
  obtain ⟨z, hz⟩ : ∃ x, cmpP p q = x := ⟨_, rfl⟩
  have hz2 : cmpP q p = -z := by rw [← hz, cmpP_swap q p]
  have hzr := cmpP_range p q
  rw [hz] at hzr
  have hzl : -1 ≤ z := by omega
  have hzu : z ≤ 1 := by omega
  have ht1 := text_any hP8 HE.out.2.2
  rw [ht] at ht1
  have HT2 : Hid (∀ w, Below w8.heap.size w8 w → Calls Try.prog 15 #[.slice p1 m1 c1] w fun e w' => e = .returned (.string t) ∧ w' = w) := Lib.hid (fun w hb => ht ▸ rtext_any (hP8.later hb).rd HE.out.2.2)
  have HC1 : Hid (∀ w, Below w8.heap.size w8 w → Calls Try.prog 16 #[.slice p1 m1 c1, .slice p2 m2 c2] w fun e w' => e = .returned (.int .i64 z) ∧ w' = w) := Lib.hid (fun w hb => hz ▸ pcmp_any (hP8.later hb) (hQ8.later hb))
  have HC2 : Hid (∀ w, Below w8.heap.size w8 w → Calls Try.prog 17 #[.slice p1 m1 c1, .slice p2 m2 c2] w fun e w' => e = .returned (.int .i64 z) ∧ Below w.heap.size w w') := Lib.hid (fun w hb => hz ▸ rcmp_any (hP8.later hb).rd (hQ8.later hb).rd)
  have HC3 : Hid (∀ w, Below w8.heap.size w8 w → Calls Try.prog 16 #[.slice p2 m2 c2, .slice p1 m1 c1] w fun e w' => e = .returned (.int .i64 (-z)) ∧ w' = w) := Lib.hid (fun w hb => hz2 ▸ pcmp_any (hQ8.later hb) (hP8.later hb))
  clear hP8 hQ8 ht hz hz2 hzr
  go_wp2_with (first
    | (go_at_call 14; (with_reducible refine ht1.mono ?_); rintro e w9 ⟨rfl, hb9⟩; have H9 := Lib.hid hb9; have ht2 := HT2.out _ hb9; clear ht1 hb9)
    | (go_at_call 15; (with_reducible refine ht2.mono ?_); rintro e w10 ⟨rfl, hw⟩; have hw := hw.symm; subst hw; have hc7 := HC1.out _ H9.out)
    | (go_at_call 16; (with_reducible refine hc7.mono ?_); rintro e w11 ⟨rfl, hw⟩; have hw := hw.symm; subst hw; have hc8 := HC2.out _ H9.out; clear hc7)
    | (go_at_call 17; (with_reducible refine hc8.mono ?_); rintro e w12 ⟨rfl, hb12⟩; have H12 := Lib.hid (below_on H9.out hb12); have hc9 := HC3.out _ H12.out; clear hc8 hb12)
    | (go_at_call 16; (with_reducible refine hc9.mono ?_); rintro e w13 ⟨rfl, hw⟩; have hw := hw.symm; subst hw; have hc10 := HC2.out _ H12.out; clear hc9)
    | (go_at_call 17; (with_reducible refine hc10.mono ?_); rintro e w14 ⟨rfl, hb14⟩; have H14 := Lib.hid (below_on H12.out hb14); clear hc10 hb14))
  go_ret
  exact ⟨rfl, below_on (below_on H2.out.2.2 K8.out.below) H14.out⟩
end Go.Proofs.Ytcgceigcegddlaa
