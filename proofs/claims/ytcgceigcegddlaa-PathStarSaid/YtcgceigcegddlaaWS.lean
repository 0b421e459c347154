/- In; PathStar: its walk. -/
import Derived.Test.YtcgceigcegddlaaWP
namespace Go.Proofs.Ytcgceigcegddlaa
open Go Go.RowKit Go.Proofs

/-- A row of ways that can be read. -/
structure RdW (W : World) (v : Value) (ps : List (List ByteArray)) (vs : List Value) : Prop where
  sl : ∃ p cap, v = .slice p ps.length cap ∧ ps.length ≤ cap ∧ cap ≤ maxLen
  n : vs.length = ps.length
  cell : ∀ j (h : j < vs.length), ∃ g o n c, v = .slice (some ⟨g, o, none⟩) n c ∧ g < W.heap.size ∧ W.cell? ⟨g, o + j, none⟩ = some vs[j]
  each : ∀ j (h : j < vs.length) (h' : j < ps.length), Wd W vs[j] ps[j]
theorem PR.rdw {base : Nat} {v : Value} {vs : List Value} {ps : List (List ByteArray)} {w : World} (h : PR base v vs ps w) : RdW w v ps vs := by
  refine ⟨h.row.isslice, h.n, fun j hj => ?_, h.each⟩
  obtain ⟨g, c, rfl, _, _⟩ := h.row.slice (by have := h.n; omega)
  exact ⟨g, 0, _, c, rfl, (h.row.lt g rfl).2, by rw [Nat.zero_add]; exact h.row.cell (List.getElem?_eq_getElem hj)⟩
theorem RdW.later {W W' : World} {v : Value} {ps : List (List ByteArray)} {vs : List Value} (h : RdW W v ps vs) (hb : Below W.heap.size W W') : RdW W' v ps vs :=
  ⟨h.sl, h.n, fun j hj => by
    obtain ⟨g, o, n, c, h1, h2, h3⟩ := h.cell j hj
    exact ⟨g, o, n, c, h1, Nat.lt_of_lt_of_le h2 hb.size, (World.cell?_of_block (w := W) (hb.block g h2)).trans h3⟩, fun j a b => (h.each j a b).later hb⟩
def inP (ps : List (List ByteArray)) (p : List ByteArray) : Bool := ps.any (fun q => decide (cmpP q p = 0))
theorem inP_iff {ps : List (List ByteArray)} {p : List ByteArray} : inP ps p = true ↔ p ∈ ps := by
  unfold inP
  rw [List.any_eq_true]
  constructor
  · rintro ⟨q, hq, h⟩
    rw [decide_eq_true_iff, cmpP_zero] at h
    exact h ▸ hq
  · intro h
    exact ⟨p, h, by rw [decide_eq_true_iff]; exact cmpP_self p⟩
theorem inP_no {ps : List (List ByteArray)} {p : List ByteArray} : inP ps p = false ↔ p ∉ ps := by
  rw [← inP_iff, Bool.not_eq_true]
set_option maxRecDepth 100000 in
set_option maxHeartbeats 2000000 in
theorem in_any {ps : List (List ByteArray)} {vs : List Value} {v u : Value} {p : List ByteArray} {W : World} (h : RdW W v ps vs) (hu : Wd W u p) (hl : ps.length ≤ 1000000) : Calls Try.prog 22 #[v, u] W fun e w' => e = .returned (.bool (inP ps p)) ∧ Below W.heap.size W w' := by
  obtain ⟨q, cap, rfl, hc, hm⟩ := h.sl
  obtain ⟨qu, cu, rfl, _, _⟩ := hu.slice
  obtain ⟨n, hn⟩ : ∃ n, ps.length = n := ⟨_, rfl⟩
  obtain ⟨mu, hmu⟩ : ∃ n, p.length = n := ⟨_, rfl⟩
  unfold maxLen at hm
  rw [hn] at hc h hl ⊢
  rw [hmu] at hu ⊢
  have HR := Lib.hid (And.intro h hu)
  have HN := Lib.hid hn
  obtain ⟨r, hr⟩ : ∃ r, inP ps p = r := ⟨_, rfl⟩
  rw [hr]
  have HD := Lib.hid hr
  clear h hu hn hmu hr
  go_enter Try.func22, Try.ntmps22
  go_wp2_with fail
  go_loopg [5] (n + 1) (fun gh jv w => ∃ (j : Nat), jv = .int .i64 (j : Int) ∧ j ≤ n ∧ n + 1 ≤ j + gh ∧ (∀ i (h : i < ps.length), i < j → p ≠ ps[i]) ∧ Below W.heap.size W w)
  case atStart => exact ⟨0, rfl, Nat.zero_le _, by omega, fun i _ hi => by omega, Below.refl _ _⟩
  case round =>
    obtain ⟨j, rfl, hj, hg, hno, hB⟩ := hrel
    have HI := Lib.hid (And.intro hno hB)
    clear hno
    by_cases hlt : j < n
    · have hjl : j < ps.length := by rw [HN.out]; exact hlt
      have hjv : j < vs.length := by rw [HR.out.1.n]; exact hjl
      obtain ⟨g, o, n', c', e1, hgl, hcell⟩ := (HR.out.1.later hB).cell j hjv
      obtain ⟨rfl, -, -⟩ := Value.slice.inj e1
      have hw := (HR.out.1.later hB).each j hjv hjl
      obtain ⟨x, hx⟩ : ∃ x, vs[j] = x := ⟨_, rfl⟩
      rw [hx] at hcell hw
      obtain ⟨px, cx, rfl, -, -⟩ := hw.slice
      have hcall := reqP_any hw.rd (HR.out.2.later hB).rd
      obtain ⟨z, hz⟩ : ∃ z, decide (cmpP ps[j] p = 0) = z := ⟨_, rfl⟩
      rw [hz] at hcall
      obtain ⟨mx, hmx⟩ : ∃ m, ps[j].length = m := ⟨_, rfl⟩
      rw [hmx] at hcell hcall
      have HZ := Lib.hid (And.intro hz hjl)
      clear e1 hw hx hmx hz hjv hB
      cases z
      · go_wp2_with (go_at_call 35; (with_reducible refine hcall.mono ?_); rintro e w1 ⟨rfl, hb⟩; have HB := Lib.hid (below_on HI.out.2 hb); clear hb hcall)
        go_roundg (n - j)
        case measure => omega
        case rel =>
          refine ⟨j + 1, by go_num, by omega, by omega, fun i hi hij => ?_, HB.out⟩
          by_cases e : i = j
          · subst e
            have := of_decide_eq_false HZ.out.1
            intro e2
            exact this (cmpP_zero.2 e2.symm)
          · exact HI.out.1 i hi (by omega)
      · have hr : r = true := by
          rw [← HD.out, inP_iff]
          have := cmpP_zero.1 (of_decide_eq_true HZ.out.1)
          rw [← this]
          exact List.getElem_mem _
        subst hr
        go_wp2_with (go_at_call 35; (with_reducible refine hcall.mono ?_); rintro e w1 ⟨rfl, hb⟩; have HB := Lib.hid (below_on HI.out.2 hb); clear hb hcall)
        go_ret
        exact ⟨rfl, HB.out⟩
    · obtain rfl : j = n := by omega
      have hr : r = false := by
        rw [← HD.out, inP_no]
        intro hm
        obtain ⟨i, hi, e⟩ := List.getElem_of_mem hm
        exact HI.out.1 i hi (by rw [HN.out] at hi; exact hi) e.symm
      subst hr
      go_wp2_with fail
      go_ret
      exact ⟨rfl, hB⟩

theorem tmod_up (z : Int) : ∃ (x : Int) (k : Nat), Int.tmod z 4 = x ∧ Int.tmod (x + 4) 4 = (k : Int) ∧ k < 4 ∧ 0 ≤ x + 4 ∧ x + 4 < 8 := by
  have h1 := Int.tmod_lt_of_pos z (show (0 : Int) < 4 by decide)
  have h2 : -4 < Int.tmod z 4 := by
    rcases Int.le_total 0 z with hz | hz
    · have := Int.tmod_nonneg 4 hz
      omega
    · obtain ⟨m, rfl⟩ : ∃ m, z = -m := ⟨-z, by omega⟩
      have := Int.tmod_lt_of_pos m (show (0 : Int) < 4 by decide)
      rw [Int.neg_tmod]
      omega
  have h3 := Int.tmod_nonneg 4 (show 0 ≤ Int.tmod z 4 + 4 by omega)
  have h4 := Int.tmod_lt_of_pos (Int.tmod z 4 + 4) (show (0 : Int) < 4 by decide)
  exact ⟨_, (Int.tmod (Int.tmod z 4 + 4) 4).toNat, rfl, by omega, by omega, by omega, by omega⟩
theorem four_names (k : Nat) (hk : k < 4) : ∃ t, ([Value.string sSale, Value.string sShop, Value.string sDay, Value.string sLand] : List Value)[k]'(by simpa using hk) = .string t := by
  match k, hk with
  | 0, _ => exact ⟨_, rfl⟩
  | 1, _ => exact ⟨_, rfl⟩
  | 2, _ => exact ⟨_, rfl⟩
  | 3, _ => exact ⟨_, rfl⟩
  | k + 4, h => omega
set_option maxRecDepth 100000 in
set_option maxHeartbeats 4000000 in
theorem pathStar_walk {vp : Value} {pl : List ByteArray} {W : World} (hp : InS W vp pl) (which : Int) : Calls Try.prog 5 #[vp, .int .i64 which] W fun e w' => e = .returned (.bool true) ∧ Below W.heap.size W w' := by
  have HI := Lib.hid hp
  obtain ⟨pp, cpp, hpp, _, _⟩ := InR.slice hp
  obtain ⟨n1, hn1⟩ : ∃ m, pl.length = m := ⟨_, rfl⟩
  rw [hn1] at hpp
  subst hpp
  obtain ⟨p, hpe⟩ : ∃ x, pathP pl = x := ⟨_, rfl⟩
  have HE := Lib.hid hpe
  clear hp hn1 hpe
  go_enter Try.func5, Try.ntmps5
  go_upto_region 4 with (go_at_call 8; (with_reducible refine (pbegun_any _).mono ?_); rintro e w0 ⟨rfl, hb0⟩; have H0 := Lib.hid hb0; have hc1 := path_is (HI.out.on hb0); rw [HE.out] at hc1; clear hb0)
  go_upto_region 5 with (go_at_call 9; (with_reducible refine hc1.mono ?_); rintro e w1 ⟨p1, m1, c1, rfl, hm1, hW1, hb1⟩; have H1 := Lib.hid (And.intro hm1 (And.intro hW1 (below_on H0.out hb1))); have hstar := star_any w1; clear hc1 hm1 hW1 hb1)
  go_upto_region 6 with (first
    | (go_at_call 21; (with_reducible refine hstar.mono ?_); rintro e w2 ⟨v, rfl, hr, hb⟩; have hboth := both_is hr star_sm (by decide) star_kept; have H2 := Lib.hid hb; clear hr hb hstar)
    | (go_at_call 10; (with_reducible refine hboth.mono ?_); rintro e w3 ⟨S, p3, n3, c3, rfl, hn3, hK⟩; have K3 := Lib.hid (hK.mono H2.out); clear hn3 hK hboth))
  obtain ⟨x, k, a1, a2, a3, a4, a5⟩ := tmod_up which
  go_upto_region 7 with fail
  obtain ⟨t, ht⟩ := four_names k a3
  rw [ht]
  have hbs := below_alloc w3 (.cells #[.string sSale, .string sShop, .string sDay, .string sLand] 9)
  obtain ⟨w4, hw4⟩ : ∃ y, w3.alloc (.cells #[.string sSale, .string sShop, .string sDay, .string sLand] 9) = y := ⟨_, rfl⟩
  rw [hw4] at hbs
  rw [hw4]
  have K4 := Lib.hid (K3.out.on hbs)
  clear hbs hw4 ht a1 a2 a4 a5
  obtain ⟨r, hr⟩ : ∃ r, pcolL starK t p = r := ⟨_, rfl⟩
  obtain ⟨⟨nm, kd, mu, tg⟩, u, er⟩ := r
  have HRR := Lib.hid hr
  have hc5 := pathCol_is K4.out.sch (H1.out.2.1.later K4.out.below) hr
  go_upto_region 8 with (go_at_call 12; (with_reducible refine hc5.mono ?_); rintro e w5 ⟨rfl, hb5⟩)
  have hx5 := heap_alloc_new w5 (.cells #[.string nm, .int .i64 kd, .bool mu, .string tg] 33)
  have hbb := below_on hb5 (below_alloc w5 (.cells #[.string nm, .int .i64 kd, .bool mu, .string tg] 33))
  obtain ⟨B5, hB5⟩ : ∃ x, w5.heap.size = x := ⟨_, rfl⟩
  obtain ⟨w6, hw6⟩ : ∃ x, w5.alloc (.cells #[.string nm, .int .i64 kd, .bool mu, .string tg] 33) = x := ⟨_, rfl⟩
  rw [hB5, hw6] at hx5
  rw [hw6] at hbb
  rw [hB5, hw6]
  have K6 := Lib.hid (And.intro (K4.out.on hbb) hx5)
  clear hc5 hb5 hx5 hbb hB5 hw6
  have hc6 := refCol_is K6.out.1.rd (H1.out.2.1.later K6.out.1.below) hr
  go_upto_region 9 with (go_at_call 13; (with_reducible refine hc6.mono ?_); rintro e w7 ⟨rfl, hb7⟩)
  have hx7 := heap_alloc_new w7 (.cells #[.string nm, .int .i64 kd, .bool mu, .string tg] 33)
  have hbb := below_on hb7 (below_alloc w7 (.cells #[.string nm, .int .i64 kd, .bool mu, .string tg] 33))
  obtain ⟨B7, hB7⟩ : ∃ x, w7.heap.size = x := ⟨_, rfl⟩
  obtain ⟨w8, hw8⟩ : ∃ x, w7.alloc (.cells #[.string nm, .int .i64 kd, .bool mu, .string tg] 33) = x := ⟨_, rfl⟩
  rw [hB7, hw8] at hx7
  rw [hw8] at hbb
  rw [hB7, hw8]
  have H8 := Lib.hid (And.intro (heap_on hbb K6.out.2) hx7)
  have K8 := Lib.hid (K6.out.1.on hbb)
  clear hc6 hb7 hx7 hbb hB7 hw8 hr
  have hall := pall_any (tb := t) star_few star_nice K8.out.sch
  go_upto_region 10 with (first
    | (go_at_call 19; (with_reducible refine hall.mono ?_); rintro e w9 ⟨pa, ma, ca, vs, qs, rfl, hm, hA, hP, hb⟩; have K9 := Lib.hid (K8.out.on hb); have H9 := Lib.hid (And.intro (heap_on hb H8.out.1) (heap_on hb H8.out.2)); have hin := in_any (p := p) hP.rdw (H1.out.2.1.later K9.out.below) (by have h1 := hA.2.length_eq; have h2 := ways_len star_nice 4 t []; have h3 := manyW_le 4 (by omega); omega); have HIN := Lib.hid hA; clear hm hA hP hb hall)
    | (go_at_call 22; (with_reducible refine hin.mono ?_); rintro e w10 ⟨rfl, hb10⟩; have K10 := Lib.hid (K9.out.on hb10); have H10 := Lib.hid (And.intro (heap_on hb10 H9.out.1) (heap_on hb10 H9.out.2)); clear hin hb10))
  obtain ⟨z, hz⟩ : ∃ z, inP qs p = z := ⟨_, rfl⟩
  have hz2 : z = decide (er = 0) := by
    rw [← hz, Bool.eq_iff_iff, inP_iff, HIN.out.mem star_nice, HRR.out, decide_eq_true_iff]
  have hz3 : (z == (er == 0)) = true := by
    rw [hz2, beq_iff_eq, Bool.eq_iff_iff]; simp
  rw [hz]
  clear hz hz2
  have z0 := nd_cell H10.out.1 0
  have zl := lt_of_heap H10.out.1
  have y0 := nd_cell H10.out.2 0
  have yl := lt_of_heap H10.out.2
  go_wp2_with fail
  go_ret
  exact ⟨rfl, below_on H1.out.2.2 K10.out.below⟩
end Go.Proofs.Ytcgceigcegddlaa
