/- DepStar: its walk. -/
import Derived.Test.YtmfkkpogmmoflaaGreatZC
namespace Go.Proofs.YtmfkkpogmmoflaaGreat
open Go Go.RowKit Go.Proofs

theorem inP_cl {ts : List T} {tb : ByteArray} {ps ls : List (List ByteArray)} (h : IsCl ts tb ps ls) {p : List ByteArray} {r : Bool} (hr : inP ls p = r) : r = true ↔ Cl ts tb (· ∈ ps) p := by
  rw [← hr]
  exact inP_iff.trans (h.2 p)
theorem tmod_up (z : Int) : ∃ (x : Int) (k : Nat), Int.tmod z 4 = x ∧ Int.tmod (x + 4) 4 = (k : Int) ∧ k < 4 ∧ 0 ≤ x + 4 ∧ x + 4 < 8 := by
  have h1 := Int.tmod_lt_of_pos z (show (0 : Int) < 4 by decide)
  have h2 : -4 < Int.tmod z 4 := by
    rcases Int.le_total 0 z with hz | hz
    · have := Int.tmod_nonneg 4 hz
      omega
    · obtain ⟨m, rfl⟩ : ∃ m, z = -m := ⟨-z, by omega⟩
      have := Int.tmod_lt_of_pos m (show (0 : Int) < 4 by decide)
      rw [Int.neg_tmod]
      omega
  have h3 := Int.tmod_nonneg 4 (show 0 ≤ Int.tmod z 4 + 4 by omega)
  have h4 := Int.tmod_lt_of_pos (Int.tmod z 4 + 4) (show (0 : Int) < 4 by decide)
  exact ⟨_, (Int.tmod (Int.tmod z 4 + 4) 4).toNat, rfl, by omega, by omega, by omega, by omega⟩
theorem four_names (k : Nat) (hk : k < 4) : ∃ t, ([Value.string sSale, Value.string sShop, Value.string sDay, Value.string sLand] : List Value)[k]'(by simpa using hk) = .string t := by
  match k, hk with
  | 0, _ => exact ⟨_, rfl⟩
  | 1, _ => exact ⟨_, rfl⟩
  | 2, _ => exact ⟨_, rfl⟩
  | 3, _ => exact ⟨_, rfl⟩
  | k + 4, h => omega
/-- What holds behind the reference's answer. -/
structure ZI (S : Nat) (W : World) (ks : List T) (kv : Value) (fv : Value) (fvs : List Value) (fr : List (List ByteArray)) (tv : Value) (tw : List ByteArray) (cb : Nat) (c : Value) (cvs : List Value) (ls : List (List ByteArray)) (w : World) : Prop where
  k : BothI S W ks kv w
  f : RdW w fv fr fvs
  t : Wd w tv tw
  c : PR cb c cvs ls w
theorem ZI.on {S : Nat} {W : World} {ks : List T} {kv : Value} {fv : Value} {fvs : List Value} {fr : List (List ByteArray)} {tv : Value} {tw : List ByteArray} {cb : Nat} {c : Value} {cvs : List Value} {ls : List (List ByteArray)} {w w' : World} (h : ZI S W ks kv fv fvs fr tv tw cb c cvs ls w) (hb : Below w.heap.size w w') : ZI S W ks kv fv fvs fr tv tw cb c cvs ls w' := ⟨h.k.on hb, h.f.later hb, h.t.later hb, h.c.on hb⟩
set_option maxRecDepth 100000 in
set_option maxHeartbeats 8000000 in
theorem depStar_walk {vf vp : Value} {lf : List (List ByteArray)} {pl : List ByteArray} {W : World} (hf : InPs W vf lf) (hp : InS W vp pl) (which : Int) : Calls Tryz.prog 4 #[vf, vp, .int .i64 which] W fun e w' => e = .returned (.bool true) ∧ Below W.heap.size W w' := by
  obtain ⟨pf, cpf, rfl, _, _⟩ := hf.slice
  obtain ⟨pp, cpp, rfl, _, _⟩ := InR.slice hp
  obtain ⟨nf, hnf⟩ : ∃ m, lf.length = m := ⟨_, rfl⟩
  obtain ⟨n0, hn0⟩ : ∃ m, pl.length = m := ⟨_, rfl⟩
  rw [hnf] at hf ⊢
  rw [hn0] at hp ⊢
  have HI := Lib.hid (And.intro hf hp)
  obtain ⟨fr, hfr⟩ : ∃ x, pathsP lf = x := ⟨_, rfl⟩
  obtain ⟨tw, hto⟩ : ∃ x, pathP pl = x := ⟨_, rfl⟩
  have HE := Lib.hid (And.intro hfr hto)
  have HL : Hid (fr.length ≤ 100000) := Lib.hid (by rw [← hfr]; unfold pathsP; rw [List.length_take]; omega)
  clear hf hp hnf hn0 hfr hto
  go_enter Tryz.func4, Tryz.ntmps4
  go_upto_region 4 with (go_at_call 5; (with_reducible refine (dbegun_any _).mono ?_); rintro e w0 ⟨rfl, hb0⟩; have H0 := Lib.hid hb0; have hc1 := paths_any (HI.out.1.on hb0); rw [HE.out.1] at hc1; clear hb0)
  go_upto_region 5 with (first
    | (go_at_call 7; (with_reducible refine hc1.mono ?_); rintro e w1 ⟨p1, n1, c1, vs1, rfl, hn1, hP1, hb1⟩; have H1 := Lib.hid (And.intro hn1 (And.intro hP1 (below_on H0.out hb1))); have hc2 := path_is (HI.out.2.on (below_on H0.out hb1)); rw [HE.out.2] at hc2; clear hc1 hn1 hP1 hb1)
    | (go_at_call 8; (with_reducible refine hc2.mono ?_); rintro e w2 ⟨p2, m2, c2, rfl, hm2, hW2, hb2⟩; have H2 := Lib.hid (And.intro hm2 (And.intro hW2 (And.intro (H1.out.2.1.on hb2) (below_on H1.out.2.2 hb2)))); have hstar := star_any w2; clear hc2 hm2 hW2 hb2))
  go_upto_region 6 with (first
    | (go_at_call 16; (with_reducible refine hstar.mono ?_); rintro e w3 ⟨v3, rfl, hr, hb⟩; have hboth := both_is hr star_sm (by decide) star_kept; have H3 := Lib.hid hb; clear hr hb hstar)
    | (go_at_call 9; (with_reducible refine hboth.mono ?_); rintro e w4 ⟨S, p4, n4, c4, rfl, hn4, hK⟩; have K4 := Lib.hid (hK.mono H3.out); clear hn4 hK hboth))
  obtain ⟨x, k, a1, a2, a3, a4, a5⟩ := tmod_up which
  go_upto_region 7 with fail
  obtain ⟨t, ht⟩ := four_names k a3
  rw [ht]
  have hbs := below_alloc w4 (.cells #[.string sSale, .string sShop, .string sDay, .string sLand] 9)
  obtain ⟨w5, hw5⟩ : ∃ y, w4.alloc (.cells #[.string sSale, .string sShop, .string sDay, .string sLand] 9) = y := ⟨_, rfl⟩
  rw [hw5] at hbs
  rw [hw5]
  have K5 := Lib.hid (K4.out.on hbs)
  clear hbs hw5 ht a1 a2 a4 a5
  have hcl := rclos_any (tb := t) star_fine K5.out.rd (H2.out.2.2.1.on K5.out.below).rdw HL.out
  go_upto_region 8 with (go_at_call 11; (with_reducible refine hcl.mono ?_); rintro e w6 ⟨p6, m6, c6, vs6, ls, rfl, hm6, hl6, hI6, hP6, hb6⟩; have Z6 := Lib.hid (ZI.mk (K5.out.on hb6) ((H2.out.2.2.1.on K5.out.below).on hb6).rdw ((H2.out.2.1.later K5.out.below).later hb6) hP6); have H6 := Lib.hid (And.intro hm6 (And.intro hl6 hI6)); clear hcl hm6 hl6 hI6 hP6 hb6)
  have hk := kclos_any (tb := t) star_few star_fine Z6.out.k.sch Z6.out.f
  obtain ⟨r, hr⟩ : ∃ r, inP ls tw = r := ⟨_, rfl⟩
  have HR := Lib.hid hr
  clear hr
  go_wp2_with (first
    | (go_at_call 13; (with_reducible refine hk.mono ?_); rintro e w7 ⟨p7, m7, c7, vs7, l7, rfl, hm7, hl7, hI7, hP7, hb7⟩; have e7 := hI7.one H6.out.2.2; rw [e7] at hP7; have Z7 := Lib.hid (Z6.out.on hb7); have hs7 := same_any hP7 Z7.out.c (by have := H6.out.2.1; omega); clear hk hm7 hl7 hI7 hP7 hb7 e7)
    | (go_at_call 12; (with_reducible refine hs7.mono ?_); rintro e w8 ⟨rfl, hb8⟩; have Z8 := Lib.hid (Z7.out.on hb8); have hd8 := kdet_any (tb := t) star_few star_fine Z8.out.k.sch Z8.out.f Z8.out.t (inP_cl H6.out.2.2 HR.out); clear hs7 hb8)
    | (go_at_call 14; (with_reducible refine hd8.mono ?_); rintro e w9 ⟨rfl, hb9⟩; have Z9 := Lib.hid (Z8.out.on hb9); have hi9 := in_any Z9.out.c.rdw Z9.out.t (by have := H6.out.2.1; omega); rw [HR.out] at hi9; clear hd8 hb9)
    | (go_at_call 15; (with_reducible refine hi9.mono ?_); rintro e w10 ⟨rfl, hb10⟩; have Z10 := Lib.hid (Z9.out.on hb10); clear hi9 hb10))
  go_ret
  exact ⟨by simp, below_on H2.out.2.2.2 Z10.out.k.below⟩
end Go.Proofs.YtmfkkpogmmoflaaGreat
