/- given. -/
import Derived.Test.YtmfkkpogmmoflaaGreatZA
import Derived.Test.YtmfkkpogmmoflaaGreatVB
import Derived.Test.YtmfkkpogmmoflaaGreatVG
import Derived.Test.YtmfkkpogmmoflaaGreatQF
namespace Go.Proofs.YtmfkkpogmmoflaaGreat
open Go Go.RowKit Go.Proofs

theorem form_mu {ts : List T} (hN : Fine ts) {t : T} (ht : t ∈ ts) {j : Nat} (hj : j < t.cols.length) (h' : j < (formT t).cols.length) : (formT t).cols[j].mu = t.cols[j].mu := by
  have e : (formT t).cols[j] = formC t.key t.cols[j] := by
    show (t.cols.map (formC t.key))[j]'(by simpa using hj) = _
    rw [List.getElem_map]
  rw [e]
  show (t.cols[j].mu || eqS t.cols[j].nm t.key) = t.cols[j].mu
  cases h : eqS t.cols[j].nm t.key with
  | false => rw [Bool.or_false]
  | true => rw [hN.must t ht _ (List.getElem_mem hj) h]; rfl
def formV (nm key : ByteArray) (nc : Nat) (dv : Value) (l : List C) : Par.VW := ⟨fun v w => ∃ p1 c1, v = .agg #[.string nm, .slice p1 nc c1, .string key, dv] ∧ RdC w (.slice p1 nc c1) l, fun _ _ _ ⟨p1, c1, h1, h2⟩ hb => ⟨p1, c1, h1, h2.later hb⟩⟩
def colsV (nc : Nat) (l : List C) : Par.VW := ⟨fun v w => ∃ p1 c1, v = .slice p1 nc c1 ∧ RdC w (.slice p1 nc c1) l, fun _ _ _ ⟨p1, c1, h1, h2⟩ hb => ⟨p1, c1, h1, h2.later hb⟩⟩
def ptrV (j : Nat) (mu : Bool) : Par.VW := ⟨fun v w => ∃ b o, v = .pointer (some ⟨b, o + j * 4, none⟩) ∧ w.cell? ⟨b, o + j * 4 + 2, none⟩ = some (.bool mu), fun _ _ _ ⟨b, o, h1, h2⟩ hb => ⟨b, o, h1, bel_cell hb h2⟩⟩
def muV (mu : Bool) : Par.VW := ⟨fun v w => ∃ b o, v = .pointer (some ⟨b, o, none⟩) ∧ w.cell? ⟨b, o, none⟩ = some (.bool mu), fun _ _ _ ⟨b, o, h1, h2⟩ hb => ⟨b, o, h1, bel_cell hb h2⟩⟩
/-- A dep's answer as far as it is looked at. -/
def accB (t : T) (has : List (List ByteArray)) (a : List ByteArray) (y : ByteArray) (left : List ByteArray) (right : ByteArray) (m : Nat) : Bool := eqS right y && (left.take m).all fun l => mustC t l && inP has (a ++ [l])
theorem accB_succ {t : T} {has : List (List ByteArray)} {a : List ByteArray} {y right : ByteArray} {left : List ByteArray} {m : Nat} (h : m < left.length) : accB t has a y left right (m + 1) = (accB t has a y left right m && (mustC t left[m] && inP has (a ++ [left[m]]))) := by
  unfold accB
  rw [List.take_succ_eq_append_getElem h, List.all_append, Bool.and_assoc]
  simp
theorem accB_all {t : T} {has : List (List ByteArray)} {a : List ByteArray} {y : ByteArray} {d : D} {m : Nat} (h : d.left.length ≤ m) : accB t has a y d.left d.right m = depG t has a y d := by
  unfold accB depG
  rw [List.take_of_length_le h]
theorem accB_no {t : T} {has : List (List ByteArray)} {a : List ByteArray} {y : ByteArray} {d : D} {m : Nat} (h : accB t has a y d.left d.right m = false) : depG t has a y d = false := by
  unfold accB at h
  unfold depG
  cases he : eqS d.right y with
  | false => rfl
  | true =>
    rw [he, Bool.true_and] at h
    rw [Bool.true_and]
    rw [List.all_eq_false] at h ⊢
    obtain ⟨l, hl, h2⟩ := h
    exact ⟨l, List.mem_of_mem_take hl, h2⟩
set_option maxRecDepth 100000 in
set_option maxHeartbeats 8000000 in
theorem given_any {ks : List T} {has : List (List ByteArray)} {hvs : List Value} {a : List ByteArray} {y tb : ByteArray} {sv hv pv : Value} {W : World} (hN : Fine ks) (hr : RdTs W sv ks) (hh : RdW W hv has hvs) (hhl : has.length ≤ 100000) (hp : Wd W pv (a ++ [y])) (hok : Ok ks tb (a ++ [y])) : Calls Tryz.prog 28 #[sv, .string tb, hv, pv] W fun e w' => e = .returned (.bool (givenA ks tb has a y)) ∧ Below W.heap.size W w' := by
  obtain ⟨hal, u, hu, hyc⟩ := ok_snoc.1 hok
  obtain ⟨t, ht, htc⟩ := tab_of hyc
  obtain ⟨htm, _, _⟩ := hN.find ht
  have htu := tabU_is hu (by omega)
  have hL := okL hal hu hyc
  have htg : ∀ c, orC (colOf (colsAt ks u) y) = c → c.tgt = e0 ∨ ∃ t2, findT ks c.tgt = some t2 := fun c hc => by
    obtain ⟨c', hcm, _, hce⟩ := col_has hyc
    rw [hce] at hc
    subst hc
    exact (hN.nice.cols u).2.2 c' hcm
  obtain ⟨cc, hcc⟩ : ∃ c, orC (colOf (colsAt ks u) y) = c := ⟨_, rfl⟩
  have htg := htg cc hcc
  rw [hcc] at hL
  obtain ⟨cn, ckd, cmu, tg⟩ := cc
  simp only [] at htg
  obtain ⟨k, hk⟩ : ∃ k, a.length = k := ⟨_, rfl⟩
  obtain ⟨pp, cp, rfl, hc, hm⟩ := hp.slice
  obtain ⟨ph, ch, rfl, hhc, hhm⟩ := hh.sl
  obtain ⟨ps, cs, rfl, hsc, hsm⟩ := hr.slice
  have hpl : (a ++ [y]).length = k + 1 := by rw [List.length_append, hk]; rfl
  obtain ⟨pb, po, hpb⟩ : ∃ b off, pp = some ⟨b, off, none⟩ := by
    obtain ⟨b, off, e, _⟩ := hp.word (i := 0) (by omega)
    exact ⟨b, off, e⟩
  subst hpb
  rw [hpl] at hp hc ⊢
  obtain ⟨nh, hnh⟩ : ∃ x, has.length = x := ⟨_, rfl⟩
  obtain ⟨ns, hns⟩ : ∃ x, ks.length = x := ⟨_, rfl⟩
  rw [hnh] at hh hhc ⊢
  rw [hns] at hr hsc ⊢
  have hwa : Wd W (.slice (some ⟨pb, po, none⟩) k cp) a := by
    have h1 := Wd.take (k := k) hp (Nat.le_succ k)
    rw [List.take_append_of_le_length (by omega), List.take_of_length_le (by omega)] at h1
    exact h1
  have hina := in_any hh hwa (by omega)
  have hpy : W.cell? ⟨pb, po + k, none⟩ = some (.string y) := by
    obtain ⟨b, off, e, _, h2⟩ := hp.word (i := k) (by omega)
    cases e
    have e2 : (a ++ [y])[k]'(by omega) = y := by subst hk; simp
    rw [e2] at h2
    exact h2
  obtain ⟨b1, hb1⟩ : ∃ x, g1 has a = x := ⟨_, rfl⟩
  obtain ⟨b2, hb2⟩ : ∃ x, g2 ks tb has (a ++ [y]) = x := ⟨_, rfl⟩
  obtain ⟨b3, hb3⟩ : ∃ x, g3 t has a = x := ⟨_, rfl⟩
  obtain ⟨b4, hb4⟩ : ∃ x, g4 t has a y = x := ⟨_, rfl⟩
  have hgiv : givenA ks tb has a y = (b1 || (b2 || (b3 || b4))) := by
    unfold givenA
    rw [htu, ht, hb1, hb2]
    show (_ || (_ || (g3 t has a || g4 t has a y))) = _
    rw [hb3, hb4]
  rw [hgiv]
  have H0 := Lib.hid (And.intro hr (And.intro hh (And.intro hp (And.intro hwa hpy))))
  have HN := Lib.hid (And.intro hN (And.intro ht (And.intro htm (And.intro htc (And.intro hu (And.intro hyc (And.intro hL (And.intro hk (And.intro hhl hnh)))))))))
  have HBB := Lib.hid (And.intro hb1 (And.intro hb2 (And.intro hb3 hb4)))
  have HX := Lib.hid (And.intro hns (And.intro htu (And.intro hal htg)))
  unfold maxLen at hm hhm hsm
  clear hr hh hp hwa hpy hN ht htm htc hu hyc hL hk hhl hnh hb1 hb2 hb3 hb4 hns htu hal hgiv hpl hok hcc htg
  go_enter Tryz.func28, Tryz.ntmps28
  go_upto_region 2 with fail
  go_cut [34] from 300 to 300 (fun v wx => v = .bool b1 ∧ Below W.heap.size W wx)
  case first =>
    by_cases h0 : k = 0
    · have hd1 : decide ((0 : Int) < (k : Int)) = false := decide_eq_false (by omega)
      have hd2 : decide (0 < k) = false := decide_eq_false (by omega)
      have HK0 := Lib.hid h0
      clear h0 hina
      go_wp2_with fail
      go_meet
      refine ⟨?_, Below.refl _ _⟩
      rw [← HBB.out.1]
      unfold g1
      rw [HN.out.2.2.2.2.2.2.2.1, HK0.out]; rfl
    · have hd1 : decide ((0 : Int) < (k : Int)) = true := decide_eq_true (by omega)
      have hd2 : decide (0 < k) = true := decide_eq_true (by omega)
      have hbv : inP has a = b1 := by
        rw [← HBB.out.1]
        unfold g1
        rw [HN.out.2.2.2.2.2.2.2.1, hd2, Bool.true_and]
      rw [hbv] at hina
      go_wp2_with (go_at_call 15; (with_reducible refine hina.mono ?_); rintro e w1 ⟨rfl, hb⟩; have HB := Lib.hid hb; clear hb hina)
      go_meet
      exact ⟨rfl, HB.out⟩
  case rest =>
    obtain ⟨rfl, hB1⟩ := hcut
    obtain ⟨w1, rfl⟩ : ∃ x, x = wc := ⟨_, rfl⟩
    cases b1
    case true =>
      go_wp2_with fail
      go_ret
      exact ⟨rfl, hB1⟩
    case false =>
      have hcol := refCol_of (H0.out.1.later hB1) (H0.out.2.2.1.later hB1) HN.out.2.2.2.2.2.2.1
      have H1 := Lib.hid hB1
      clear hB1 hina
      go_upto_region 5 with (go_at_call 25; (with_reducible refine hcol.mono ?_); rintro e w2 ⟨rfl, hb2⟩)
      have hx := heap_alloc_new w2 (.cells #[.string cn, .int .i64 ckd, .bool cmu, .string tg] 54)
      have hbb := below_on (below_on H1.out hb2) (below_alloc w2 (.cells #[.string cn, .int .i64 ckd, .bool cmu, .string tg] 54))
      obtain ⟨C1, hC1⟩ : ∃ b, w2.heap.size = b := ⟨_, rfl⟩
      obtain ⟨w3, hw3⟩ : ∃ y, w2.alloc (.cells #[.string cn, .int .i64 ckd, .bool cmu, .string tg] 54) = y := ⟨_, rfl⟩
      rw [hC1, hw3] at hx
      rw [hw3] at hbb
      rw [hC1, hw3]
      have H3 := Lib.hid (And.intro hx hbb)
      clear hcol hb2 hx hbb hC1 hw3
      go_cut [59] from 300 to 300 (fun v wx => v = .bool b2 ∧ Below W.heap.size W wx)
      case first =>
        have x3 := nd_cell H3.out.1 3
        have xl := lt_of_heap H3.out.1
        have hg2 := HBB.out.2.1
        unfold g2 at hg2
        rw [HN.out.2.2.2.2.2.2.1] at hg2
        simp only [] at hg2
        cases he : eqS tg e0 with
        | true =>
          have hx2 : tg.toList.isEmpty = true := by rw [eqS_e0]; exact he
          rw [he] at hg2
          have HG := Lib.hid hg2
          clear he hg2
          go_wp2_with fail
          go_meet
          exact ⟨by rw [← HG.out]; rfl, H3.out.2⟩
        | false =>
          have hx2 : tg.toList.isEmpty = false := by rw [eqS_e0]; exact he
          obtain ⟨t2, ht2⟩ : ∃ t2, findT ks tg = some t2 := by
            rcases HX.out.2.2.2 with h | h
            · rw [h] at he; cases he
            · exact h
          rw [he, ht2] at hg2
          have hg2' : inP has ((a ++ [y]) ++ [t2.key]) = b2 := by rw [← hg2]; rfl
          rcases ixT_cases ks tg with ⟨_, _, h3⟩ | ⟨m, hml, h1, _, h3⟩
          · rw [ht2] at h3; cases h3
          · have hfind := rfind_any (x := tg) (H0.out.1.later H3.out.2)
            rw [h1] at hfind
            obtain ⟨bt, ot, cv, dv, rfl, _, g0, g1', g2', g3', hT⟩ := RdTs.tab (H0.out.1.later H3.out.2) (HX.out.1 ▸ hml : m < ks.length)
            have hke : ks[m].key = t2.key := by rw [ht2] at h3; rw [Option.some.inj h3]
            rw [hke] at g2'
            obtain ⟨key2, hkey2⟩ : ∃ x, t2.key = x := ⟨_, rfl⟩
            rw [hkey2] at g2' hg2'
            obtain ⟨l3, hl3⟩ : ∃ x, (a ++ [y]) ++ [key2] = x := ⟨_, rfl⟩
            obtain ⟨m3, hm3⟩ : ∃ x, l3.length = x := ⟨_, rfl⟩
            rw [hl3] at hg2'
            have hjoin := join_is (x := key2) (H0.out.2.2.1.later H3.out.2) (by rw [List.length_append, HN.out.2.2.2.2.2.2.2.1]; have := HX.out.2.2.1; have := HN.out.2.2.2.2.2.2.2.1; simp only [List.length_singleton]; omega) hl3 hm3
            have hmN : m < ns := by rw [← HX.out.1]; exact hml
            have hmN2 : (m : Int) < (ns : Int) := by omega
            have HG := Lib.hid hg2'
            clear g0 g1' g3' hT hke h1 h3 he hg2 hg2' ht2 hkey2 hl3 hm3 hml
            go_wp2_with (first
              | (go_at_call 24; (with_reducible refine hfind.mono ?_); rintro e w4 ⟨rfl, hw⟩; have hw := hw.symm; subst hw)
              | (go_at_call 26; (with_reducible refine hjoin.mono ?_); rintro e w5 ⟨p5, c5, rfl, h5, hb5⟩; have HB5 := Lib.hid (below_on H3.out.2 hb5); have hin := in_any (H0.out.2.1.later HB5.out) h5 (Nat.le_trans HN.out.2.2.2.2.2.2.2.2.1 (by decide)); rw [HG.out] at hin; clear h5 hb5 hjoin)
              | (go_at_call 15; (with_reducible refine hin.mono ?_); rintro e w6 ⟨rfl, hb6⟩; have HB6 := Lib.hid (below_on HB5.out hb6); clear hin hb6))
            go_meet
            exact ⟨rfl, HB6.out⟩
      case rest =>
        obtain ⟨rfl, hB4⟩ := hcut
        obtain ⟨w4, rfl⟩ : ∃ x, x = wc := ⟨_, rfl⟩
        cases b2
        case true =>
          go_wp2_with fail
          go_ret
          exact ⟨rfl, hB4⟩
        case false =>
          have H4 := Lib.hid hB4
          clear hB4
          obtain ⟨zk, hzk⟩ : ∃ z, decide (0 < k) = z := ⟨_, rfl⟩
          have hzk2 : decide ((0 : Int) < (k : Int)) = zk := by rw [← hzk]; exact decide_eq_decide.2 (by omega)
          have HZK := Lib.hid hzk
          go_upto_if 63 with fail
          clear hzk hzk2
          go_cut [13] from 300 to 300 (fun v wx => v = .string u ∧ Below W.heap.size W wx)
          case first =>
            have htu := HX.out.2.1
            unfold tabU at htu
            rw [HN.out.2.2.2.2.2.2.2.1] at htu
            cases zk
            · rw [if_neg (of_decide_eq_false HZK.out)] at htu
              have HT := Lib.hid htu
              clear htu
              go_wp2_with fail
              go_meet
              exact ⟨by rw [HT.out], H4.out⟩
            · rw [if_pos (of_decide_eq_true HZK.out)] at htu
              obtain ⟨r2, hr2⟩ : ∃ r, pcolL ks tb a = r := ⟨_, rfl⟩
              obtain ⟨⟨n2, k2, m2, t2⟩, x2, e2⟩ := r2
              rw [hr2] at htu
              have HT := Lib.hid (show t2 = u from htu)
              have hcol := refCol_of (H0.out.1.later H4.out) (H0.out.2.2.2.1.later H4.out) hr2
              clear htu hr2
              go_upto_region 10 with (go_at_call 25; (with_reducible refine hcol.mono ?_); rintro e w5 ⟨rfl, hb5⟩)
              have hx := heap_alloc_new w5 (.cells #[.string n2, .int .i64 k2, .bool m2, .string t2] 54)
              have hbb := below_on (below_on H4.out hb5) (below_alloc w5 (.cells #[.string n2, .int .i64 k2, .bool m2, .string t2] 54))
              obtain ⟨C2, hC2⟩ : ∃ b, w5.heap.size = b := ⟨_, rfl⟩
              obtain ⟨w6, hw6⟩ : ∃ y, w5.alloc (.cells #[.string n2, .int .i64 k2, .bool m2, .string t2] 54) = y := ⟨_, rfl⟩
              rw [hC2, hw6] at hx
              rw [hw6] at hbb
              rw [hC2, hw6]
              have x3 := nd_cell hx 3
              have xl := lt_of_heap hx
              have HB6 := Lib.hid hbb
              clear hcol hb5 hx hbb hC2 hw6
              go_wp2_with fail
              go_meet
              exact ⟨by rw [HT.out], HB6.out⟩
          case rest =>
            obtain ⟨rfl, hB5⟩ := hcut
            obtain ⟨w5, rfl⟩ : ∃ x, x = wc := ⟨_, rfl⟩
            rcases ixT_cases ks u with ⟨_, _, h3⟩ | ⟨m, hml, h1, _, h3⟩
            · rw [HN.out.2.1] at h3; cases h3
            · have hfind := rfind_any (x := u) (H0.out.1.later hB5)
              rw [h1] at hfind
              obtain ⟨bt, ot, cv, dv, rfl, _, g0, g1', g2', g3', hT⟩ := RdTs.tab (H0.out.1.later hB5) (HX.out.1 ▸ hml : m < ks.length)
              have hte : ks[m] = t := by rw [HN.out.2.1] at h3; exact (Option.some.inj h3).symm
              rw [hte] at g0 g2' hT
              obtain ⟨pc, kc, hcv, hcc, hcm⟩ := hT.1.slice
              obtain ⟨pd, kd, hdv, hdc, hdm⟩ := hT.2.slice
              obtain ⟨nc, hnc⟩ : ∃ m, t.cols.length = m := ⟨_, rfl⟩
              obtain ⟨nd, hnd⟩ : ∃ m, t.deps.length = m := ⟨_, rfl⟩
              rw [hnc] at hcv hcc
              rw [hnd] at hdv hdc
              subst hcv hdv
              obtain ⟨nm, hnm⟩ : ∃ m, t.nm = m := ⟨_, rfl⟩
              obtain ⟨key, hkey⟩ : ∃ m, t.key = m := ⟨_, rfl⟩
              rw [hnm] at g0
              rw [hkey] at g2'
              have hmN : m < ns := by rw [← HX.out.1]; exact hml
              have hmN2 : (m : Int) < (ns : Int) := by omega
              have hnd2 : nd ≤ 9223372036854775807 := by unfold maxLen at hdm; omega
              have hx := heap_alloc_new w5 (boxT nm (.slice pc nc kc) key (.slice pd nd kd))
              have hb6 := below_alloc w5 (boxT nm (.slice pc nc kc) key (.slice pd nd kd))
              obtain ⟨TB, hTB⟩ : ∃ b, w5.heap.size = b := ⟨_, rfl⟩
              obtain ⟨w6, hw6⟩ : ∃ y, w5.alloc (boxT nm (.slice pc nc kc) key (.slice pd nd kd)) = y := ⟨_, rfl⟩
              have HW6 := Lib.hid (And.intro hw6 hTB)
              rw [hTB, hw6] at hx
              rw [hw6] at hb6
              have H6 := Lib.hid (And.intro hx (And.intro (below_on hB5 hb6) (hT.later hb6)))
              have HT := Lib.hid (And.intro hnm (And.intro hkey (And.intro hnc hnd)))
              clear hB5 hT hte h1 h3 hml hx hb6 hw6 hTB hnm hkey hnc hnd hdc hdm hcc hcm
              go_upto_region 12 with (go_at_call 24; (with_reducible refine hfind.mono ?_); rintro e w7 ⟨rfl, hw⟩; have hw := hw.symm; subst hw)
              rw [HW6.out.1, HW6.out.2]
              clear g0 g1' g2' g3' hfind hmN hmN2
              go_cut [94] from 300 to 300 (fun v wx => v = .bool b3 ∧ Below w6.heap.size w6 wx)
              case first =>
                have hg3 := HBB.out.2.2.1
                unfold g3 at hg3
                rw [HN.out.2.2.2.2.2.2.2.1, HT.out.2.1] at hg3
                have x2 := nd_cell H6.out.1 2
                have xl := lt_of_heap H6.out.1
                by_cases h0 : k = 0
                · have hd1 : ((k : Int) == 0) = true := by rw [beq_iff_eq]; omega
                  rw [show decide (k = 0) = true from decide_eq_true h0] at hg3
                  have HK0 := Lib.hid h0
                  cases he : eqS key e0 with
                  | true =>
                    have hx2 : key.toList.isEmpty = true := by rw [eqS_e0]; exact he
                    rw [he] at hg3
                    have HG := Lib.hid hg3
                    subst h0
                    clear he hg3
                    go_wp2_with fail
                    go_meet
                    exact ⟨by rw [← HG.out]; rfl, Below.refl _ _⟩
                  | false =>
                    have hx2 : key.toList.isEmpty = false := by rw [eqS_e0]; exact he
                    rw [he] at hg3
                    have hg3' : inP has [key] = b3 := by rw [← hg3]; rfl
                    have q1 := below_alloc w6 (.cells #[.string key] 9)
                    have hin := in_any (H0.out.2.1.later (below_on H6.out.2.1 q1)) (Wd.lit (heap_alloc_new w6 (.cells #[.string key] 9))) (Nat.le_trans HN.out.2.2.2.2.2.2.2.2.1 (by decide))
                    rw [hg3'] at hin
                    have HQ1 := Lib.hid q1
                    subst h0
                    clear he hg3 hg3' q1
                    go_wp2_with (go_at_call 15; (with_reducible refine hin.mono ?_); rintro e w7 ⟨rfl, hb7⟩; have HB7 := Lib.hid (below_on HQ1.out hb7); clear hin hb7)
                    go_meet
                    exact ⟨rfl, HB7.out⟩
                · have hd1 : ((k : Int) == 0) = false := by rw [beq_eq_false_iff_ne]; omega
                  have hd2 : ¬ (k : Int) = 0 := by omega
                  rw [show decide (k = 0) = false from decide_eq_false h0] at hg3
                  have HG := Lib.hid hg3
                  clear hg3
                  go_wp2_with fail
                  go_meet
                  exact ⟨by rw [← HG.out]; rfl, Below.refl _ _⟩
              case rest =>
                obtain ⟨rfl, hB7⟩ := hcut
                obtain ⟨w7, rfl⟩ : ∃ x, x = wc := ⟨_, rfl⟩
                cases b3
                case true =>
                  go_wp2_with fail
                  go_ret
                  exact ⟨rfl, below_on H6.out.2.1 hB7⟩
                case false =>
                  have H7 := Lib.hid (And.intro (heap_on hB7 H6.out.1) (And.intro (below_on H6.out.2.1 hB7) (H6.out.2.2.later hB7)))
                  clear hB7
                  go_wp2_with fail
                  go_loopg [18] (nd + 1) (fun gh iv w => ∃ (i : Nat), iv = .int .i64 (i : Int) ∧ i ≤ nd ∧ nd + 1 ≤ i + gh ∧ (∀ j (h : j < t.deps.length), j < i → depG t has a y t.deps[j] = false) ∧ Below w7.heap.size w7 w)
                  case atStart => exact ⟨0, rfl, Nat.zero_le _, by omega, fun j _ h => absurd h (Nat.not_lt_zero _), Below.refl _ _⟩
                  case round =>
                    obtain ⟨i, rfl, hi, hg, hno, hB⟩ := hrel
                    obtain ⟨w8, rfl⟩ : ∃ x, x = wr := ⟨_, rfl⟩
                    have H8 := Lib.hid (And.intro (heap_on hB H7.out.1) (And.intro hB (And.intro (H7.out.2.2.later hB) hno)))
                    clear hB hno
                    have x3 := nd_cell H8.out.1 3
                    have xl := lt_of_heap H8.out.1
                    by_cases hlt : i < nd
                    · have hil : i < t.deps.length := by rw [HT.out.2.2.2]; exact hlt
                      obtain ⟨bd, od, lv, rfl, hbd, d0, d1, hlv⟩ := RdD.dep H8.out.2.2.1.2 hil
                      obtain ⟨d, hd⟩ : ∃ d, t.deps[i] = d := ⟨_, rfl⟩
                      have hdm : d ∈ t.deps := hd ▸ List.getElem_mem hil
                      rw [hd] at d1 hlv
                      obtain ⟨left, right⟩ := d
                      simp only [] at d1 hlv
                      obtain ⟨pl, cl, rfl, hlc, hlm⟩ := hlv.slice
                      obtain ⟨nl, hnl⟩ : ∃ x, left.length = x := ⟨_, rfl⟩
                      rw [hnl] at d0 hlv hlc
                      unfold maxLen at hlm
                      obtain ⟨q, hq⟩ : ∃ q, eqS right y = q := ⟨_, rfl⟩
                      have hq2 : (right.toList == y.toList) = q := by rw [eqS_toList]; exact hq
                      have HQ : Hid (∀ w, Below w8.heap.size w8 w → w.cell? ⟨bd, od + i * 2, none⟩ = some (.slice pl nl cl) ∧ w.cell? ⟨bd, od + i * 2 + 1, none⟩ = some (.string right) ∧ w.cell? ⟨pb, po + k, none⟩ = some (.string y)) := Lib.hid (fun w hb => ⟨bel_cell hb d0, bel_cell hb d1, bel_cell (below_on (below_on H7.out.2.1 H8.out.2.1) hb) H0.out.2.2.2.2⟩)
                      have HD := Lib.hid (And.intro hd (And.intro hdm (And.intro hlv (And.intro hnl hq))))
                      have hji : (i : Int) < (nd : Int) := by omega
                      clear d0 d1 hbd hd hdm hlv hnl hq
                      go_upto_region 17 with fail
                      have hwk : IntKind.i64.wrap (k : Int) = (k : Int) := by rw [IntKind.wrap_i64]; omega
                      have hkk : (k : Int) < (k : Int) + 1 := by omega
                      clear x3 xl
                      refine Par.wp_region_par 14 [(Value.pointer (some ⟨TB, 3, none⟩)), .slice (some ⟨bd, od, none⟩) nd kd, .int .i64 i, (Value.pointer (some ⟨bd, od + i * 2, none⟩)), (Value.pointer (some ⟨bd, od + i * 2 + 1, none⟩)), .string right, .slice (some ⟨pb, po, none⟩) (k + 1) cp, .slice (some ⟨pb, po, none⟩) (k + 1) cp, .int .i64 (k + 1), .int .i64 k, (Value.pointer (some ⟨pb, po + k, none⟩)), .string y, .bool q, .bool q] (fun w => Below w8.heap.size w8 w) ?A1 ?hm1 ?hB1 ?hA1 ((below_drew w8)) ?hop1 ?hT1
                      case hm1 => kernel_rfl
                      case hB1 => kernel_rfl
                      case hA1 =>
                        simp only [Par.putA, Par.dstAt, Act.put, List.getElem?_toArray, List.getElem?_cons_zero, List.getElem?_cons_succ, Option.bind_some, List.setIfInBounds_toArray, List.set_cons_zero, List.set_cons_succ, List.getD_cons_zero, List.getD_cons_succ]
                        rfl
                      case hop1 =>
                        simp only [List.take_succ_cons, List.take_zero, Par.GiveAll, and_true]
                        refine ⟨fun w' hR => ?_, fun w' hR => ?_, fun w' hR => ?_, fun w' hR => ?_, fun w' hR => ?_, fun w' hR => ?_, fun w' hR => ?_, fun w' hR => ?_, fun w' hR => ?_, fun w' hR => ?_, fun w' hR => ?_, fun w' hR => ?_, fun w' hR => ?_, fun w' hR => ?_⟩
                        · have HR := Lib.hid hR
                          clear hR
                          simp only [Par.Gives]
                          go_simp
                          all_goals exact HR.out
                        · have HR := Lib.hid hR
                          have k0 := nd_cell (heap_on hR H8.out.1) 3
                          clear hR
                          simp only [Par.Gives]
                          go_simp
                          all_goals exact HR.out
                        · have HR := Lib.hid hR
                          clear hR
                          simp only [Par.Gives]
                          go_simp
                          all_goals exact HR.out
                        · have HR := Lib.hid hR
                          clear hR
                          simp only [Par.Gives]
                          go_simp
                          all_goals exact HR.out
                        · have HR := Lib.hid hR
                          clear hR
                          simp only [Par.Gives]
                          go_simp
                          all_goals exact HR.out
                        · have HR := Lib.hid hR
                          have k0 := (HQ.out w' hR).2.1
                          clear hR
                          simp only [Par.Gives]
                          go_simp
                          all_goals exact HR.out
                        · have HR := Lib.hid hR
                          clear hR
                          simp only [Par.Gives]
                          go_simp
                          all_goals exact HR.out
                        · have HR := Lib.hid hR
                          clear hR
                          simp only [Par.Gives]
                          go_simp
                          all_goals exact HR.out
                        · have HR := Lib.hid hR
                          clear hR
                          simp only [Par.Gives]
                          go_simp
                          all_goals exact HR.out
                        · have HR := Lib.hid hR
                          clear hR
                          simp only [Par.Gives]
                          go_simp
                          all_goals exact HR.out
                        · have HR := Lib.hid hR
                          clear hR
                          simp only [Par.Gives]
                          go_simp
                          all_goals exact HR.out
                        · have HR := Lib.hid hR
                          have k0 := (HQ.out w' hR).2.2
                          clear hR
                          simp only [Par.Gives]
                          go_simp
                          all_goals exact HR.out
                        · have HR := Lib.hid hR
                          clear hR
                          simp only [Par.Gives]
                          go_simp
                          all_goals exact HR.out
                        · have HR := Lib.hid hR
                          clear hR
                          simp only [Par.Gives]
                          go_simp
                          all_goals exact HR.out
                      case hT1 =>
                        intro w' hR
                        simp only [List.drop_succ_cons, List.drop_nil]
                        obtain ⟨w9, rfl⟩ : ∃ x, x = w' := ⟨_, rfl⟩
                        have H9 := Lib.hid (And.intro (heap_on hR H8.out.1) (And.intro hR (H8.out.2.2.1.later hR)))
                        clear hR hq2 hwk hkk
                        go_upto_block 2 with fail
                        go_cut [19] from 300 to 300 (fun v wx => v = .bool (depG t has a y ⟨left, right⟩) ∧ Below w9.heap.size w9 wx)
                        case first =>
                          go_wp2_with fail
                          go_loopg [19, 20] (nl + 1) (fun gh av mv w => ∃ (m : Nat), mv = .int .i64 (m : Int) ∧ m ≤ nl ∧ nl + 1 ≤ m + gh ∧ av = .bool (accB t has a y left right m) ∧ Below w9.heap.size w9 w)
                          case atStart =>
                            refine ⟨0, rfl, Nat.zero_le _, by omega, ?_, Below.refl _ _⟩
                            rw [← HD.out.2.2.2.2]
                            unfold accB
                            rw [List.take_zero, List.all_nil, Bool.and_true]
                          case round =>
                            obtain ⟨m, rfl, hm', hg', rfl, hB⟩ := hrel
                            obtain ⟨w10, rfl⟩ : ∃ x, x = wr := ⟨_, rfl⟩
                            have HB := Lib.hid (And.intro (heap_on hB H9.out.1) (And.intro hB ((below_on H9.out.2.1 hB))))
                            have x3 := nd_cell HB.out.1 3
                            have xl := lt_of_heap HB.out.1
                            have dc := (HQ.out w10 HB.out.2.2).1
                            obtain ⟨acc, hacc⟩ : ∃ b, accB t has a y left right m = b := ⟨_, rfl⟩
                            rw [hacc]
                            have HA := Lib.hid hacc
                            clear hB hacc
                            by_cases hml : m < nl
                            · cases acc
                              · go_wp2_with fail
                                go_meet
                                exact ⟨by rw [accB_no (d := ⟨left, right⟩) HA.out], HB.out.2.1⟩
                              · have hmL : m < left.length := by rw [HD.out.2.2.2.1]; exact hml
                                have hbw : Below w8.heap.size w8 w10 := HB.out.2.2
                                obtain ⟨bl, ol, rfl, hbl, hcw⟩ := RdS.word (RdS.later HD.out.2.2.1 hbw) hmL
                                have hsucc := accB_succ (t := t) (has := has) (a := a) (y := y) (right := right) hmL
                                have hlm2 : left[m] ∈ left := List.getElem_mem hmL
                                obtain ⟨l, hl⟩ : ∃ x, left[m] = x := ⟨_, rfl⟩
                                rw [hl] at hcw hsucc hlm2
                                have hhas := ((HN.out.1.deps t HN.out.2.2.1 _ HD.out.2.1).2.2.1) l hlm2
                                rcases ixC_cases t.cols l with ⟨_, h6, _⟩ | ⟨j, hjl, h5, _, h7⟩
                                · rw [hhas] at h6; cases h6
                                · obtain ⟨mu, hmu⟩ : ∃ x, t.cols[j].mu = x := ⟨_, rfl⟩
                                  have hmust : mustC t l = mu := by unfold mustC; rw [h7]; exact hmu
                                  obtain ⟨l2, hl2⟩ : ∃ x, a ++ [l] = x := ⟨_, rfl⟩
                                  obtain ⟨ml, hml2⟩ : ∃ x, l2.length = x := ⟨_, rfl⟩
                                  obtain ⟨z, hz⟩ : ∃ x, inP has l2 = x := ⟨_, rfl⟩
                                  rw [hmust, hl2, hz, HA.out, Bool.true_and] at hsucc
                                  have hlen : (formT t).cols.length = nc := by rw [← HT.out.2.2.1]; unfold formT; simp
                                  have hjf : j < (formT t).cols.length := by rw [hlen, ← HT.out.2.2.1]; exact hjl
                                  have hfm := form_mu HN.out.1 HN.out.2.2.1 hjl hjf
                                  have hBW : ∀ w, Below w10.heap.size w10 w → Below W.heap.size W w := fun w hb => below_on (below_on (below_on H7.out.2.1 H8.out.2.1) hbw) hb
                                  have HFM : Hid (∀ w, Below w10.heap.size w10 w → Calls Tryz.prog 23 #[.agg #[.string nm, .slice pc nc kc, .string key, .slice (some ⟨bd, od, none⟩) nd kd]] w fun e w' => ∃ p1 c1, e = .returned (.agg #[.string nm, .slice p1 nc c1, .string key, .slice (some ⟨bd, od, none⟩) nd kd]) ∧ RdC w' (.slice p1 nc c1) (formT t).cols ∧ Below w.heap.size w w') := Lib.hid (fun w hb => by
                                    have h := rform_any (H9.out.2.2.later (below_on HB.out.2.1 hb)) (Nat.le_trans (HN.out.1.nice.few t HN.out.2.2.1) (by decide)) (by omega)
                                    rw [HT.out.1, HT.out.2.1, HT.out.2.2.1] at h
                                    exact h.mono fun e w'' ⟨p1, c1, h1, h2, h3⟩ => ⟨p1, c1, h1, h2.1, h3⟩)
                                  have HCO : Hid (∀ w, Below w10.heap.size w10 w → Calls Tryz.prog 41 #[.agg #[.string nm, .slice pc nc kc, .string key, .slice (some ⟨bd, od, none⟩) nd kd], .string l] w fun e w' => e = .returned (.int .i64 j) ∧ Below w.heap.size w w') := Lib.hid (fun w hb => rcolOf_is (H9.out.2.2.later (below_on HB.out.2.1 hb)) HT.out.1 HT.out.2.1 h5)
                                  have HMU : Hid (∀ w p1 c1, RdC w (.slice p1 nc c1) (formT t).cols → ∃ gb go, p1 = some ⟨gb, go, none⟩ ∧ w.cell? ⟨gb, go + j * 4 + 2, none⟩ = some (.bool mu)) := Lib.hid (fun w p1 c1 h => by
                                    obtain ⟨gb, go, e1, _, _, _, e4, _⟩ := RdC.col h hjf
                                    rw [hfm, hmu] at e4
                                    exact ⟨gb, go, e1, e4⟩)
                                  have HJ : Hid (∀ w, Below w10.heap.size w10 w → Calls Tryz.prog 26 #[.slice (some ⟨pb, po, none⟩) k cp, .string l] w fun e w' => ∃ p1 c1, e = .returned (.slice p1 ml c1) ∧ Wd w' (.slice p1 ml c1) l2 ∧ Below w.heap.size w w') := Lib.hid (fun w hb => join_is (H0.out.2.2.2.1.later (hBW w hb)) (by have := HX.out.2.2.1; omega) hl2 hml2)
                                  have HIN : Hid (∀ w v, Below w10.heap.size w10 w → Wd w v l2 → Calls Tryz.prog 15 #[.slice ph nh ch, v] w fun e w' => e = .returned (.bool z) ∧ Below w.heap.size w w') := Lib.hid (fun w v hb hw => by
                                    have h := in_any (H0.out.2.1.later (hBW w hb)) hw (Nat.le_trans HN.out.2.2.2.2.2.2.2.2.1 (by decide))
                                    rw [hz] at h
                                    exact h)
                                  have HS := Lib.hid hsucc
                                  have hjn : j < nc := by rw [← HT.out.2.2.1]; exact hjl
                                  have hjn2 : (j : Int) < (nc : Int) := by omega
                                  have hmm : (m : Int) < (nl : Int) := by omega
                                  clear hhas hjl h5 h7 hmu hmust hl2 hml2 hz hsucc hlen hjf hfm hBW hl hlm2 hbl hbw hmL
                                  cases mu
                                  · go_upto_region 22 with fail
                                    clear x3 xl dc hcw
                                    refine Par.wp_region_par2 17 (fun w => Below w10.heap.size w10 w) (Par.VL [(.eq (.agg #[.string nm, .slice pc nc kc, .string key, .slice (some ⟨bd, od, none⟩) nd kd])), ((formV nm key nc (.slice (some ⟨bd, od, none⟩) nd kd) (formT t).cols)), ((colsV nc (formT t).cols)), (.eq (.agg #[.string nm, .slice pc nc kc, .string key, .slice (some ⟨bd, od, none⟩) nd kd])), (.eq (.string l)), (.eq (.int .i64 j)), ((ptrV j false)), ((muV false)), (.eq (.bool false)), (.eq (.bool false)), (.eq undef), (.eq undef), (.eq undef), (.eq undef), (.eq undef), (.eq (.bool false)), (.eq (.bool false))]) ?A2 ?hm2 ?hB2 (fun w w' h hb => below_on h hb) (Par.VL.mono _) ?hA2 ((below_drew w10)) ?hop2 ?hT2
                                    case hm2 => kernel_rfl
                                    case hB2 => kernel_rfl
                                    case hA2 =>
                                      intro vs
                                      simp only [Par.putA, Par.dstAt, Act.put, List.getElem?_toArray, List.getElem?_cons_zero, List.getElem?_cons_succ, Option.bind_some, List.setIfInBounds_toArray, List.set_cons_zero, List.set_cons_succ]
                                      rfl
                                    case hop2 =>
                                      simp only [List.take_succ_cons, List.take_zero, Par.GiveAllV, and_true]
                                      refine ⟨fun vs w hK hd => ?_, fun vs w hK hd => ?_, fun vs w hK hd => ?_, fun vs w hK hd => ?_, fun vs w hK hd => ?_, fun vs w hK hd => ?_, fun vs w hK hd => ?_, fun vs w hK hd => ?_, fun vs w hK hd => ?_, fun vs w hK hd => ?_, fun vs w hK hd => ?_, fun vs w hK hd => ?_, fun vs w hK hd => ?_, fun vs w hK hd => ?_, fun vs w hK hd => ?_, fun vs w hK hd => ?_, fun vs w hK hd => ?_⟩
                                      · have k0 := nd_cell (heap_on hK HB.out.1) 0
                                        have k1 := nd_cell (heap_on hK HB.out.1) 1
                                        have k2 := nd_cell (heap_on hK HB.out.1) 2
                                        have k3 := nd_cell (heap_on hK HB.out.1) 3
                                        clear hd
                                        simp only [Par.GivesV]
                                        go_simp
                                        all_goals exact ⟨rfl, Below.refl _ _⟩
                                      · have d0 := hd 0 (by decide) (by kernel_rfl)
                                        replace d0 : vs 0 = (.agg #[.string nm, .slice pc nc kc, .string key, .slice (some ⟨bd, od, none⟩) nd kd]) := d0
                                        clear hd
                                        simp only [Par.GivesV, d0]
                                        go_simp
                                        exact (HFM.out w hK).mono (fun e w'' ⟨p1, c1, h1, h2, h3⟩ => ⟨_, h1, ⟨⟨p1, c1, rfl, h2⟩, h3⟩⟩)
                                      · have d1 := hd 1 (by decide) (by kernel_rfl)
                                        obtain ⟨p1, c1, d1, h1⟩ := d1
                                        replace d1 : vs 1 = .agg #[.string nm, .slice p1 nc c1, .string key, .slice (some ⟨bd, od, none⟩) nd kd] := d1
                                        clear hd
                                        simp only [Par.GivesV, d1]
                                        go_simp
                                        exact ⟨⟨p1, c1, rfl, h1⟩, Below.refl _ _⟩
                                      · have k0 := nd_cell (heap_on hK HB.out.1) 0
                                        have k1 := nd_cell (heap_on hK HB.out.1) 1
                                        have k2 := nd_cell (heap_on hK HB.out.1) 2
                                        have k3 := nd_cell (heap_on hK HB.out.1) 3
                                        clear hd
                                        simp only [Par.GivesV]
                                        go_simp
                                        all_goals exact ⟨rfl, Below.refl _ _⟩
                                      · clear hd
                                        simp only [Par.GivesV]
                                        go_simp
                                        all_goals exact ⟨rfl, Below.refl _ _⟩
                                      · have d3 := hd 3 (by decide) (by kernel_rfl)
                                        replace d3 : vs 3 = (.agg #[.string nm, .slice pc nc kc, .string key, .slice (some ⟨bd, od, none⟩) nd kd]) := d3
                                        have d4 := hd 4 (by decide) (by kernel_rfl)
                                        replace d4 : vs 4 = (.string l) := d4
                                        clear hd
                                        simp only [Par.GivesV, d3, d4]
                                        go_simp
                                        exact (HCO.out w hK).mono (fun e w'' h => ⟨_, h.1, ⟨rfl, h.2⟩⟩)
                                      · have d2 := hd 2 (by decide) (by kernel_rfl)
                                        have d5 := hd 5 (by decide) (by kernel_rfl)
                                        replace d5 : vs 5 = (.int .i64 j) := d5
                                        obtain ⟨p1, c1, d2, h1⟩ := d2
                                        replace d2 : vs 2 = .slice p1 nc c1 := d2
                                        obtain ⟨gb, go, hgo, hcell⟩ := HMU.out w p1 c1 h1
                                        subst hgo
                                        clear hd
                                        simp only [Par.GivesV, d5, d2]
                                        go_simp
                                        exact ⟨⟨gb, go, rfl, hcell⟩, Below.refl _ _⟩
                                      · have d6 := hd 6 (by decide) (by kernel_rfl)
                                        obtain ⟨gb, go, d6, h1⟩ := d6
                                        replace d6 : vs 6 = .pointer (some ⟨gb, go + j * 4, none⟩) := d6
                                        clear hd
                                        simp only [Par.GivesV, d6]
                                        go_simp
                                        exact ⟨⟨gb, go + j * 4 + 2, rfl, h1⟩, Below.refl _ _⟩
                                      · have d7 := hd 7 (by decide) (by kernel_rfl)
                                        obtain ⟨gb, go, d7, h1⟩ := d7
                                        replace d7 : vs 7 = .pointer (some ⟨gb, go, none⟩) := d7
                                        have hgl := World.block_lt_of_cell? w ⟨gb, go, none⟩ h1
                                        clear hd
                                        simp only [Par.GivesV, d7]
                                        go_simp
                                        all_goals exact ⟨rfl, Below.refl _ _⟩
                                      · have d8 := hd 8 (by decide) (by kernel_rfl)
                                        replace d8 : vs 8 = (.bool false) := d8
                                        clear hd
                                        simp only [Par.GivesV, d8]
                                        go_simp
                                        all_goals exact ⟨rfl, Below.refl _ _⟩
                                      · have d9 := hd 9 (by decide) (by kernel_rfl)
                                        replace d9 : vs 9 = (.bool false) := d9
                                        clear hd
                                        simp only [Par.GivesV, d9]
                                        go_simp
                                        all_goals exact ⟨rfl, Below.refl _ _⟩
                                      · have d9 := hd 9 (by decide) (by kernel_rfl)
                                        replace d9 : vs 9 = (.bool false) := d9
                                        clear hd
                                        simp only [Par.GivesV, d9]
                                        go_simp
                                        all_goals exact ⟨rfl, Below.refl _ _⟩
                                      · have d9 := hd 9 (by decide) (by kernel_rfl)
                                        replace d9 : vs 9 = (.bool false) := d9
                                        clear hd
                                        simp only [Par.GivesV, d9]
                                        go_simp
                                        all_goals exact ⟨rfl, Below.refl _ _⟩
                                      · have d9 := hd 9 (by decide) (by kernel_rfl)
                                        replace d9 : vs 9 = (.bool false) := d9
                                        clear hd
                                        simp only [Par.GivesV, d9]
                                        go_simp
                                        all_goals exact ⟨rfl, Below.refl _ _⟩
                                      · have d9 := hd 9 (by decide) (by kernel_rfl)
                                        replace d9 : vs 9 = (.bool false) := d9
                                        clear hd
                                        simp only [Par.GivesV, d9]
                                        go_simp
                                        all_goals exact ⟨rfl, Below.refl _ _⟩
                                      · have d9 := hd 9 (by decide) (by kernel_rfl)
                                        replace d9 : vs 9 = (.bool false) := d9
                                        clear hd
                                        simp only [Par.GivesV, d9]
                                        go_simp
                                        all_goals exact ⟨rfl, Below.refl _ _⟩
                                      · have d15 := hd 15 (by decide) (by kernel_rfl)
                                        replace d15 : vs 15 = (.bool false) := d15
                                        clear hd
                                        simp only [Par.GivesV, d15]
                                        go_simp
                                        all_goals exact ⟨rfl, Below.refl _ _⟩
                                    case hT2 =>
                                      intro vs w' hK hV
                                      simp only [List.drop_succ_cons, List.drop_nil]
                                      have d0 := hV 0 (by decide)
                                      replace d0 : vs 0 = (.agg #[.string nm, .slice pc nc kc, .string key, .slice (some ⟨bd, od, none⟩) nd kd]) := d0
                                      have d1 := hV 1 (by decide)
                                      have d2 := hV 2 (by decide)
                                      have d3 := hV 3 (by decide)
                                      replace d3 : vs 3 = (.agg #[.string nm, .slice pc nc kc, .string key, .slice (some ⟨bd, od, none⟩) nd kd]) := d3
                                      have d4 := hV 4 (by decide)
                                      replace d4 : vs 4 = (.string l) := d4
                                      have d5 := hV 5 (by decide)
                                      replace d5 : vs 5 = (.int .i64 j) := d5
                                      have d6 := hV 6 (by decide)
                                      have d7 := hV 7 (by decide)
                                      have d8 := hV 8 (by decide)
                                      replace d8 : vs 8 = (.bool false) := d8
                                      have d9 := hV 9 (by decide)
                                      replace d9 : vs 9 = (.bool false) := d9
                                      have d10 := hV 10 (by decide)
                                      replace d10 : vs 10 = undef := d10
                                      have d11 := hV 11 (by decide)
                                      replace d11 : vs 11 = undef := d11
                                      have d12 := hV 12 (by decide)
                                      replace d12 : vs 12 = undef := d12
                                      have d13 := hV 13 (by decide)
                                      replace d13 : vs 13 = undef := d13
                                      have d14 := hV 14 (by decide)
                                      replace d14 : vs 14 = undef := d14
                                      have d15 := hV 15 (by decide)
                                      replace d15 : vs 15 = (.bool false) := d15
                                      have d16 := hV 16 (by decide)
                                      replace d16 : vs 16 = (.bool false) := d16
                                      clear hV
                                      simp only [d0, d3, d4, d5, d8, d9, d10, d11, d12, d13, d14, d15, d16]
                                      clear d0 d3 d4 d5 d8 d9 d10 d11 d12 d13 d14 d15 d16
                                      clear d1
                                      generalize vs 1 = v1
                                      clear d2
                                      generalize vs 2 = v2
                                      clear d6
                                      generalize vs 6 = v6
                                      clear d7
                                      generalize vs 7 = v7
                                      have HB2 := Lib.hid (below_on HB.out.2.1 hK)
                                      clear hK
                                      go_wp2_with fail
                                      go_roundg (nl - m)
                                      case measure => omega
                                      case rel => exact ⟨m + 1, by go_num, by omega, by omega, by rw [HS.out]; rfl, HB2.out⟩
                                  · go_upto_region 22 with fail
                                    clear x3 xl dc hcw
                                    refine Par.wp_region_par2 17 (fun w => Below w10.heap.size w10 w) (Par.VL [(.eq (.agg #[.string nm, .slice pc nc kc, .string key, .slice (some ⟨bd, od, none⟩) nd kd])), ((formV nm key nc (.slice (some ⟨bd, od, none⟩) nd kd) (formT t).cols)), ((colsV nc (formT t).cols)), (.eq (.agg #[.string nm, .slice pc nc kc, .string key, .slice (some ⟨bd, od, none⟩) nd kd])), (.eq (.string l)), (.eq (.int .i64 j)), ((ptrV j true)), ((muV true)), (.eq (.bool true)), (.eq (.bool true)), (.eq (.slice ph nh ch)), (.eq (.slice (some ⟨pb, po, none⟩) k cp)), (.eq (.string l)), ((wayV ml l2)), (.eq (.bool z)), (.eq (.bool z)), (.eq (.bool z))]) ?A3 ?hm3 ?hB3 (fun w w' h hb => below_on h hb) (Par.VL.mono _) ?hA3 ((below_drew w10)) ?hop3 ?hT3
                                    case hm3 => kernel_rfl
                                    case hB3 => kernel_rfl
                                    case hA3 =>
                                      intro vs
                                      simp only [Par.putA, Par.dstAt, Act.put, List.getElem?_toArray, List.getElem?_cons_zero, List.getElem?_cons_succ, Option.bind_some, List.setIfInBounds_toArray, List.set_cons_zero, List.set_cons_succ]
                                      rfl
                                    case hop3 =>
                                      simp only [List.take_succ_cons, List.take_zero, Par.GiveAllV, and_true]
                                      refine ⟨fun vs w hK hd => ?_, fun vs w hK hd => ?_, fun vs w hK hd => ?_, fun vs w hK hd => ?_, fun vs w hK hd => ?_, fun vs w hK hd => ?_, fun vs w hK hd => ?_, fun vs w hK hd => ?_, fun vs w hK hd => ?_, fun vs w hK hd => ?_, fun vs w hK hd => ?_, fun vs w hK hd => ?_, fun vs w hK hd => ?_, fun vs w hK hd => ?_, fun vs w hK hd => ?_, fun vs w hK hd => ?_, fun vs w hK hd => ?_⟩
                                      · have k0 := nd_cell (heap_on hK HB.out.1) 0
                                        have k1 := nd_cell (heap_on hK HB.out.1) 1
                                        have k2 := nd_cell (heap_on hK HB.out.1) 2
                                        have k3 := nd_cell (heap_on hK HB.out.1) 3
                                        clear hd
                                        simp only [Par.GivesV]
                                        go_simp
                                        all_goals exact ⟨rfl, Below.refl _ _⟩
                                      · have d0 := hd 0 (by decide) (by kernel_rfl)
                                        replace d0 : vs 0 = (.agg #[.string nm, .slice pc nc kc, .string key, .slice (some ⟨bd, od, none⟩) nd kd]) := d0
                                        clear hd
                                        simp only [Par.GivesV, d0]
                                        go_simp
                                        exact (HFM.out w hK).mono (fun e w'' ⟨p1, c1, h1, h2, h3⟩ => ⟨_, h1, ⟨⟨p1, c1, rfl, h2⟩, h3⟩⟩)
                                      · have d1 := hd 1 (by decide) (by kernel_rfl)
                                        obtain ⟨p1, c1, d1, h1⟩ := d1
                                        replace d1 : vs 1 = .agg #[.string nm, .slice p1 nc c1, .string key, .slice (some ⟨bd, od, none⟩) nd kd] := d1
                                        clear hd
                                        simp only [Par.GivesV, d1]
                                        go_simp
                                        exact ⟨⟨p1, c1, rfl, h1⟩, Below.refl _ _⟩
                                      · have k0 := nd_cell (heap_on hK HB.out.1) 0
                                        have k1 := nd_cell (heap_on hK HB.out.1) 1
                                        have k2 := nd_cell (heap_on hK HB.out.1) 2
                                        have k3 := nd_cell (heap_on hK HB.out.1) 3
                                        clear hd
                                        simp only [Par.GivesV]
                                        go_simp
                                        all_goals exact ⟨rfl, Below.refl _ _⟩
                                      · clear hd
                                        simp only [Par.GivesV]
                                        go_simp
                                        all_goals exact ⟨rfl, Below.refl _ _⟩
                                      · have d3 := hd 3 (by decide) (by kernel_rfl)
                                        replace d3 : vs 3 = (.agg #[.string nm, .slice pc nc kc, .string key, .slice (some ⟨bd, od, none⟩) nd kd]) := d3
                                        have d4 := hd 4 (by decide) (by kernel_rfl)
                                        replace d4 : vs 4 = (.string l) := d4
                                        clear hd
                                        simp only [Par.GivesV, d3, d4]
                                        go_simp
                                        exact (HCO.out w hK).mono (fun e w'' h => ⟨_, h.1, ⟨rfl, h.2⟩⟩)
                                      · have d2 := hd 2 (by decide) (by kernel_rfl)
                                        have d5 := hd 5 (by decide) (by kernel_rfl)
                                        replace d5 : vs 5 = (.int .i64 j) := d5
                                        obtain ⟨p1, c1, d2, h1⟩ := d2
                                        replace d2 : vs 2 = .slice p1 nc c1 := d2
                                        obtain ⟨gb, go, hgo, hcell⟩ := HMU.out w p1 c1 h1
                                        subst hgo
                                        clear hd
                                        simp only [Par.GivesV, d5, d2]
                                        go_simp
                                        exact ⟨⟨gb, go, rfl, hcell⟩, Below.refl _ _⟩
                                      · have d6 := hd 6 (by decide) (by kernel_rfl)
                                        obtain ⟨gb, go, d6, h1⟩ := d6
                                        replace d6 : vs 6 = .pointer (some ⟨gb, go + j * 4, none⟩) := d6
                                        clear hd
                                        simp only [Par.GivesV, d6]
                                        go_simp
                                        exact ⟨⟨gb, go + j * 4 + 2, rfl, h1⟩, Below.refl _ _⟩
                                      · have d7 := hd 7 (by decide) (by kernel_rfl)
                                        obtain ⟨gb, go, d7, h1⟩ := d7
                                        replace d7 : vs 7 = .pointer (some ⟨gb, go, none⟩) := d7
                                        have hgl := World.block_lt_of_cell? w ⟨gb, go, none⟩ h1
                                        clear hd
                                        simp only [Par.GivesV, d7]
                                        go_simp
                                        all_goals exact ⟨rfl, Below.refl _ _⟩
                                      · have d8 := hd 8 (by decide) (by kernel_rfl)
                                        replace d8 : vs 8 = (.bool true) := d8
                                        clear hd
                                        simp only [Par.GivesV, d8]
                                        go_simp
                                        all_goals exact ⟨rfl, Below.refl _ _⟩
                                      · have d9 := hd 9 (by decide) (by kernel_rfl)
                                        replace d9 : vs 9 = (.bool true) := d9
                                        clear hd
                                        simp only [Par.GivesV, d9]
                                        go_simp
                                        all_goals exact ⟨rfl, Below.refl _ _⟩
                                      · have d9 := hd 9 (by decide) (by kernel_rfl)
                                        replace d9 : vs 9 = (.bool true) := d9
                                        clear hd
                                        simp only [Par.GivesV, d9]
                                        go_simp
                                        all_goals exact ⟨rfl, Below.refl _ _⟩
                                      · have d9 := hd 9 (by decide) (by kernel_rfl)
                                        replace d9 : vs 9 = (.bool true) := d9
                                        clear hd
                                        simp only [Par.GivesV, d9]
                                        go_simp
                                        all_goals exact ⟨rfl, Below.refl _ _⟩
                                      · have d9 := hd 9 (by decide) (by kernel_rfl)
                                        replace d9 : vs 9 = (.bool true) := d9
                                        have d11 := hd 11 (by decide) (by kernel_rfl)
                                        replace d11 : vs 11 = (.slice (some ⟨pb, po, none⟩) k cp) := d11
                                        have d12 := hd 12 (by decide) (by kernel_rfl)
                                        replace d12 : vs 12 = (.string l) := d12
                                        clear hd
                                        simp only [Par.GivesV, d9, d11, d12]
                                        go_simp
                                        exact (HJ.out w hK).mono (fun e w'' ⟨p1, c1, h1, h2, h3⟩ => ⟨_, h1, ⟨⟨p1, c1, rfl, h2⟩, h3⟩⟩)
                                      · have d9 := hd 9 (by decide) (by kernel_rfl)
                                        replace d9 : vs 9 = (.bool true) := d9
                                        have d10 := hd 10 (by decide) (by kernel_rfl)
                                        replace d10 : vs 10 = (.slice ph nh ch) := d10
                                        have d13 := hd 13 (by decide) (by kernel_rfl)
                                        obtain ⟨p1, c1, d13, h1⟩ := d13
                                        replace d13 : vs 13 = .slice p1 ml c1 := d13
                                        rw [d13] at h1
                                        clear hd
                                        simp only [Par.GivesV, d9, d10, d13]
                                        go_simp
                                        exact (HIN.out w _ hK h1).mono (fun e w'' h => ⟨_, h.1, ⟨rfl, h.2⟩⟩)
                                      · have d9 := hd 9 (by decide) (by kernel_rfl)
                                        replace d9 : vs 9 = (.bool true) := d9
                                        have d14 := hd 14 (by decide) (by kernel_rfl)
                                        replace d14 : vs 14 = (.bool z) := d14
                                        clear hd
                                        simp only [Par.GivesV, d9, d14]
                                        go_simp
                                        all_goals exact ⟨rfl, Below.refl _ _⟩
                                      · have d15 := hd 15 (by decide) (by kernel_rfl)
                                        replace d15 : vs 15 = (.bool z) := d15
                                        clear hd
                                        simp only [Par.GivesV, d15]
                                        go_simp
                                        all_goals exact ⟨rfl, Below.refl _ _⟩
                                    case hT3 =>
                                      intro vs w' hK hV
                                      simp only [List.drop_succ_cons, List.drop_nil]
                                      have d0 := hV 0 (by decide)
                                      replace d0 : vs 0 = (.agg #[.string nm, .slice pc nc kc, .string key, .slice (some ⟨bd, od, none⟩) nd kd]) := d0
                                      have d1 := hV 1 (by decide)
                                      have d2 := hV 2 (by decide)
                                      have d3 := hV 3 (by decide)
                                      replace d3 : vs 3 = (.agg #[.string nm, .slice pc nc kc, .string key, .slice (some ⟨bd, od, none⟩) nd kd]) := d3
                                      have d4 := hV 4 (by decide)
                                      replace d4 : vs 4 = (.string l) := d4
                                      have d5 := hV 5 (by decide)
                                      replace d5 : vs 5 = (.int .i64 j) := d5
                                      have d6 := hV 6 (by decide)
                                      have d7 := hV 7 (by decide)
                                      have d8 := hV 8 (by decide)
                                      replace d8 : vs 8 = (.bool true) := d8
                                      have d9 := hV 9 (by decide)
                                      replace d9 : vs 9 = (.bool true) := d9
                                      have d10 := hV 10 (by decide)
                                      replace d10 : vs 10 = (.slice ph nh ch) := d10
                                      have d11 := hV 11 (by decide)
                                      replace d11 : vs 11 = (.slice (some ⟨pb, po, none⟩) k cp) := d11
                                      have d12 := hV 12 (by decide)
                                      replace d12 : vs 12 = (.string l) := d12
                                      have d13 := hV 13 (by decide)
                                      have d14 := hV 14 (by decide)
                                      replace d14 : vs 14 = (.bool z) := d14
                                      have d15 := hV 15 (by decide)
                                      replace d15 : vs 15 = (.bool z) := d15
                                      have d16 := hV 16 (by decide)
                                      replace d16 : vs 16 = (.bool z) := d16
                                      clear hV
                                      simp only [d0, d3, d4, d5, d8, d9, d10, d11, d12, d14, d15, d16]
                                      clear d0 d3 d4 d5 d8 d9 d10 d11 d12 d14 d15 d16
                                      clear d1
                                      generalize vs 1 = v1
                                      clear d2
                                      generalize vs 2 = v2
                                      clear d6
                                      generalize vs 6 = v6
                                      clear d7
                                      generalize vs 7 = v7
                                      clear d13
                                      generalize vs 13 = v13
                                      have HB2 := Lib.hid (below_on HB.out.2.1 hK)
                                      clear hK
                                      go_wp2_with fail
                                      go_roundg (nl - m)
                                      case measure => omega
                                      case rel => exact ⟨m + 1, by go_num, by omega, by omega, by rw [HS.out]; rfl, HB2.out⟩
                            · obtain rfl : m = nl := by omega
                              go_wp2_with fail
                              go_meet
                              exact ⟨by rw [← HA.out, accB_all (d := ⟨left, right⟩) (by rw [HD.out.2.2.2.1]; exact Nat.le_refl _)], HB.out.2.1⟩
                        case rest =>
                          obtain ⟨rfl, hB10⟩ := hcut
                          obtain ⟨w10, rfl⟩ : ∃ x, x = wc := ⟨_, rfl⟩
                          obtain ⟨dg, hdg⟩ : ∃ b, depG t has a y ⟨left, right⟩ = b := ⟨_, rfl⟩
                          rw [hdg]
                          have HG := Lib.hid (And.intro hdg hB10)
                          clear hdg hB10
                          cases dg
                          · go_wp2_with fail
                            go_roundg (nd - i)
                            case measure => omega
                            case rel =>
                              refine ⟨i + 1, by go_num, by omega, by omega, fun j hj hji => ?_, below_on (below_on H8.out.2.1 H9.out.2.1) HG.out.2⟩
                              by_cases e : j = i
                              · subst e; rw [HD.out.1]; exact HG.out.1
                              · exact H8.out.2.2.2 j hj (by omega)
                          · have hb4 : b4 = true := by
                              rw [← HBB.out.2.2.2]
                              unfold g4
                              rw [List.any_eq_true]
                              exact ⟨_, HD.out.2.1, HG.out.1⟩
                            go_wp2_with fail
                            go_ret
                            exact ⟨by rw [hb4]; rfl, below_on H7.out.2.1 (below_on (below_on H8.out.2.1 H9.out.2.1) HG.out.2)⟩
                    · obtain rfl : i = nd := by omega
                      have hb4 : b4 = false := by
                        rw [← HBB.out.2.2.2]
                        unfold g4
                        rw [List.any_eq_false]
                        intro d hd
                        obtain ⟨j, hj, rfl⟩ := List.getElem_of_mem hd
                        rw [H8.out.2.2.2 j hj (by rw [HT.out.2.2.2] at hj; exact hj)]
                        decide
                      go_wp2_with fail
                      go_ret
                      exact ⟨by rw [hb4]; rfl, below_on H7.out.2.1 H8.out.2.1⟩
end Go.Proofs.YtmfkkpogmmoflaaGreat
