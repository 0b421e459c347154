/- The reference's Closure. -/
import Derived.Test.YtmfkkpogmmoflaaGreatZB
import Derived.Test.YtmfkkpogmmoflaaGreatVJ
namespace Go.Proofs.YtmfkkpogmmoflaaGreat
open Go Go.RowKit Go.Proofs

theorem given_is {ks : List T} {has : List (List ByteArray)} {hvs : List Value} {x : List ByteArray} {tb : ByteArray} {sv hv pv : Value} {W : World} {g : Bool} (hN : Fine ks) (hr : RdTs W sv ks) (hh : RdW W hv has hvs) (hhl : has.length ≤ 100000) (hp : Wd W pv x) (hok : Ok ks tb x) (hg : givenP ks tb has x = g) : Calls Tryz.prog 28 #[sv, .string tb, hv, pv] W fun e w' => e = .returned (.bool g) ∧ Below W.heap.size W w' := by
  obtain ⟨a, y, rfl, _⟩ := snoc_of hok.len.1
  rw [givenP_snoc] at hg
  rw [← hg]
  exact given_any hN hr hh hhl hp hok
/-- What has been found so far. -/
structure RC (ks : List T) (tb : ByteArray) (qs ps has : List (List ByteArray)) : Prop where
  nodup : has.Nodup
  sub : ∀ x ∈ has, x ∈ qs
  sound : ∀ x ∈ has, Cl ks tb (· ∈ ps) x
  base : ∀ x ∈ qs, x ∈ ps → x ∈ has
theorem RC.add {ks : List T} {tb : ByteArray} {qs ps has : List (List ByteArray)} (h : RC ks tb qs ps has) {x : List ByteArray} (hq : ∀ p, p ∈ qs ↔ Ok ks tb p) (hx : x ∈ qs) (hn : x ∉ has) (hg : givenP ks tb has x = true) : RC ks tb qs ps (has ++ [x]) where
  nodup := by
    rw [List.nodup_append]
    refine ⟨h.nodup, by simp, fun a ha b hb => ?_⟩
    rw [List.mem_singleton] at hb
    subst hb
    intro e; subst e; exact hn ha
  sub := fun y hy => by
    rw [List.mem_append, List.mem_singleton] at hy
    exact hy.elim (h.sub y) (fun e => e ▸ hx)
  sound := fun y hy => by
    rw [List.mem_append, List.mem_singleton] at hy
    exact hy.elim (h.sound y) (fun e => e ▸ given_sound ((hq x).1 hx) h.sound hg)
  base := fun y hy hp => List.mem_append.2 (.inl (h.base y hy hp))
theorem RC.few {ks : List T} {tb : ByteArray} {qs ps has : List (List ByteArray)} (h : RC ks tb qs ps has) : has.length ≤ qs.length := nodup_le h.nodup h.sub
theorem RC.start {ks : List T} {tb : ByteArray} {qs ps : List (List ByteArray)} (hq : ∀ p, p ∈ qs ↔ Ok ks tb p) (hs : qs.Nodup) : RC ks tb qs ps (qs.filter (inP ps)) where
  nodup := hs.sublist List.filter_sublist
  sub := fun _ hx => (List.mem_filter.1 hx).1
  sound := fun _ hx => .base ((hq _).1 (List.mem_filter.1 hx).1) (inP_iff.1 (List.mem_filter.1 hx).2)
  base := fun _ hx hp => List.mem_filter.2 ⟨hx, inP_iff.2 hp⟩
theorem filter_succ {qs : List (List ByteArray)} {f : List ByteArray → Bool} {i : Nat} (h : i < qs.length) : (qs.take (i + 1)).filter f = if f qs[i] = true then (qs.take i).filter f ++ [qs[i]] else (qs.take i).filter f := by
  rw [List.take_succ_eq_append_getElem h, List.filter_append]
  split
  · rename_i h1
    rw [List.filter_cons_of_pos h1]; rfl
  · rename_i h1
    rw [List.filter_cons_of_neg h1]; simp
set_option maxRecDepth 100000 in
set_option maxHeartbeats 8000000 in
theorem rclos_any {ks : List T} {tb : ByteArray} {ps : List (List ByteArray)} {fvs : List Value} {sv fv : Value} {W : World} (hN : Fine ks) (hr : RdTs W sv ks) (hfr : RdW W fv ps fvs) (hpl : ps.length ≤ 100000) : Calls Tryz.prog 11 #[sv, .string tb, fv] W (ClosOf ks tb ps W) := by
  have hall := rall_any (tb := tb) hr hN.nice
  obtain ⟨pf, cf, rfl, hcf, hmf⟩ := hfr.sl
  obtain ⟨pt, ct, rfl, hct, hmt⟩ := hr.slice
  obtain ⟨nf, hnf⟩ : ∃ x, ps.length = x := ⟨_, rfl⟩
  obtain ⟨ns, hns⟩ : ∃ x, ks.length = x := ⟨_, rfl⟩
  rw [hnf] at hfr ⊢
  rw [hns] at hr hall ⊢
  have H0 := Lib.hid (And.intro hN (And.intro hr (And.intro hfr (And.intro hpl hnf))))
  clear hN hr hfr hpl hnf hns hcf hct hmf hmt
  go_enter Tryz.func11, Tryz.ntmps11
  go_upto_region 2 with (go_at_call 10; (with_reducible refine hall.mono ?_); rintro e w1 ⟨pa, na, ca, avs, qs, rfl, hna, hA, hP, hb⟩)
  have hn2 : na ≤ 2000 := by rw [hna]; exact (hA.few H0.out.1.nice).len
  have H1 := Lib.hid (And.intro hna (And.intro (hA.few H0.out.1.nice) (And.intro (hA.ok H0.out.1.nice) (And.intro hP hb))))
  subst hna
  obtain ⟨na, hna⟩ : ∃ x, qs.length = x := ⟨_, rfl⟩
  rw [hna] at H1 hn2 ⊢
  have HNA := Lib.hid hna
  have HEL : Hid (∀ (i : Nat), i < na → ∃ g x mx px cx, pa = some ⟨g, 0, none⟩ ∧ qs[i]? = some x ∧ x.length = mx ∧ ∀ w, Below w1.heap.size w1 w → w.cell? ⟨g, i, none⟩ = some (.slice px mx cx) ∧ Wd w (.slice px mx cx) x) := Lib.hid (fun i hi => by
    have hil : i < qs.length := by rw [hna]; exact hi
    have hP := H1.out.2.2.2.1
    obtain ⟨g, c5, e1, _, _⟩ := hP.row.slice (by omega)
    obtain ⟨rfl, -, rfl⟩ := Value.slice.inj e1
    rw [← hna] at hP
    obtain ⟨pe, ce, hce, hwe, _⟩ := PR.elem hP hil
    exact ⟨g, qs[i], _, pe, ce, rfl, List.getElem?_eq_getElem hil, rfl, fun w hb => ⟨bel_cell hb hce, hwe.later hb⟩⟩)
  clear hP hb hA hna hall
  go_upto_block 0 with fail
  go_cut [8] from 300 to 300 (fun v wx => ∃ (p : Option Addr) (m c : Nat) (hvs : List Value) (has : List (List ByteArray)), v = .slice p m c ∧ m = has.length ∧ RC ks tb qs ps has ∧ PR w1.heap.size (.slice p m c) hvs has wx ∧ Below w1.heap.size w1 wx)
  case first =>
    go_wp2_with fail
    go_loopg [8, 9] (na + 1) (fun gh hv iv w => ∃ (i : Nat) (p : Option Addr) (m c : Nat) (hvs : List Value), iv = .int .i64 (i : Int) ∧ i ≤ na ∧ na + 1 ≤ i + gh ∧ hv = .slice p m c ∧ m = ((qs.take i).filter (inP ps)).length ∧ PR w1.heap.size (.slice p m c) hvs ((qs.take i).filter (inP ps)) w ∧ Below w1.heap.size w1 w)
    case atStart => exact ⟨0, none, 0, 0, [], rfl, Nat.zero_le _, by omega, rfl, rfl, PR.nil _ _, Below.refl _ _⟩
    case round =>
      obtain ⟨i, p, m, c, hvs, rfl, hi, hg, rfl, hm, hP, hB⟩ := hrel
      have HI := Lib.hid (And.intro hm (And.intro hP hB))
      by_cases hlt : i < na
      · have hil : i < qs.length := by rw [HNA.out]; exact hlt
        obtain ⟨g, x, mx, px, cx, rfl, hx, hmx, hcw⟩ := HEL.out i hlt
        obtain ⟨hce, hwe⟩ := hcw wr hB
        have hxe : qs[i] = x := (List.getElem?_eq_some_iff.1 hx).2
        have hfs := filter_succ (f := inP ps) hil
        rw [hxe] at hfs
        have hin := in_any (H0.out.2.2.1.later (below_on H1.out.2.2.2.2 hB)) hwe (Nat.le_trans H0.out.2.2.2.1 (by decide))
        obtain ⟨z, hz⟩ : ∃ z, inP ps x = z := ⟨_, rfl⟩
        rw [hz] at hin hfs
        have hml : m ≤ 2000 := by rw [hm]; exact Nat.le_trans (List.length_filter_le _ _) (by rw [List.length_take]; omega)
        have HF := Lib.hid (And.intro hfs (And.intro hcw hml))
        have hji : (i : Int) < (na : Int) := by omega
        clear hm hP hB hx hmx hwe hxe hfs hz hml hil hcw
        cases z
        · go_wp2_with (go_at_call 15; (with_reducible refine hin.mono ?_); rintro e w2 ⟨rfl, hb2⟩; have H2 := Lib.hid hb2; clear hin hb2)
          go_roundg (na - i)
          case measure => omega
          case rel => exact ⟨i + 1, _, _, _, hvs, by go_num, by omega, by omega, rfl, by rw [HF.out.1, if_neg (by decide)]; exact HI.out.1, by rw [HF.out.1, if_neg (by decide)]; exact HI.out.2.1.on H2.out, below_on HI.out.2.2 H2.out⟩
        · go_upto_if 26 with (go_at_call 15; (with_reducible refine hin.mono ?_); rintro e w2 ⟨rfl, hb2⟩; have H2 := Lib.hid hb2; clear hin hb2)
          have hbw := below_on HI.out.2.2 H2.out
          obtain ⟨hc2, hw2⟩ := HF.out.2.1 w2 hbw
          obtain ⟨g2, cap2, w3, hrun, h3, hb3, _⟩ := (HI.out.2.1.on H2.out).snoc (ty := 23) (m := m + 1) hw2 (by have := HF.out.2.2; have := HI.out.1; omega) hbw.size (by rw [HI.out.1])
          have H3 := Lib.hid (And.intro h3 (hbw.trans hb3))
          clear hw2 h3 hb3 hbw hce
          go_wp2_with (at_builtin; refine wpList_append_run rfl (.tmp 27) (.tmp 32) 23 rfl rfl rfl hrun ?_)
          go_roundg (na - i)
          case measure => omega
          case rel => exact ⟨i + 1, _, _, _, _, by go_num, by omega, by omega, rfl, by rw [HF.out.1, if_pos (by trivial), List.length_append, ← HI.out.1]; rfl, by rw [HF.out.1, if_pos (by trivial)]; exact H3.out.1, H3.out.2⟩
      · obtain rfl : i = na := by omega
        clear hm hP hB
        go_wp2_with fail
        go_meet
        have e : qs.take i = qs := List.take_of_length_le (by rw [HNA.out]; exact Nat.le_refl _)
        rw [e] at HI
        exact ⟨_, _, _, hvs, _, rfl, HI.out.1, RC.start H1.out.2.2.1 (nodup_sorted H1.out.2.1.srt), HI.out.2.1, HI.out.2.2⟩
  case rest =>
    obtain ⟨p, m, c, hvs, has, rfl, hm, hRC, hP, hB⟩ := hcut
    have H2 := Lib.hid (And.intro hm (And.intro hRC (And.intro hP hB)))
    clear hm hRC hP hB
    go_wp2_with fail
    go_loopg [8, 10] (na + 2) (fun gh hv mv w => ∃ (p : Option Addr) (m c : Nat) (hvs : List Value) (has : List (List ByteArray)) (mb : Bool), mv = .bool mb ∧ hv = .slice p m c ∧ m = has.length ∧ RC ks tb qs ps has ∧ PR w1.heap.size (.slice p m c) hvs has w ∧ Below w1.heap.size w1 w ∧ (mb = true → na + 1 ≤ has.length + gh) ∧ (mb = false → ∀ j (h : j < qs.length), qs[j] ∈ has ∨ givenP ks tb has qs[j] = false))
    case atStart => exact ⟨p, m, c, hvs, has, true, rfl, rfl, H2.out.1, H2.out.2.1, H2.out.2.2.1, H2.out.2.2.2, fun _ => by omega, (fun h => by cases h)⟩
    case round =>
      clear H2
      obtain ⟨p, m, c, hvs, has, mb, rfl, rfl, hm, hRC, hP, hB, hmt, hmf⟩ := hrel
      obtain ⟨w2, rfl⟩ : ∃ x, x = wr := ⟨_, rfl⟩
      have hmle : m ≤ na := by rw [hm, ← HNA.out]; exact hRC.few
      have H2 := Lib.hid (And.intro hm (And.intro hRC (And.intro hP hB)))
      have HMF := Lib.hid hmf
      clear hRC hP hB hmf
      cases mb
      · have hsort := sorted_any H2.out.2.2.1 H2.out.2.1.nodup (by have := H2.out.1; omega)
        clear hmt hm
        go_wp2_with (go_at_call 27; ((with_reducible refine hsort.mono ?_); rintro e w3 ⟨p3, m3, c3, us, ls, rfl, hm3, hP3, hpm, hso, hb3⟩; have H3 := Lib.hid (And.intro hm3 (And.intro hP3 (And.intro hpm (And.intro hso hb3)))); clear hm3 hP3 hpm hso hb3 hsort))
        go_ret
        have hb23 := below_on H1.out.2.2.2.2 (below_on H2.out.2.2.2 H3.out.2.2.2.2)
        have hlen := H3.out.2.2.1.length_eq
        refine ⟨_, _, _, us, ls, rfl, H3.out.1, by have := H2.out.1; omega, ⟨H3.out.2.2.2.1, fun x => ?_⟩, H3.out.2.1.mono (below_on H1.out.2.2.2.2 H2.out.2.2.2).size, hb23⟩
        rw [H3.out.2.2.1.mem_iff]
        refine ⟨H2.out.2.1.sound x, fun hx => given_all H0.out.1 (fun y hy hp => H2.out.2.1.base y ((H1.out.2.2.1 y).2 hy) hp) (fun y hy => ?_) hx⟩
        obtain ⟨j, hj, rfl⟩ := List.getElem_of_mem ((H1.out.2.2.1 y).2 hy)
        exact HMF.out (by trivial) j hj
      · have hgk := hmt rfl
        rw [← hm] at hgk
        clear hmt HMF hm
        go_upto_block 4 with fail
        go_wp2_with fail
        go_loopg [8, 10, 11] (na + 1) (fun gh2 hv mv iv w => ∃ (i : Nat) (p : Option Addr) (m' c : Nat) (hvs : List Value) (has' : List (List ByteArray)) (mb : Bool), iv = .int .i64 (i : Int) ∧ i ≤ na ∧ na + 1 ≤ i + gh2 ∧ mv = .bool mb ∧ hv = .slice p m' c ∧ m' = has'.length ∧ RC ks tb qs ps has' ∧ PR w1.heap.size (.slice p m' c) hvs has' w ∧ Below w1.heap.size w1 w ∧ m ≤ m' ∧ (mb = true → m + 1 ≤ m') ∧ (mb = false → ∀ j (h : j < qs.length), j < i → qs[j] ∈ has' ∨ givenP ks tb has' qs[j] = false))
        case atStart => exact ⟨0, p, m, c, hvs, has, false, rfl, Nat.zero_le _, by omega, rfl, rfl, H2.out.1, H2.out.2.1, H2.out.2.2.1, H2.out.2.2.2, Nat.le_refl _, (fun h => by cases h), fun _ j _ h => absurd h (Nat.not_lt_zero _)⟩
        case round =>
          clear H2
          obtain ⟨i, p, m', c, hvs, has', mb, rfl, hi, hg, rfl, rfl, hm', hRC, hP, hB, hmm, hmt, hmf⟩ := hrel
          obtain ⟨w3, rfl⟩ : ∃ x, x = wr := ⟨_, rfl⟩
          have hmle' : m' ≤ na := by rw [hm', ← HNA.out]; exact hRC.few
          have H3 := Lib.hid (And.intro hm' (And.intro hRC (And.intro hP (And.intro hB (And.intro hmm (And.intro hmt hmf))))))
          clear hm' hRC hP hmm hmt hmf
          by_cases hlt : i < na
          · have hil : i < qs.length := by rw [HNA.out]; exact hlt
            obtain ⟨g, x, mx, px, cx, rfl, hx, hmx, hcw⟩ := HEL.out i hlt
            obtain ⟨hce, hwe⟩ := hcw w3 hB
            have hxe : qs[i] = x := (List.getElem?_eq_some_iff.1 hx).2
            have hxq : x ∈ qs := hxe ▸ List.getElem_mem hil
            have hin := in_any (p := x) H3.out.2.2.1.rdw hwe (by have := H3.out.1; omega)
            obtain ⟨z, hz⟩ : ∃ z, inP has' x = z := ⟨_, rfl⟩
            rw [hz] at hin
            have HX := Lib.hid (And.intro hxe (And.intro hxq (And.intro hcw hz)))
            have hji : (i : Int) < (na : Int) := by omega
            have hkeep : ∀ (b : Bool), (x ∈ has' ∨ givenP ks tb has' x = false) → (mb = false → ∀ j (h : j < qs.length), j < i + 1 → qs[j] ∈ has' ∨ givenP ks tb has' qs[j] = false) := fun _ hor hf j hj hji => by
              by_cases e : j = i
              · subst e; rw [HX.out.1]; exact hor
              · exact H3.out.2.2.2.2.2.2 hf j hj (by omega)
            have HKP := Lib.hid (hkeep true)
            clear hB hx hmx hwe hxq hz hkeep hcw
            cases z
            · obtain ⟨gv, hgv⟩ : ∃ b, givenP ks tb has' x = b := ⟨_, rfl⟩
              have HGV := Lib.hid hgv
              clear hgv
              cases gv
              · go_wp2_with (first
                  | (go_at_call 15; (with_reducible refine hin.mono ?_); rintro e w4 ⟨rfl, hb4⟩; have H4 := Lib.hid (And.intro (below_on H3.out.2.2.2.1 hb4) (H3.out.2.2.1.on hb4)); have hwx := HX.out.2.2.1 w4 H4.out.1; have hce4 := hwx.1; have hgiv := given_is H0.out.1 (H0.out.2.1.later (below_on H1.out.2.2.2.2 H4.out.1)) H4.out.2.rdw (by have := H3.out.1; omega) hwx.2 ((H1.out.2.2.1 x).1 HX.out.2.1) HGV.out; clear hin hb4 hwx hce)
                  | (go_at_call 28; (with_reducible refine hgiv.mono ?_); rintro e w5 ⟨rfl, hb5⟩; have H5 := Lib.hid (And.intro (below_on H4.out.1 hb5) (H4.out.2.on hb5)); clear hgiv hb5))
                go_roundg (na - i)
                case measure => omega
                case rel => exact ⟨i + 1, _, _, _, hvs, has', mb, by go_num, by omega, by omega, rfl, rfl, H3.out.1, H3.out.2.1, H5.out.2, H5.out.1, H3.out.2.2.2.2.1, H3.out.2.2.2.2.2.1, HKP.out (.inr HGV.out)⟩
              · go_upto_if 57 with (first
                  | (go_at_call 15; (with_reducible refine hin.mono ?_); rintro e w4 ⟨rfl, hb4⟩; have H4 := Lib.hid (And.intro (below_on H3.out.2.2.2.1 hb4) (H3.out.2.2.1.on hb4)); have hwx := HX.out.2.2.1 w4 H4.out.1; have hce4 := hwx.1; have hgiv := given_is H0.out.1 (H0.out.2.1.later (below_on H1.out.2.2.2.2 H4.out.1)) H4.out.2.rdw (by have := H3.out.1; omega) hwx.2 ((H1.out.2.2.1 x).1 HX.out.2.1) HGV.out; clear hin hb4 hwx hce)
                  | (go_at_call 28; (with_reducible refine hgiv.mono ?_); rintro e w5 ⟨rfl, hb5⟩; have H5 := Lib.hid (And.intro (below_on H4.out.1 hb5) (H4.out.2.on hb5)); clear hgiv hb5 hce4))
                obtain ⟨hce5, hwe5⟩ := HX.out.2.2.1 w5 H5.out.1
                obtain ⟨g2, cap2, w6, hrun, h6, hb6, _⟩ := H5.out.2.snoc (ty := 23) (m := m' + 1) hwe5 (by have := H3.out.1; omega) H5.out.1.size (by rw [H3.out.1])
                have hRC2 := H3.out.2.1.add H1.out.2.2.1 HX.out.2.1 (inP_no.1 HX.out.2.2.2) HGV.out
                have H6 := Lib.hid (And.intro h6 (And.intro (H5.out.1.trans hb6) hRC2))
                clear hwe5 h6 hb6 hRC2
                go_wp2_with (at_builtin; refine wpList_append_run rfl (.tmp 58) (.tmp 63) 23 rfl rfl rfl hrun ?_)
                go_roundg (na - i)
                case measure => omega
                case rel => exact ⟨i + 1, _, _, _, _, has' ++ [x], true, by go_num, by omega, by omega, rfl, rfl, by rw [List.length_append, ← H3.out.1]; rfl, H6.out.2.2, H6.out.1, H6.out.2.1, by have := H3.out.2.2.2.2.1; omega, fun _ => by have := H3.out.2.2.2.2.1; omega, fun h => by cases h⟩
            · go_wp2_with (go_at_call 15; (with_reducible refine hin.mono ?_); rintro e w4 ⟨rfl, hb4⟩; have H4 := Lib.hid (And.intro (below_on H3.out.2.2.2.1 hb4) (H3.out.2.2.1.on hb4)); clear hin hb4)
              go_roundg (na - i)
              case measure => omega
              case rel => exact ⟨i + 1, _, _, _, hvs, has', mb, by go_num, by omega, by omega, rfl, rfl, H3.out.1, H3.out.2.1, H4.out.2, H4.out.1, H3.out.2.2.2.2.1, H3.out.2.2.2.2.2.1, HKP.out (.inl (inP_iff.1 HX.out.2.2.2))⟩
          · have hie : na = i := by omega
            subst hie
            go_wp2_with fail
            go_roundg (na - m)
            case measure => omega
            case rel => exact ⟨_, _, _, hvs, has', mb, rfl, rfl, H3.out.1, H3.out.2.1, H3.out.2.2.1, H3.out.2.2.2.1, fun h => by have := H3.out.2.2.2.2.2.1 h; have := H3.out.1; omega, fun hf j hj => H3.out.2.2.2.2.2.2 hf j hj (by rw [HNA.out] at hj; exact hj)⟩
end Go.Proofs.YtmfkkpogmmoflaaGreat
