/- addKeyed, holds. -/
import Derived.Test.YtmfkkpogmmoflaaGreatVE
import Derived.Test.YtmfkkpogmmoflaaGreatPar
namespace Go.Proofs.YtmfkkpogmmoflaaGreat
open Go Go.RowKit Go.Proofs

section
variable {W : World} {kb : Nat} {pv : Value} {tb : ByteArray} {qs ss : List (List ByteArray)} {w w' : World} {a : List ByteArray} {va cv dv lv : Value} {t : T}
set_option maxRecDepth 100000 in
set_option maxHeartbeats 4000000 in
theorem kkeyed_any (h : KN W kb pv tb qs ss w) (hT : KT w cv dv t) (ha : Wd w va a) (hl : a.length ≤ 4) (hf : FewQ qs) : Calls Tryz.prog 48 #[(Value.pointer (some ⟨kb, 0, none⟩)), va, .agg #[.string t.nm, cv, .string t.key, dv]] w fun e w' => e = .returned (.tuple #[]) ∧ KN W kb pv tb qs (keyedW qs ss a t) w' ∧ Kc w w' := by
  obtain ⟨pa, ca, rfl, _, _⟩ := ha.slice
  obtain ⟨pc, kc, rfl, hc1, hc2⟩ := hT.rd.1.slice
  obtain ⟨pd, kd, rfl, hd1, hd2⟩ := hT.rd.2.slice
  have hb0 := below_alloc w (boxT t.nm (.slice pc t.cols.length kc) t.key (.slice pd t.deps.length kd))
  have hx0 := heap_alloc_new w (boxT t.nm (.slice pc t.cols.length kc) t.key (.slice pd t.deps.length kd))
  have hcols := kcols_any (h.on hb0) (hT.later hb0) (ha.later hb0) hl hf
  have hadd := kadd_any (h.on hb0) (ha.later hb0) hf
  obtain ⟨S, hS⟩ : ∃ x, w.heap.size = x := ⟨_, rfl⟩
  obtain ⟨w0, hw0⟩ : ∃ x, w.alloc (boxT t.nm (.slice pc t.cols.length kc) t.key (.slice pd t.deps.length kd)) = x := ⟨_, rfl⟩
  have HW := Lib.hid (And.intro hw0 hS)
  have hk0 := Kc.below hb0
  rw [hw0] at hcols hadd hx0 hk0
  rw [hS] at hx0
  have HK := Lib.hid hk0
  unfold keyedW
  obtain ⟨nm, hnm⟩ : ∃ x, t.nm = x := ⟨_, rfl⟩
  obtain ⟨key, hkey⟩ : ∃ x, t.key = x := ⟨_, rfl⟩
  obtain ⟨n, hn⟩ : ∃ x, t.cols.length = x := ⟨_, rfl⟩
  obtain ⟨nd, hnd⟩ : ∃ x, t.deps.length = x := ⟨_, rfl⟩
  obtain ⟨la, hla⟩ : ∃ x, a.length = x := ⟨_, rfl⟩
  rw [hnm, hkey, hn, hnd] at hx0
  rw [hnm, hkey, hn, hnd] at HW
  rw [hnm, hkey, hn, hnd, hla] at hcols
  rw [hla] at hadd
  rw [hnm, hkey, hn, hnd, hla]
  have z0 := nd_cell hx0 0
  have z1 := nd_cell hx0 1
  have z2 := nd_cell hx0 2
  have z3 := nd_cell hx0 3
  have zl := lt_of_heap hx0
  clear h hT ha hf hl hb0 hw0 hS hnm hkey hn hnd hla hc1 hc2 hd1 hd2 hk0 hx0
  go_enter Tryz.func48, Tryz.ntmps48
  go_upto_region 1 with fail
  rw [HW.out.1, HW.out.2]
  by_cases h0 : la = 0
  · subst h0
    go_wp2_with (go_at_call 47; (with_reducible refine hcols.mono ?_); rintro e w5 ⟨rfl, h5, hkc5⟩; have H5 := Lib.hid (And.intro h5 (HK.out.trans hkc5)); clear h5 hkc5 hcols)
    refine bodyPost_ret (v := .tuple #[]) (by simp [results, Tryz.results48, go_sem]) rfl ?_
    exact ⟨rfl, H5.out.1, H5.out.2⟩
  · have hne : ((la : Int) == 0) = false := by rw [beq_eq_false_iff_ne]; omega
    go_wp2_with (go_at_call 31; (with_reducible refine hadd.mono ?_); rintro e w5 ⟨rfl, h5, hkc5⟩; have H5 := Lib.hid (And.intro h5 (HK.out.trans hkc5)); clear h5 hkc5 hadd)
    go_end0
    exact ⟨rfl, H5.out.1, H5.out.2⟩

/-! ### holds -/
theorem grown_set4 (w : World) (g : Nat) (a b c d : Value) : w.grownBy ((((w.setCell ⟨g, 0, none⟩ a).setCell ⟨g, 1, none⟩ b).setCell ⟨g, 2, none⟩ c).setCell ⟨g, 3, none⟩ d) (some g) :=
  ⟨rfl, rfl, rfl, by simp, fun k _ hk => set4_other w g k (fun e => hk (by rw [e])) a b c d⟩
theorem holdsP_all {ts : List T} {left : List ByteArray} (h : ∀ i (hi : i < left.length), (mustP ts t left[i] && inP ss (a ++ [left[i]])) = true) : holdsP ts t ss a left = true := by
  unfold holdsP
  rw [List.all_eq_true]
  intro l hl
  obtain ⟨i, hi, rfl⟩ := List.getElem_of_mem hl
  exact h i hi
theorem holdsP_no {ts : List T} {left : List ByteArray} {i : Nat} (hi : i < left.length) (h : (mustP ts t left[i] && inP ss (a ++ [left[i]])) = false) : holdsP ts t ss a left = false := by
  unfold holdsP
  rw [List.all_eq_false]
  exact ⟨left[i], List.getElem_mem _, by rw [h]; decide⟩
set_option maxRecDepth 100000 in
set_option maxHeartbeats 4000000 in
theorem kholds_any {ts : List T} {left : List ByteArray} {right : ByteArray} {p1 p2 : Option Addr} {n1 c1 n2 c2 : Nat} {key : ByteArray} (h : KN W kb pv tb qs ss w) (hs : SchP W pv ts) (ha : Wd w va a) (hl : a.length ≤ 4) (hd : Wd w lv left) (hf : FewQ qs) : Calls Tryz.prog 49 #[(Value.pointer (some ⟨kb, 0, none⟩)), va, .agg #[.string t.nm, .slice p1 n1 c1, .string key, .slice p2 n2 c2], .agg #[lv, .string right]] w fun e w' => e = .returned (.bool (holdsP ts t ss a left)) ∧ Below w.heap.size w w' := by
  obtain ⟨pa, ca, rfl, _, _⟩ := ha.slice
  obtain ⟨pl, cl, rfl, hl1, hl2⟩ := hd.slice
  obtain ⟨nm, hnm⟩ : ∃ x, t.nm = x := ⟨_, rfl⟩
  obtain ⟨n, hn⟩ : ∃ x, left.length = x := ⟨_, rfl⟩
  obtain ⟨la, hla⟩ : ∃ x, a.length = x := ⟨_, rfl⟩
  have hb0 := below_on (below_alloc w (boxT nm (.slice p1 n1 c1) key (.slice p2 n2 c2))) (below_alloc _ (.cells #[.slice pl n cl, .string right] 70))
  have hx0 := alloc_old (u := .cells #[.slice pl n cl, .string right] 70) (heap_alloc_new w (boxT nm (.slice p1 n1 c1) key (.slice p2 n2 c2)))
  have hx1 := heap_alloc_new (w.alloc (boxT nm (.slice p1 n1 c1) key (.slice p2 n2 c2))) (.cells #[.slice pl n cl, .string right] 70)
  rw [World.size_alloc] at hx1
  obtain ⟨S, hS⟩ : ∃ x, w.heap.size = x := ⟨_, rfl⟩
  obtain ⟨w0, hw0⟩ : ∃ x, (w.alloc (boxT nm (.slice p1 n1 c1) key (.slice p2 n2 c2))).alloc (.cells #[.slice pl n cl, .string right] 70) = x := ⟨_, rfl⟩
  have hh := h.on hb0
  have hha := ha.later hb0
  have hhd := hd.later hb0
  rw [hw0] at hb0 hx0 hx1 hh hha hhd
  rw [hS] at hx0 hx1
  have HW := Lib.hid (And.intro hw0 hS)
  rw [hla] at hha
  rw [hn] at hhd hl1
  rw [hnm, hn, hla]
  unfold maxLen at hl2
  obtain ⟨av, avs, iv, sv, svs, hki⟩ := hh.ki
  have H0 := Lib.hid (And.intro hh (And.intro hha (And.intro hhd (And.intro hb0 (And.intro hx0 hki.box)))))
  obtain ⟨r, hr⟩ : ∃ r, holdsP ts t ss a left = r := ⟨_, rfl⟩
  rw [hr]
  have HN := Lib.hid (And.intro hn (And.intro hla (And.intro hl (And.intro hf (And.intro hs (And.intro hnm hr))))))
  have u0 := nd_cell hx1 0
  have ul := lt_of_heap hx1
  clear h hs ha hd hf hl hb0 hx0 hx1 hw0 hS hh hha hhd hnm hn hla hki hr
  go_enter Tryz.func49, Tryz.ntmps49
  go_upto_region 1 with fail
  rw [HW.out.1, HW.out.2]
  go_wp2_with fail
  go_loopg [16] (n + 1) (fun gh jv w => ∃ (j : Nat), jv = .int .i64 (j : Int) ∧ j ≤ n ∧ n + 1 ≤ j + gh ∧ (∀ i (hi : i < left.length), i < j → (mustP ts t left[i] && inP ss (a ++ [left[i]])) = true) ∧ Below w0.heap.size w0 w)
  case atStart => exact ⟨0, rfl, Nat.zero_le _, by omega, fun i _ hi => by omega, Below.refl _ _⟩
  case round =>
    obtain ⟨j, rfl, hj, hg, hall, hB⟩ := hrel
    have HI := Lib.hid (And.intro hall hB)
    clear hall u0 ul
    by_cases hlt : j < n
    · have hjl : j < left.length := by rw [HN.out.1]; exact hlt
      obtain ⟨bl, ol, rfl, hbl, hcw⟩ := Wd.word (H0.out.2.2.1.later hB) hjl
      obtain ⟨x, hx⟩ : ∃ x, left[j] = x := ⟨_, rfl⟩
      rw [hx] at hcw
      obtain ⟨c, hc⟩ : ∃ c, orC (colOf (orT (findT ts nm)).cols x) = c := ⟨_, rfl⟩
      obtain ⟨ok, hok⟩ : ∃ ok, hasC (orT (findT ts nm)).cols x = ok := ⟨_, rfl⟩
      have hmust : mustP ts t x = c.mu := by
        unfold mustP
        rw [HN.out.2.2.2.2.2.1, hc]
      have hcol : ∀ w, Below w0.heap.size w0 w → Calls Tryz.prog 67 #[pv, .string nm, .string x] w fun e w' => e = .returned (.tuple #[.agg #[.string c.nm, .int .i64 c.kd, .bool c.mu, .string c.tgt], .bool ok]) ∧ Below w.heap.size w w' := fun w hb => by
        have := sCol_any (x := nm) (c := x) (HN.out.2.2.2.2.1.later ((H0.out.1.on hb).below))
        rw [hc, hok] at this
        exact this
      have HC := Lib.hid (And.intro hcol (And.intro hmust (And.intro hx hjl)))
      have hji : (j : Int) < (n : Int) := by omega
      clear hx hc hok hmust hcol hbl
      go_upto_region 4 with fail
      refine Par.wp_region_box 14 11 12 9 (w0.heap.size) 54 (#[.string e0, .int .i64 0, .bool false, .string e0]) (Par.aggC) (fun w => Below w0.heap.size w0 w) (Par.VBL [(.eq (Value.pointer (some ⟨kb, 0, none⟩))), (.eq (Value.pointer (some ⟨kb, 0, none⟩))), (.eq (Value.pointer (some ⟨kb, 0, none⟩))), (.eq pv), (.eq (Value.pointer (some ⟨S, 0, none⟩))), (.eq (.string nm)), (.eq (.string x)), (.eq (.tuple #[.agg #[.string c.nm, .int .i64 c.kd, .bool c.mu, .string c.tgt], .bool ok])), (.eq (.tuple #[.agg #[.string c.nm, .int .i64 c.kd, .bool c.mu, .string c.tgt], .bool ok])), (.eq (.agg #[.string c.nm, .int .i64 c.kd, .bool c.mu, .string c.tgt])), (.eq (.bool ok)), (.any), (.any), (.eq (.bool ok))]) ?A1 ?hm1 ?hB1 (fun w w' h ht => h.trans ht.below) (Par.VBL.mono _) (fun w h => h.size) ?hA1 ((HI.out.2.trans ((below_drew wr).mono HI.out.2.size))) (by decide) (by decide) (by decide) (by kernel_rfl) (by kernel_rfl) (by decide) ?hop1 ?hT1
      case hm1 => kernel_rfl
      case hB1 => kernel_rfl
      case hA1 =>
        intro vs
        simp only [Par.putA, Par.dstAt, Act.put, List.getElem?_toArray, List.getElem?_cons_zero, List.getElem?_cons_succ, Option.bind_some, List.setIfInBounds_toArray, List.set_cons_zero, List.set_cons_succ]
        rfl
      case hop1 =>
        have hkd : (List.range 14).map (Par.kdOf 11 12) = [.val, .val, .val, .val, .val, .val, .val, .val, .val, .val, .val, .new, .put, .val] := rfl
        simp only [hkd, List.take_succ_cons, List.take_zero, Par.GiveAllB, and_true]
        refine ⟨fun vs w hK hd => ?_, fun vs w hK hd => ?_, fun vs w hK hd => ?_, fun vs w hK hd => ?_, fun vs w hK hd => ?_, fun vs w hK hd => ?_, fun vs w hK hd => ?_, fun vs w hK hd => ?_, fun vs w hK hd => ?_, fun vs w hK hd => ?_, fun vs w hK hd => ?_, fun vs w hK => ?_, fun vs w g hK hd a hz => ?_, fun vs w hK hd => ?_⟩
        · clear hd
          simp only [Par.GivesW]
          go_simp
          all_goals exact ⟨rfl, Below.refl _ _⟩
        · have d0 := hd 0 (by decide) (by decide) (by decide) (by kernel_rfl)
          replace d0 : vs 0 = (Value.pointer (some ⟨kb, 0, none⟩)) := d0
          clear hd
          simp only [Par.GivesW, d0]
          go_simp
          all_goals exact ⟨rfl, Below.refl _ _⟩
        · have d1 := hd 1 (by decide) (by decide) (by decide) (by kernel_rfl)
          replace d1 : vs 1 = (Value.pointer (some ⟨kb, 0, none⟩)) := d1
          clear hd
          simp only [Par.GivesW, d1]
          go_simp
          all_goals exact ⟨rfl, Below.refl _ _⟩
        · have d2 := hd 2 (by decide) (by decide) (by decide) (by kernel_rfl)
          replace d2 : vs 2 = (Value.pointer (some ⟨kb, 0, none⟩)) := d2
          have k := nd_cell (heap_on hK H0.out.2.2.2.2.2) 0
          clear hd
          simp only [Par.GivesW, d2]
          go_simp
          all_goals exact ⟨rfl, Below.refl _ _⟩
        · clear hd
          simp only [Par.GivesW]
          go_simp
          all_goals exact ⟨rfl, Below.refl _ _⟩
        · have d4 := hd 4 (by decide) (by decide) (by decide) (by kernel_rfl)
          replace d4 : vs 4 = (Value.pointer (some ⟨S, 0, none⟩)) := d4
          have k := nd_cell (heap_on hK H0.out.2.2.2.2.1) 0
          clear hd
          simp only [Par.GivesW, d4]
          go_simp
          all_goals exact ⟨rfl, Below.refl _ _⟩
        · clear hd
          simp only [Par.GivesW]
          go_simp
          all_goals exact ⟨rfl, Below.refl _ _⟩
        · have d3 := hd 3 (by decide) (by decide) (by decide) (by kernel_rfl)
          replace d3 : vs 3 = pv := d3
          have d5 := hd 5 (by decide) (by decide) (by decide) (by kernel_rfl)
          replace d5 : vs 5 = (.string nm) := d5
          have d6 := hd 6 (by decide) (by decide) (by decide) (by kernel_rfl)
          replace d6 : vs 6 = (.string x) := d6
          clear hd
          simp only [Par.GivesW, d3, d5, d6]
          go_simp
          exact (HC.out.1 w hK).mono (fun e w'' h => ⟨_, h.1, ⟨rfl, h.2⟩⟩)
        · have d7 := hd 7 (by decide) (by decide) (by decide) (by kernel_rfl)
          replace d7 : vs 7 = (.tuple #[.agg #[.string c.nm, .int .i64 c.kd, .bool c.mu, .string c.tgt], .bool ok]) := d7
          clear hd
          simp only [Par.GivesW, d7]
          go_simp
          all_goals exact ⟨rfl, Below.refl _ _⟩
        · have d8 := hd 8 (by decide) (by decide) (by decide) (by kernel_rfl)
          replace d8 : vs 8 = (.tuple #[.agg #[.string c.nm, .int .i64 c.kd, .bool c.mu, .string c.tgt], .bool ok]) := d8
          clear hd
          simp only [Par.GivesW, d8]
          go_simp
          all_goals exact ⟨rfl, Below.refl _ _⟩
        · have d8 := hd 8 (by decide) (by decide) (by decide) (by kernel_rfl)
          replace d8 : vs 8 = (.tuple #[.agg #[.string c.nm, .int .i64 c.kd, .bool c.mu, .string c.tgt], .bool ok]) := d8
          clear hd
          simp only [Par.GivesW, d8]
          go_simp
          all_goals exact ⟨rfl, Below.refl _ _⟩
        · clear hK
          simp only [Par.GivesW]
          go_simp
          all_goals exact ⟨rfl, rfl⟩
        · have d9 := hd 9 (by decide) (by decide) (by decide) (by kernel_rfl)
          replace d9 : vs 9 = (.agg #[.string c.nm, .int .i64 c.kd, .bool c.mu, .string c.tgt]) := d9
          have z0 := nd_cell hz 0
          have z1 := nd_cell hz 1
          have z2 := nd_cell hz 2
          have z3 := nd_cell hz 3
          have zf := fun i => frozen_of_row w g i _ _ hz
          have zl := lt_of_heap hz
          have HZ := Lib.hid hz
          clear hK hd hz
          simp only [Par.GivesW, a, d9]
          go_simp
          exact ⟨grown_set4 w g _ _ _ _, set4 HZ.out _ _ _ _⟩
        · have d10 := hd 10 (by decide) (by decide) (by decide) (by kernel_rfl)
          replace d10 : vs 10 = (.bool ok) := d10
          clear hd
          simp only [Par.GivesW, d10]
          go_simp
          all_goals exact ⟨rfl, Below.refl _ _⟩
      case hT1 =>
        intro vs w' g hK hV a hBg hz
        simp only [List.drop_succ_cons, List.drop_nil]
        have d0 := hV 0 (by decide) (by decide) (by decide)
        replace d0 : vs 0 = (Value.pointer (some ⟨kb, 0, none⟩)) := d0
        have d1 := hV 1 (by decide) (by decide) (by decide)
        replace d1 : vs 1 = (Value.pointer (some ⟨kb, 0, none⟩)) := d1
        have d2 := hV 2 (by decide) (by decide) (by decide)
        replace d2 : vs 2 = (Value.pointer (some ⟨kb, 0, none⟩)) := d2
        have d3 := hV 3 (by decide) (by decide) (by decide)
        replace d3 : vs 3 = pv := d3
        have d4 := hV 4 (by decide) (by decide) (by decide)
        replace d4 : vs 4 = (Value.pointer (some ⟨S, 0, none⟩)) := d4
        have d5 := hV 5 (by decide) (by decide) (by decide)
        replace d5 : vs 5 = (.string nm) := d5
        have d6 := hV 6 (by decide) (by decide) (by decide)
        replace d6 : vs 6 = (.string x) := d6
        have d7 := hV 7 (by decide) (by decide) (by decide)
        replace d7 : vs 7 = (.tuple #[.agg #[.string c.nm, .int .i64 c.kd, .bool c.mu, .string c.tgt], .bool ok]) := d7
        have d8 := hV 8 (by decide) (by decide) (by decide)
        replace d8 : vs 8 = (.tuple #[.agg #[.string c.nm, .int .i64 c.kd, .bool c.mu, .string c.tgt], .bool ok]) := d8
        have d9 := hV 9 (by decide) (by decide) (by decide)
        replace d9 : vs 9 = (.agg #[.string c.nm, .int .i64 c.kd, .bool c.mu, .string c.tgt]) := d9
        have d10 := hV 10 (by decide) (by decide) (by decide)
        replace d10 : vs 10 = (.bool ok) := d10
        have d13 := hV 13 (by decide) (by decide) (by decide)
        replace d13 : vs 13 = (.bool ok) := d13
        clear hV
        rw [d9] at hz
        simp only [a, d0, d1, d2, d3, d4, d5, d6, d7, d8, d9, d10, d13]
        clear a d0 d1 d2 d3 d4 d5 d6 d7 d8 d9 d10 d13
        have hz : w'.heap[g]? = some (.cells #[.string c.nm, .int .i64 c.kd, .bool c.mu, .string c.tgt] 54) := hz
        have HB := Lib.hid (And.intro hK hz)
        have v2 := nd_cell hz 2
        have vl := lt_of_heap hz
        have hKN := H0.out.1.on hK
        have hwa := H0.out.2.1.later hK
        obtain ⟨l2, hl2⟩ : ∃ l2, a ++ [x] = l2 := ⟨_, rfl⟩
        obtain ⟨m2, hm2⟩ : ∃ m2, l2.length = m2 := ⟨_, rfl⟩
        have hstep := kstep_is hwa HN.out.2.2.1 hl2 hm2
        obtain ⟨z, hz2⟩ : ∃ z, inP ss l2 = z := ⟨_, rfl⟩
        have HZ := Lib.hid (And.intro hl2 hz2)
        have HKN := Lib.hid hKN
        clear hK hz hBg hKN hwa hl2 hm2 hz2
        obtain ⟨mu, hmu⟩ : ∃ mu, c.mu = mu := ⟨_, rfl⟩
        have HMU := Lib.hid hmu
        rw [hmu] at v2
        clear hmu
        have hval : (mustP ts t left[j] && inP ss (a ++ [left[j]])) = (mu && z) := by
          rw [HC.out.2.2.1, HC.out.2.1, HMU.out, HZ.out.1, HZ.out.2]
        have HV := Lib.hid hval
        clear hval
        cases mu
        · go_wp2_with fail
          go_ret
          rw [← HN.out.2.2.2.2.2.2, holdsP_no hjl (by rw [HV.out]; rfl)]
          exact ⟨rfl, below_on H0.out.2.2.2.1 HB.out.1⟩
        · cases z
          · go_wp2_with (first
              | (go_at_call 50; (with_reducible refine hstep.mono ?_); rintro e w4 ⟨p4, c4, rfl, h4, hb4⟩; have hhas := khas_any (HKN.out.on hb4) h4 HN.out.2.2.2.1; rw [HZ.out.2] at hhas; have H4 := Lib.hid (below_on HB.out.1 hb4); clear h4 hb4 hstep)
              | (go_at_call 69; (with_reducible refine hhas.mono ?_); rintro e w5 ⟨rfl, hb5⟩; have H5 := Lib.hid (below_on H4.out hb5); clear hb5 hhas))
            go_ret
            rw [← HN.out.2.2.2.2.2.2, holdsP_no hjl (by rw [HV.out]; rfl)]
            exact ⟨rfl, below_on H0.out.2.2.2.1 H5.out⟩
          · go_wp2_with (first
              | (go_at_call 50; (with_reducible refine hstep.mono ?_); rintro e w4 ⟨p4, c4, rfl, h4, hb4⟩; have hhas := khas_any (HKN.out.on hb4) h4 HN.out.2.2.2.1; rw [HZ.out.2] at hhas; have H4 := Lib.hid (below_on HB.out.1 hb4); clear h4 hb4 hstep)
              | (go_at_call 69; (with_reducible refine hhas.mono ?_); rintro e w5 ⟨rfl, hb5⟩; have H5 := Lib.hid (below_on H4.out hb5); clear hb5 hhas))
            go_roundg (n - j)
            case measure => omega
            case rel =>
              refine ⟨j + 1, by go_num, by omega, by omega, fun i hi hij => ?_, H5.out⟩
              by_cases e : i = j
              · subst e; rw [HV.out]; rfl
              · exact HI.out.1 i hi (by omega)
    · obtain rfl : j = n := by omega
      go_wp2_with fail
      go_ret
      have : r = true := by
        rw [← HN.out.2.2.2.2.2.2]
        exact holdsP_all (fun i hi => HI.out.1 i hi (by rw [HN.out.1] at hi; exact hi))
      rw [this]
      exact ⟨rfl, below_on H0.out.2.2.2.1 HI.out.2⟩
end
end Go.Proofs.YtmfkkpogmmoflaaGreat
