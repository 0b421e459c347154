/- Closure, Determines. -/
import Derived.Test.YtmfkkpogmmoflaaGreatVG
import Derived.Test.YtmfkkpogmmoflaaGreatPJ
import Derived.Laws.OwnMore
namespace Go.Proofs.YtmfkkpogmmoflaaGreat
open Go Go.RowKit Go.Proofs

theorem all_len {ts : List T} (hN : Nice ts) {tb : ByteArray} {qs : List (List ByteArray)} (h : IsAll ts tb qs) : qs.length ≤ 1554 := by
  have h1 := h.2.length_eq
  have h2 := ways_len hN 4 tb []
  have h3 := manyW_le 4 (by omega)
  omega
theorem IsAll.few {ts : List T} (hN : Nice ts) {tb : ByteArray} {qs : List (List ByteArray)} (h : IsAll ts tb qs) : FewQ qs := ⟨Nat.le_trans (all_len hN h) (by decide), h.1⟩
theorem IsAll.ok {ts : List T} (hN : Nice ts) {tb : ByteArray} {qs : List (List ByteArray)} (h : IsAll ts tb qs) : ∀ p, p ∈ qs ↔ Ok ts tb p := fun p => h.mem hN p
theorem addsW_succ {qs ss ps : List (List ByteArray)} {j : Nat} (h : j < ps.length) : addsW qs ss (ps.take (j + 1)) = addW qs (addsW qs ss (ps.take j)) ps[j] := by
  unfold addsW
  rw [List.take_succ_eq_append_getElem h, List.foldl_append]
  rfl
theorem SchP.ptr {W : World} {pv : Value} {ts : List T} (h : SchP W pv ts) : ∃ q, pv = .pointer q := by
  rcases h with ⟨h, _⟩ | ⟨b, h, _⟩
  · exact ⟨_, h⟩
  · exact ⟨_, h⟩
theorem info4 : (Tryz.prog.info? 4).map (fun i => (i.zero, i.size, i.bytes)) = some (some (.bool false), 1, 1) := by kernel_rfl
/-- None found yet. -/
theorem make_flags (W w : World) (hW : W.heap.size ≤ w.heap.size) (qs : List (List ByteArray)) {n : Nat} (hn : qs.length = n) (hl : n ≤ 2000) : ∃ w', (Instr.makeSlice 61 (.int .i64 (n : Int)) (.int .i64 (n : Int))).run Tryz.prog w = .ok (.slice (some ⟨w.heap.size, 0, none⟩) n n) w' ∧ HRow w' W.heap.size 4 1 (.slice (some ⟨w.heap.size, 0, none⟩) n n) n ((qs.map (inP [])).map Value.bool) ∧ w.grownBy w' none := by
  obtain ⟨i0, hi0, hz0, hz1, hz2⟩ := info_parts info4
  obtain ⟨w', h1, h2, h3⟩ := run_make_full w W.heap.size 61 4 i0 (.bool false) 1 Tryz.underlying61 hi0 hz0 hz1 .i64 .i64 n (by rw [hz2]; omega) (by unfold maxLen; omega) hW
  refine ⟨w', h1, ?_, h3⟩
  have e : (madeCells (Value.bool false).cells (n * 1)).toList = (qs.map (inP [])).map Value.bool := by
    rw [Nat.mul_one]
    show (madeCells #[.bool false] n).toList = _
    rw [toList_madeCells_one]
    apply List.ext_getElem
    · simp [hn]
    · intro i a b
      simp only [List.getElem_replicate, List.getElem_map]
      rfl
  rw [← e]
  exact HRow.of_own h2
theorem KI.start {W w2 w3 : World} {kb : Nat} {pv av iv : Value} {tb : ByteArray} {qs : List (List ByteArray)} {avs : List Value} (hb : w2.heap[kb]? = some (.cells #[pv, .string tb, av, .slice none 0 0, .slice none 0 0] 63)) (hP : PR W.heap.size av avs qs w2) (hkb : W.heap.size ≤ kb) (hB : Below W.heap.size W w2) (hg : w2.grownBy w3 none) (hr : HRow w3 W.heap.size 4 1 iv qs.length ((qs.map (inP [])).map Value.bool)) :
    w3.heap[kb]? = some (.cells #[pv, .string tb, av, .slice none 0 0, .slice none 0 0] 63) ∧ KI W kb pv tb qs av avs iv (qs.map (inP [])) (.slice none 0 0) [] [] (w3.setCell ⟨kb, 3, none⟩ iv) := by
  have hb23 : Below w2.heap.size w2 w3 := ⟨hg.os, hg.tape, hg.output, hg.size, fun k hk => hg.block k hk (by simp)⟩
  have hb3 := heap_on hb23 hb
  have hP3 := hP.on hb23
  have hs : (w3.setCell ⟨kb, 3, none⟩ iv).heap[kb]? = some (.cells #[pv, .string tb, av, iv, .slice none 0 0] 63) := heap_setCell_same w3 kb 3 _ 63 iv hb3
  have ho : ∀ k c e m, w3.heap[k]? = some (Obj.cells c e m) → e ≠ 63 → (w3.setCell ⟨kb, 3, none⟩ iv).heap[k]? = some (Obj.cells c e m) := fun k c e m hk he => by
    rw [heap_setCell_other w3 ⟨kb, 3, none⟩ k _ (fun e2 => by
      rw [e2, hb3] at hk
      cases hk
      exact he rfl)]
    exact hk
  refine ⟨hb3, hs, ⟨hP3.row.of (fun k hk => ?_), fun j x y => (hP3.each j x y).kp (fun k c m hk => ho k c 9 m hk (by decide))⟩, hr.of (fun k hk => ?_), PR.nil _ _, fun k hk => (by cases hk), hkb, (below_on hB hb23).trans (below_set w3 _ _ hkb)⟩
  · obtain ⟨_, cur, hc⟩ := hP3.row.block k hk
    rw [ho k cur 25 _ hc (by decide), hc]
  · obtain ⟨_, cur, hc⟩ := hr.block k hk
    rw [ho k cur 4 _ hc (by decide), hc]
/-- What Closure answers. -/
def ClosOf (ts : List T) (tb : ByteArray) (ps : List (List ByteArray)) (W : World) (e : Ending) (w' : World) : Prop := ∃ p m c vs ls, e = .returned (.slice p m c) ∧ m = ls.length ∧ ls.length ≤ 2000 ∧ IsCl ts tb ps ls ∧ PR W.heap.size (.slice p m c) vs ls w' ∧ Below W.heap.size W w'
set_option maxRecDepth 100000 in
set_option maxHeartbeats 8000000 in
theorem kclos_any {ts : List T} {pv fv : Value} {tb : ByteArray} {ps : List (List ByteArray)} {fvs : List Value} {W : World} (hF : AllFew ts) (hN : Fine ts) (hs : SchP W pv ts) (hfr : RdW W fv ps fvs) : Calls Tryz.prog 13 #[pv, .string tb, fv] W (ClosOf ts tb ps W) := by
  obtain ⟨pq, rfl⟩ : ∃ q, pv = .pointer q := hs.ptr
  have hall := pall_any (tb := tb) hF hN.nice hs
  obtain ⟨pf, cf, rfl, hcf, hmf⟩ := hfr.sl
  obtain ⟨nf, hnf⟩ : ∃ x, ps.length = x := ⟨_, rfl⟩
  rw [hnf] at hcf hfr ⊢
  have H0 := Lib.hid (And.intro hF (And.intro hN (And.intro hs (And.intro hfr hnf))))
  unfold maxLen at hmf
  clear hF hN hs hfr hnf
  go_enter Tryz.func13, Tryz.ntmps13
  go_upto_region 2 with (go_at_call 30; (with_reducible refine hall.mono ?_); rintro e w1 ⟨pa, na, ca, avs, qs, rfl, hna, hA, hP, hb⟩)
  obtain ⟨n, hn⟩ : ∃ x, qs.length = x := ⟨_, rfl⟩
  have hfew := hA.few H0.out.2.1.nice
  have hok := hA.ok H0.out.2.1.nice
  have hx := heap_alloc_new w1 (.cells #[.pointer pq, .string tb, .slice pa na ca, .slice none 0 0, .slice none 0 0] 63)
  have hb2 := below_on hb (below_alloc w1 (.cells #[.pointer pq, .string tb, .slice pa na ca, .slice none 0 0, .slice none 0 0] 63))
  have hP2 := hP.on (below_alloc w1 (.cells #[.pointer pq, .string tb, .slice pa na ca, .slice none 0 0, .slice none 0 0] 63))
  have hkb := hb.size
  obtain ⟨kb, hkbe⟩ : ∃ x, w1.heap.size = x := ⟨_, rfl⟩
  obtain ⟨w2, hw2⟩ : ∃ x, w1.alloc (.cells #[.pointer pq, .string tb, .slice pa na ca, .slice none 0 0, .slice none 0 0] 63) = x := ⟨_, rfl⟩
  rw [hn] at hna ⊢
  subst hna
  rw [hkbe, hw2] at hx
  rw [hw2] at hb2 hP2
  rw [hkbe] at hkb
  rw [hkbe, hw2]
  obtain ⟨w3, hmk, hr3, hg3⟩ := make_flags W w2 hb2.size qs hn (by rw [← hn]; exact hfew.len)
  obtain ⟨hx3, hki⟩ := KI.start hx hP2 hkb hb2 hg3 (by rw [hn]; exact hr3)
  obtain ⟨g3, hg3e⟩ : ∃ x, w2.heap.size = x := ⟨_, rfl⟩
  rw [hg3e] at hmk hki
  have z2 := nd_cell hx 2
  have zl := lt_of_heap hx
  have y3 := nd_cell hx3 3
  have yf := frozen_of_row w3 kb 3 _ _ hx3
  have yl := lt_of_heap hx3
  obtain ⟨w4, hw4⟩ : ∃ x, w3.setCell ⟨kb, 3, none⟩ (.slice (some ⟨g3, 0, none⟩) na na) = x := ⟨_, rfl⟩
  have HW4 := Lib.hid hw4
  rw [hw4] at hki
  have hkn : KN W kb (.pointer pq) tb qs [] w4 := ⟨⟨_, _, _, _, _, hki⟩, fun x hx => (by cases hx), List.nodup_nil⟩
  have H1 := Lib.hid (And.intro hkn (And.intro hfew (And.intro hok hn)))
  have hcls := Cls.start H0.out.2.1 hok ps
  have HC := Lib.hid hcls
  clear hA hP hb hn hfew hok hx hb2 hP2 hkb hkbe hw2 hr3 hg3 hx3 hki hg3e hw4 hkn hcls
  go_upto_region 3 with fail
  rw [HW4.out]
  clear z2 zl y3 yf yl hmk
  go_upto_block 0 with fail
  go_cut [] from 300 to 300 (fun wx => KN W kb (.pointer pq) tb qs (addsW qs [] ps) wx)
  case first =>
    go_wp2_with fail
    go_loopg [24] (nf + 1) (fun gh jv w => ∃ (j : Nat), jv = .int .i64 (j : Int) ∧ j ≤ nf ∧ nf + 1 ≤ j + gh ∧ KN W kb (.pointer pq) tb qs (addsW qs [] (ps.take j)) w)
    case atStart => exact ⟨0, rfl, Nat.zero_le _, by omega, H1.out.1⟩
    case round =>
      obtain ⟨j, rfl, hj, hg, hK⟩ := hrel
      have HK := Lib.hid hK
      by_cases hlt : j < nf
      · have hjl : j < ps.length := by rw [H0.out.2.2.2.2]; exact hlt
        have hrd := H0.out.2.2.2.1.later hK.below
        have hjv : j < fvs.length := by rw [hrd.n]; exact hjl
        obtain ⟨g, o, n', c', e1, hgl, hcell⟩ := hrd.cell j hjv
        obtain ⟨rfl, -, -⟩ := Value.slice.inj e1
        have hw := hrd.each j hjv hjl
        obtain ⟨x, hx⟩ : ∃ x, fvs[j] = x := ⟨_, rfl⟩
        rw [hx] at hcell hw
        obtain ⟨px, cx, rfl, -, -⟩ := hw.slice
        have hadd := kadd_any hK hw H1.out.2.1
        have hsucc := addsW_succ (qs := qs) (ss := []) hjl
        obtain ⟨mx, hmx⟩ : ∃ m, ps[j].length = m := ⟨_, rfl⟩
        rw [hmx] at hcell hadd
        rw [← hsucc] at hadd
        have hji : (j : Int) < (nf : Int) := by omega
        clear hK hrd e1 hw hx hmx hsucc hjv hjl
        go_wp2_with (go_at_call 31; (with_reducible refine hadd.mono ?_); rintro e w5 ⟨rfl, h5, hkc5⟩; have H5 := Lib.hid h5; clear h5 hkc5 hadd)
        go_roundg (nf - j)
        case measure => omega
        case rel => exact ⟨j + 1, by go_num, by omega, by omega, H5.out⟩
      · obtain rfl : j = nf := by omega
        go_wp2_with fail
        go_meet
        have e : ps.take j = ps := List.take_of_length_le (by rw [H0.out.2.2.2.2]; exact Nat.le_refl _)
        rw [e] at HK
        exact HK.out
  case rest =>
    have H2 := Lib.hid hcut
    clear hcut
    go_wp2_with fail
    go_loopg [10] (na + 1) (fun gh iv w => ∃ (i : Nat) (ss : List (List ByteArray)), iv = .int .i64 (i : Int) ∧ i ≤ ss.length ∧ na + 1 ≤ i + gh ∧ Cls ts tb qs (· ∈ ps) i ss ∧ KN W kb (.pointer pq) tb qs ss w)
    case atStart => exact ⟨0, _, rfl, Nat.zero_le _, by omega, HC.out, H2.out⟩
    case round =>
      obtain ⟨i, ss, rfl, hi, hg, hcl, hK⟩ := hrel
      obtain ⟨av, avs2, iv, sv, svs, hki⟩ := hK.ki
      obtain ⟨p4, c4, rfl, hc1, hc2⟩ := hki.set.row.isslice
      have hmle := hcl.few H1.out.2.2.1
      rw [H1.out.2.2.2] at hmle
      obtain ⟨m, hm⟩ : ∃ m, ss.length = m := ⟨_, rfl⟩
      have z4 := nd_cell hki.box 4
      have zl := lt_of_heap hki.box
      rw [hm] at hi hc1 z4 hmle
      have HK := Lib.hid (And.intro hcl (And.intro hK (And.intro hki hm)))
      have hna : na ≤ 2000 := by have := H1.out.2.1.len; rw [H1.out.2.2.2] at this; exact this
      by_cases hlt : i < m
      · have hil : i < ss.length := by rw [hm]; exact hlt
        obtain ⟨g, c5, e1, _, _⟩ := hki.set.row.slice (by omega)
        obtain ⟨rfl, -, rfl⟩ := Value.slice.inj e1
        obtain ⟨pe, ce, hce, hwe, _⟩ := PR.elem hki.set hil
        have hsl := ((H1.out.2.2.1 _).1 (hK.sub _ (List.getElem_mem hil))).len
        have hfol := kfollow_any H0.out.1 hK (H0.out.2.2.1) hwe hsl.1 hsl.2 H1.out.2.1
        have hst := hcl.step H0.out.2.1 H1.out.2.2.1 hil
        obtain ⟨x, hx⟩ : ∃ x, ss[i] = x := ⟨_, rfl⟩
        rw [hx] at hce hwe hfol hst
        obtain ⟨mx, hmx⟩ : ∃ y, x.length = y := ⟨_, rfl⟩
        rw [hmx] at hce hfol
        have hpre := followW_pre (ts := ts) (tb := tb) (qs := qs) (ss := ss) (p := x)
        have HS := Lib.hid (And.intro hst hpre.length_le)
        have hji : (i : Int) < (m : Int) := by omega
        clear hcl hK hki e1 hwe hx hmx hst hpre hsl hil
        go_wp2_with (go_at_call 32; (with_reducible refine hfol.mono ?_); rintro e w5 ⟨rfl, h5, hkc5⟩; have H5 := Lib.hid h5; clear h5 hkc5 hfol)
        go_roundg (na - i)
        case measure => omega
        case rel => exact ⟨i + 1, _, by go_num, by have := HS.out.2; have := HK.out.2.2.2; omega, by omega, HS.out.1, H5.out⟩
      · obtain rfl : i = m := by omega
        have hsort := sort_any hki.set (by omega) hcl.nodup
        rw [hm] at hsort
        clear hcl hK hki hm
        go_wp2_with (go_at_call 33; (with_reducible refine hsort.mono ?_); rintro e w5 ⟨rfl, us, ls, hP5, hpm, hso, hgr⟩; have hx5 : w5.heap[kb]? = _ := (hgr.block kb zl (fun e => by { obtain ⟨_, cur, hb⟩ := HK.out.2.2.1.set.row.block kb (by rw [HK.out.2.2.2]; exact e.symm); rw [HK.out.2.2.1.box] at hb; cases hb })).trans HK.out.2.2.1.box; have y4 := nd_cell hx5 4; have yl := lt_of_heap hx5; have H5 := Lib.hid (And.intro hP5 (And.intro hpm (And.intro hso hgr))); clear hP5 hpm hso hgr hx5 hsort z4 zl)
        go_ret
        have hlen := H5.out.2.1.length_eq
        have hmm := HK.out.2.2.2
        have hP := H5.out.1
        rw [← hmm] at hP
        refine ⟨_, _, _, us, ls, rfl, by omega, by omega, ⟨H5.out.2.2.1, fun x => ?_⟩, hP, HK.out.2.2.1.below.trans (grown_below H5.out.2.2.2 (fun q hq => (HK.out.2.2.1.set.row.lt q (by rw [hmm]; exact hq)).1) HK.out.2.2.1.below.size)⟩
        rw [H5.out.2.1.mem_iff]
        exact (hmm ▸ HK.out.1).done H1.out.2.2.1 x

/-! ### Determines -/
set_option maxRecDepth 100000 in
set_option maxHeartbeats 4000000 in
theorem kdet_any {ts : List T} {pv fv tv : Value} {tb : ByteArray} {ps : List (List ByteArray)} {p : List ByteArray} {r : Bool} {fvs : List Value} {W : World} (hF : AllFew ts) (hN : Fine ts) (hs : SchP W pv ts) (hfr : RdW W fv ps fvs) (ht : Wd W tv p) (hr : r = true ↔ Cl ts tb (· ∈ ps) p) : Calls Tryz.prog 14 #[pv, .string tb, fv, tv] W fun e w' => e = .returned (.bool r) ∧ Below W.heap.size W w' := by
  have hcl := kclos_any (tb := tb) hF hN hs hfr
  obtain ⟨pf, cf, rfl, hcf, hmf⟩ := hfr.sl
  obtain ⟨nf, hnf⟩ : ∃ x, ps.length = x := ⟨_, rfl⟩
  obtain ⟨pt, ct, rfl, _, _⟩ := ht.slice
  obtain ⟨mt, hmt⟩ : ∃ x, p.length = x := ⟨_, rfl⟩
  rw [hnf] at hcl ⊢
  rw [hmt] at ht ⊢
  have H0 := Lib.hid (And.intro ht hr)
  clear hF hN hs hfr ht hnf hmt hr hcf hmf
  go_enter Tryz.func14, Tryz.ntmps14
  go_wp2_with (first
    | (go_at_call 13; (with_reducible refine hcl.mono ?_); rintro e w1 ⟨p1, m1, c1, vs1, ls1, rfl, hm1, hl1, hI1, hP1, hb1⟩; have e1 : inP ls1 p = r := (by rw [Bool.eq_iff_iff, inP_iff, hI1.2]; exact H0.out.2.symm); have E1 := Lib.hid e1; have hbs := bs_any hP1.rdw (H0.out.1.later hb1) (by omega) hI1.1; have H1 := Lib.hid hb1; clear hcl hl1 hm1 hI1 hP1 hb1 e1)
    | (go_at_call 35; (with_reducible refine hbs.mono ?_); rintro e w2 ⟨i, rfl, h1, h2, hb2⟩; rw [E1.out]; have H2 := Lib.hid (below_on H1.out hb2); clear h1 h2 hb2 hbs))
  go_ret
  exact ⟨rfl, H2.out⟩
end Go.Proofs.YtmfkkpogmmoflaaGreat
