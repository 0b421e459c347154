/- Without, Eq. -/
import Derived.Test.YtpdidlnbeahanaaHN
namespace Go.Proofs.Ytpdidlnbeahanaa
open Go Go.RowKit Go.Proofs

theorem box3' (W : World) (va vb : Value) : ∃ W3 : World, ((W.alloc (.cells #[va] 27)).alloc (.cells #[vb] 27)).alloc (.cells #[.slice none 0 0] 27) = W3 ∧ Below W.heap.size W W3 ∧
    W3.heap[W.heap.size]? = some (.cells #[va] 27) ∧ W3.heap[W.heap.size + 1]? = some (.cells #[vb] 27) ∧ W3.heap[W.heap.size + 1 + 1]? = some (.cells #[.slice none 0 0] 27) := by
  refine ⟨_, rfl, ((below_alloc W _).alloc (by simp) _).alloc (by simp; omega) _, ?_, ?_, ?_⟩
  · exact (Below.heap_alloc _ _ _ (by simp; omega)).trans ((Below.heap_alloc _ _ _ (by simp)).trans (heap_alloc_new W _))
  · have := heap_alloc_new (W.alloc (.cells #[va] 27)) (.cells #[vb] 27)
    rw [World.size_alloc] at this
    exact (Below.heap_alloc _ _ _ (by simp)).trans this
  · have := heap_alloc_new ((W.alloc (.cells #[va] 27)).alloc (.cells #[vb] 27)) (.cells #[.slice none 0 0] 27)
    rw [World.size_alloc, World.size_alloc] at this
    exact this
def outP (P Q : Int → Bool) (x : Int) : Bool := P x && !Q x
theorem out_is {l : List R2} {P Q : Int → Bool} (h : Is l (fun x => P x && notP Q 65536 x)) (hb : ∀ x, P x = true → 0 ≤ x ∧ x < 65536) : Is l (outP P Q) := fun x => by
  rw [h x]
  unfold outP notP
  simp only [Bool.and_eq_true, decide_eq_true_eq]
  constructor
  · rintro ⟨a, b, c⟩; exact ⟨a, c⟩
  · rintro ⟨a, c⟩; have := hb x a; exact ⟨a, by omega, c⟩
theorem Is.bd {l : List R2} {P : Int → Bool} (h : Is l P) (hl : Nrm l) : ∀ x, P x = true → 0 ≤ x ∧ x < 65536 := fun x hx => mem_bd hl ((h x).2 hx)

set_option maxRecDepth 100000 in
set_option maxHeartbeats 2000000 in
theorem without_any {la lb : List R2} {va vb : Value} {P Q : Int → Bool} {W : World} (ha : Nrm la) (hb : Nrm lb) (hva : Mv W va la) (hvb : Mv W vb lb) (hP : Is la P) (hQ : Is lb Q) :
    Calls Try.prog 24 #[.agg #[va], .agg #[vb]] W (IsMap (outP P Q) W) := by
  obtain ⟨W3, hW3, hB, h0, h1, h2⟩ := box3' W va vb
  have hnot := fun y (hy : Below W.heap.size W y) => not_any hb (hvb.later hy) hQ 65536
  have hand := fun y (hy : Below W.heap.size W y) v l (hv : Mv y v l) (hl : Nrm l) (hi : Is l (notP Q 65536)) => and_any ha hl (hva.later hy) hv hP hi
  obtain ⟨pa, na, ca, rfl⟩ : ∃ p n c, va = .slice p n c := by obtain ⟨p, c, e, _⟩ := hva.slice; exact ⟨p, _, c, e⟩
  obtain ⟨pb, nb, cb, rfl⟩ : ∃ p n c, vb = .slice p n c := by obtain ⟨p, c, e, _⟩ := hvb.slice; exact ⟨p, _, c, e⟩
  obtain ⟨S, hS⟩ : ∃ S, W.heap.size = S := ⟨_, rfl⟩
  have HW := Lib.hid (And.intro hB (And.intro hS (And.intro h0 (And.intro h1 h2))))
  have HW3 := Lib.hid hW3
  have HP := Lib.hid (hP.bd ha)
  rw [hS] at h0 h1 h2
  have c0 := nd_cell h0 0
  have c1 := nd_cell h1 0
  have y0 : S < W3.heap.size := lt_of_heap h0
  have y1 : S + 1 < W3.heap.size := lt_of_heap h1
  have H2 := Lib.hid h2
  clear hva hvb hB h0 h1 h2 hW3 hS ha hb hP hQ
  go_enter Try.func24, Try.ntmps24
  go_upto_region 1 with fail
  rw [HW3.out, HW.out.2.1]
  clear HW3
  go_region_held3 (fun w => w.cell? ⟨S, 0, none⟩ = some (.slice pa na ca) ∧ w.cell? ⟨S + 1, 0, none⟩ = some (.slice pb nb cb)) (first | exact ⟨c0, c1⟩ | exact ⟨bel_cell (W := W3) b1 c0, bel_cell (W := W3) b1 c1⟩ | exact ⟨bel_cell (W := W3) b2 c0, bel_cell (W := W3) b2 c1⟩ | exact ⟨(World.cell?_setCell_other _ _ _ _ (by simp)).trans (bel_cell (W := W3) b2 c0), (World.cell?_setCell_other _ _ _ _ (by simp)).trans (bel_cell (W := W3) b2 c1)⟩) (first
    | (go_at_call 26; (with_reducible refine (hnot _ (HW.out.1.trans (Below.refl _ W3).drew)).mono ?_); rintro e x1 ⟨v1, l1, rfl, m1, n1, i1, b1⟩; have b1 : Below W3.heap.size W3 x1 := (Below.refl _ W3).drew.trans b1; have hand := hand x1 (below_on HW.out.1 b1) v1 l1 m1 n1 i1)
    | (go_at_call 22; (with_reducible refine hand.mono ?_); rintro e x2 ⟨v2, l2, rfl, m2, n2, i2, b2⟩; have b2 : Below W3.heap.size W3 x2 := below_on b1 b2; obtain ⟨p2, c2, rfl, _, _⟩ := HRow.isslice m2; have k2 := heap_below b2 H2.out; have z2 := nd_cell k2 0; have f2 := frozen_of_row x2 (S + 1 + 1) 0 _ _ k2; have K2 := Lib.hid k2; clear k2))
  have s0 := World.cell?_setCell_same x2 ⟨S + 1 + 1, 0, none⟩ (.slice p2 l2.length c2) z2
  have HE : Hid (IsMap (outP P Q) W (.returned (.agg #[.slice p2 l2.length c2])) (x2.setCell ⟨S + 1 + 1, 0, none⟩ (.slice p2 l2.length c2))) := Lib.hid ⟨_, l2, rfl, HRow.of m2 (fun k hk => Below.heap_setCell _ _ _ _ (fun e => by
    obtain ⟨_, cur, hh⟩ := HRow.block m2 k hk
    have e : k = S + 1 + 1 := e
    rw [e, K2.out] at hh
    cases hh)), n2, out_is i2 HP.out, (below_on HW.out.1 b2).setCell (by rw [HW.out.2.1]; simp; omega) _⟩
  go_wp2_with fail
  refine bodyPost_ret (v := .agg #[.slice p2 l2.length c2]) (by simp [results, Try.results24, go_sem, s0]) rfl ?_
  exact HE.out

/-! ### Eq -/
theorem neq56 (w : World) (f t c f' t' c' : Int) : (binOp .neq 56 (Value.agg #[Value.int .i64 (f), Value.int .i64 (t), Value.int .i64 (c)]) (Value.agg #[Value.int .i64 (f'), Value.int .i64 (t'), Value.int .i64 (c')])).run Try.prog w = .ok (.bool (!(f == f' && (t == t' && c == c')))) w := by
  have hp : Try.prog.stoodInHeld 56 = false := by kernel_rfl
  have hf : Try.prog.underlying 56 = some (.struct (Try.prog.fieldsOf 56)) := by kernel_rfl
  have u3 := Try.underlying3
  rw [run_neq_struct, run_equalIn_agg w 9999 56 _ _ hf hp]
  simp [go_sem, Try.underlying56, Op.eqFields, u3]
  by_cases h : f = f' <;> by_cases h1 : t = t' <;> by_cases h2 : c = c' <;> simp [h, h1, h2]
set_option maxRecDepth 100000 in
set_option maxHeartbeats 2000000 in
theorem equal_any {la lb : List R2} {va vb : Value} {W : World} (hva : Mv W va la) (hvb : Mv W vb lb) (hla : la.length ≤ 65536) (hlb : lb.length ≤ 65536) :
    Calls Try.prog 38 #[va, vb] W fun e w' => e = .returned (.bool (decide (la = lb))) ∧ Below W.heap.size W w' := by
  obtain ⟨pa, ca, rfl, _, _⟩ := hva.slice
  obtain ⟨pb, cb, rfl, _, _⟩ := hvb.slice
  have HV := Lib.hid (And.intro hva hvb)
  obtain ⟨na, hna⟩ : ∃ na, la.length = na := ⟨_, rfl⟩
  obtain ⟨nb, hnb⟩ : ∃ nb, lb.length = nb := ⟨_, rfl⟩
  have HN := Lib.hid (And.intro hna hnb)
  rw [hna] at hla
  rw [hnb] at hlb
  simp only [hna, hnb]
  obtain ⟨b, hb⟩ : ∃ b, decide (la = lb) = b := ⟨_, rfl⟩
  rw [hb]
  have HB := Lib.hid hb
  clear hva hvb hna hnb hb
  by_cases hne : na = nb
  · subst hne
    have hbe : ((na : Int) != (na : Int)) = false := by simp
    go_enter Try.func38, Try.ntmps38
    go_upto_block 0 with fail
    go_wp2_with fail
    go_loopg [13] (na + 1) (fun gh jv w => ∃ j : Nat, jv = .int .i64 (j : Int) ∧ j ≤ na ∧ na + 1 ≤ j + gh ∧ la.take j = lb.take j ∧ Below W.heap.size W w)
    case atStart => exact ⟨0, rfl, Nat.zero_le _, by omega, rfl, Below.refl _ _⟩
    case round =>
      obtain ⟨j, rfl, hj, hg, htk, hBw⟩ := hrel
      have HR := Lib.hid (And.intro htk hBw)
      clear htk hBw
      by_cases hlt : j < na
      · have hja : j < la.length := by rw [HN.out.1]; exact hlt
        have hjb : j < lb.length := by rw [HN.out.2]; exact hlt
        obtain ⟨ga, rfl, hga, a0, a1, a2⟩ := (HV.out.1.later HR.out.2).run hja
        obtain ⟨gb, rfl, hgb, b0, b1, b2⟩ := (HV.out.2.later HR.out.2).run hjb
        rw [← HR.out.1] at b2
        generalize ((els (la.take j)).length : Int) = c at a2 b2
        obtain ⟨r, hr⟩ : ∃ r, la[j] = r := ⟨_, rfl⟩
        obtain ⟨s, hs⟩ : ∃ s, lb[j] = s := ⟨_, rfl⟩
        rw [hr] at a0 a1
        rw [hs] at b0 b1
        have HE := Lib.hid (And.intro hr hs)
        clear hr hs
        obtain ⟨f1, t1⟩ := r
        obtain ⟨f2, t2⟩ := s
        by_cases he : f1 = f2 ∧ t1 = t2
        · obtain ⟨rfl, rfl⟩ := he
          have hq : ∀ W : World, (binOp .neq 56 (Value.agg #[Value.int .i64 (f1), Value.int .i64 (t1), Value.int .i64 (c)]) (Value.agg #[Value.int .i64 (f1), Value.int .i64 (t1), Value.int .i64 (c)])).run Try.prog W = .ok (.bool false) W := fun W => by rw [neq56]; simp
          go_upto_region 6 with fail
          go_quiet (fail)
          go_wp2_with fail
          go_roundg (na - j)
          case measure => omega
          case rel => exact ⟨j + 1, by go_num, by omega, by omega, by rw [List.take_succ_eq_append_getElem hja, List.take_succ_eq_append_getElem hjb, HR.out.1, HE.out.1, HE.out.2], HR.out.2.trans ((below_drewN wr _).mono HR.out.2.size)⟩
        · have hq : ∀ W : World, (binOp .neq 56 (Value.agg #[Value.int .i64 (f1), Value.int .i64 (t1), Value.int .i64 (c)]) (Value.agg #[Value.int .i64 (f2), Value.int .i64 (t2), Value.int .i64 (c)])).run Try.prog W = .ok (.bool true) W := fun W => by
            rw [neq56]
            have : (f1 == f2 && (t1 == t2 && c == c)) = false := by
              rw [Bool.eq_false_iff]
              intro h
              simp at h
              exact he h
            rw [this]
            rfl
          go_upto_region 6 with fail
          go_quiet (fail)
          go_wp2_with fail
          go_ret
          refine ⟨ret_bool ?_, HR.out.2.trans ((below_drewN wr _).mono HR.out.2.size)⟩
          rw [← HB.out]
          symm
          refine decide_eq_false (fun h => he ?_)
          subst h
          have e := HE.out.1.symm.trans HE.out.2
          cases e
          exact ⟨rfl, rfl⟩
      · have hd : ¬ (j : Int) < (na : Int) := by omega
        go_wp2_with fail
        go_ret
        refine ⟨ret_bool ?_, HR.out.2⟩
        rw [← HB.out]
        symm
        have e := HR.out.1
        rw [List.take_of_length_le (by rw [HN.out.1]; omega), List.take_of_length_le (by rw [HN.out.2]; omega)] at e
        exact decide_eq_true e
  · have hd : ((na : Int) != (nb : Int)) = true := by simp; omega
    have hd' : ¬ ((na : Int) = (nb : Int)) := by omega
    go_enter Try.func38, Try.ntmps38
    go_wp2_with fail
    go_ret
    exact ⟨ret_bool (by rw [← HB.out]; symm; exact decide_eq_false (fun h => hne (by rw [← HN.out.1, ← HN.out.2, h]))), Below.refl _ _⟩

set_option maxRecDepth 100000 in
set_option maxHeartbeats 1000000 in
theorem eq_runs {la lb : List R2} {va vb : Value} {W : World} (ha : Nrm la) (hb : Nrm lb) (hva : Mv W va la) (hvb : Mv W vb lb) :
    Calls Try.prog 25 #[.agg #[va], .agg #[vb]] W fun e w' => e = .returned (.bool (decide (la = lb))) ∧ Below W.heap.size W w' := by
  have hB : Below W.heap.size W ((W.alloc (.cells #[va] 27)).alloc (.cells #[vb] 27)) := (below_alloc W _).alloc (by simp) _
  have hc := equal_any (hva.later hB) (hvb.later hB) (runs_len ha) (runs_len hb)
  obtain ⟨pa, na, ca, rfl⟩ : ∃ p n c, va = .slice p n c := by obtain ⟨p, c, e, _⟩ := hva.slice; exact ⟨p, _, c, e⟩
  obtain ⟨pb, nb, cb, rfl⟩ : ∃ p n c, vb = .slice p n c := by obtain ⟨p, c, e, _⟩ := hvb.slice; exact ⟨p, _, c, e⟩
  generalize decide (la = lb) = b at hc ⊢
  have HB := Lib.hid hB
  clear hva hvb ha hb hB
  go_enter Try.func25, Try.ntmps25
  go_wp2_with (go_at_call 38; (with_reducible refine hc.mono ?_); rintro e x1 ⟨rfl, b1⟩)
  go_ret
  exact ⟨rfl, below_on HB.out b1⟩
/-- Like sets. -/
theorem eq_any {la lb : List R2} {va vb : Value} {P Q : Int → Bool} {W : World} (ha : Nrm la) (hb : Nrm lb) (hva : Mv W va la) (hvb : Mv W vb lb) (hP : Is la P) (hQ : Is lb Q) (b : Bool) (h : b = true ↔ ∀ x, P x = Q x) :
    Calls Try.prog 25 #[.agg #[va], .agg #[vb]] W fun e w' => e = .returned (.bool b) ∧ Below W.heap.size W w' := by
  have hc := eq_runs ha hb hva hvb
  have e : decide (la = lb) = b := dec_eq (by
    rw [h]
    constructor
    · rintro rfl x
      rw [Bool.eq_iff_iff, ← hP x, ← hQ x]
    · exact fun h => runs_ext ha hb (fun x => by rw [hP x, hQ x, h x]))
  rw [e] at hc
  exact hc
end Go.Proofs.Ytpdidlnbeahanaa
