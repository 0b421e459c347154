/- Not. -/
import Derived.Test.YtffpmmphpdkkbaaGreatMBHO
namespace Go.Proofs.YtffpmmphpdkkbaaGreat
open Go Go.RowKit Go.Proofs

/-- Those below n that P is not. -/
def notP (P : Int → Bool) (n x : Int) : Bool := decide (0 ≤ x ∧ x < n ∧ x < 65536) && !P x
theorem box3 (W : World) (va : Value) : ∃ W3 : World, ((W.alloc (.cells #[va] 70)).alloc (.cells #[.slice none 0 0] 70)).alloc (.cells #[.slice none 0 0] 70) = W3 ∧ Below W.heap.size W W3 ∧
    W3.heap[W.heap.size]? = some (.cells #[va] 70) ∧ W3.heap[W.heap.size + 1]? = some (.cells #[.slice none 0 0] 70) ∧ Mk W3 (W.heap.size + 1 + 1) (.slice none 0 0) [] := by
  refine ⟨_, rfl, ((below_alloc W _).alloc (by simp) _).alloc (by simp; omega) _, ?_, ?_, ?_⟩
  · exact (Below.heap_alloc _ _ _ (by simp; omega)).trans ((Below.heap_alloc _ _ _ (by simp)).trans (heap_alloc_new W _))
  · have := heap_alloc_new (W.alloc (.cells #[va] 70)) (.cells #[.slice none 0 0] 70)
    rw [World.size_alloc] at this
    exact (Below.heap_alloc _ _ _ (by simp)).trans this
  · have := mk_start ((W.alloc (.cells #[va] 70)).alloc (.cells #[.slice none 0 0] 70))
    rw [World.size_alloc, World.size_alloc] at this
    exact this
theorem not_is {la m : List R2} {P : Int → Bool} {n N : Int} (hP : Is la P) (hN : N = min n 65536) (h : ∀ x, mem m x ↔ 0 ≤ x ∧ x < N ∧ ¬ mem la x) : Is m (notP P n) := fun x => by
  have := hP x
  unfold notP
  rw [h, this, Bool.and_eq_true, decide_eq_true_eq, Bool.not_eq_true']
  constructor
  · rintro ⟨a, b, c⟩
    exact ⟨by omega, by simpa using c⟩
  · rintro ⟨⟨a, b, c⟩, d⟩
    exact ⟨a, by omega, by rw [d]; decide⟩

set_option maxRecDepth 100000 in
set_option maxHeartbeats 2000000 in
theorem not_any {la : List R2} {va : Value} {P : Int → Bool} {W : World} (ha : Nrm la) (hva : Mv W va la) (hP : Is la P) (n : Int) :
    Calls Tryz.prog 56 #[.agg #[va], (Value.int .i64 (n))] W (IsMap (notP P n) W) := by
  obtain ⟨W3, hW3, hB, h0, h1, hm⟩ := box3 W va
  have hla := runs_len ha
  obtain ⟨pa, ca, rfl, _, _⟩ := hva.slice
  obtain ⟨S, hS⟩ : ∃ S, W.heap.size = S := ⟨_, rfl⟩
  have HW := Lib.hid (And.intro hva (And.intro hB hS))
  have H0 := Lib.hid (And.intro h0 h1)
  rw [hS] at hm H0
  obtain ⟨na, hna⟩ : ∃ na, la.length = na := ⟨_, rfl⟩
  have HN := Lib.hid (And.intro hna (And.intro ha hP))
  rw [hna] at hla H0
  have HM := Lib.hid hm
  have HW3 := Lib.hid hW3
  clear hva hB h0 h1 hm hW3 hna ha hP hS
  go_enter Tryz.func56, Tryz.ntmps56
  go_upto_region 1 with fail
  go_cut [1] from 200 to 200 (fun nv w => nv = .int .i64 (min n 65536) ∧ w = (W.alloc (.cells #[.slice pa la.length ca] 70)).alloc (.cells #[.slice none 0 0] 70))
  case first =>
    rcases Int.lt_or_le 65536 n with hn | hn
    · go_wp2_with fail
      go_meet
      exact ⟨by congr 1; omega, rfl⟩
    · go_wp2_with fail
      go_meet
      exact ⟨by congr 1; omega, rfl⟩
  case rest =>
    obtain ⟨rfl, rfl⟩ := hcut
    obtain ⟨N, hN⟩ : ∃ N, N = min n 65536 := ⟨_, rfl⟩
    rw [← hN]
    have hN2 : N ≤ 65536 := by omega
    have HNN := Lib.hid hN
    clear hN
    go_upto_block 0 with fail
    rw [HW3.out, HW.out.2.2, HN.out.1]
    clear HW3
    obtain ⟨mb, hmb⟩ : ∃ mb, S + 1 + 1 = mb := ⟨_, rfl⟩
    rw [hmb] at HM ⊢
    have HB := Lib.hid hmb
    clear hmb
    go_wp2_with fail
    go_loopg [6, 14] (na + 1) (fun gh av jv w => ∃ (j : Nat) (at_ : Int) (v : Value) (m : List R2), av = .int .i64 at_ ∧ jv = .int .i64 (j : Int) ∧ j ≤ na ∧ na + 1 ≤ j + gh ∧ NotI la m N j at_ ∧ Mk w mb v m ∧ Below mb W3 w)
    case atStart => exact ⟨0, 0, _, _, rfl, rfl, Nat.zero_le _, by omega, NotI.start HN.out.2.1 N, HM.out, Below.refl _ _⟩
    case round =>
      obtain ⟨j, at_, v, m, rfl, rfl, hj, hg, hI, hM, hBw⟩ := hrel
      have z0 := (hBw.block S (by have := HB.out; omega)).trans H0.out.1
      have c0 := nd_cell z0 0
      have y0 : S < wr.heap.size := lt_of_heap z0
      have hWb : Below W.heap.size W wr := HW.out.2.1.trans (hBw.mono (by rw [HW.out.2.2]; have := HB.out; omega))
      have HR := Lib.hid (And.intro hI (And.intro hM (And.intro hBw (And.intro z0 hWb))))
      clear hI hM hBw z0 hWb
      by_cases hlt : j < na
      · obtain ⟨g, rfl, hg', a0, a1, a2⟩ := (HW.out.1.later HR.out.2.2.2.2).run (j := j) (by rw [HN.out.1]; exact hlt)
        have hja : j < la.length := by rw [HN.out.1]; exact hlt
        have hstep := HR.out.1.step HN.out.2.1 hN2 hja
        obtain ⟨r, hr⟩ : ∃ r, la[j] = r := ⟨_, rfl⟩
        simp only [hr] at a0 a1 hstep
        generalize ((els (la.take j)).length : Int) = ra at a2
        obtain ⟨f1, t1⟩ := r
        have HS := Lib.hid hstep
        clear hstep hr
        have hMc := HR.out.2.1.later (below_alloc wr (.cells #[(Value.int .i64 (f1)), (Value.int .i64 (t1)), (Value.int .i64 (ra))] 112))
        have hadd := fun f t => add_any (f := f) (t := t) HR.out.1.nrm hMc
        have zr := heap_alloc_new wr (.cells #[(Value.int .i64 (f1)), (Value.int .i64 (t1)), (Value.int .i64 (ra))] 112)
        have hown : ∀ q, v.ownBlock = some q → q < wr.heap.size := fun q hq => (HR.out.2.1.2.lt q hq).2
        have hmbw := HR.out.2.1.lt
        have HC := Lib.hid (And.intro hMc (And.intro zr (And.intro hown hmbw)))
        clear hMc zr hown
        go_wp2_with (go_at_call 80; (with_reducible refine (hadd _ _).mono ?_); rintro e x1 ⟨rfl, v1, k1, g1, o1⟩; clear hadd; have yr := (g1.block wr.heap.size (by simp) (fun h => h.elim (fun h => by omega) (fun h => by have := HC.out.2.2.1 _ h; omega))).trans HC.out.2.1; have q0 := nd_cell yr 1; obtain ⟨l1, hl1, k1⟩ : ∃ l1, l1 = addL m at_ (min f1 N) ∧ Mk x1 mb v1 l1 := ⟨_, by congr 1 <;> first | omega | (split <;> omega), k1⟩; subst hl1; have HK := Lib.hid (And.intro k1 g1); clear k1 g1 o1 yr)
        all_goals
          go_roundg (na - j)
          case measure => omega
          case rel =>
            have hBx : Below mb W3 x1 := (HR.out.2.2.1.trans ((below_alloc wr _).mono (by omega))).trans (HC.out.1.below' HK.out.2)
            exact ⟨j + 1, t1, v1, _, rfl, by go_num, by omega, by omega, HS.out, HK.out.1, hBx⟩
      · have hja : la.length ≤ j := by rw [HN.out.1]; omega
        obtain ⟨hf, hn, hx⟩ := HR.out.1.fin hN2 hja
        have hadd := add_any (f := at_) (t := N) HR.out.1.nrm HR.out.2.1
        have z2 := (HR.out.2.2.1.block (S + 1) (by have := HB.out; omega)).trans H0.out.2
        have HX := Lib.hid (And.intro hn (And.intro (not_is HN.out.2.2 HNN.out hx) z2))
        clear hf hn hx z2 c0
        go_wp2_with (go_at_call 80; (with_reducible refine hadd.mono ?_); rintro e x1 ⟨rfl, v1, k1, g1, o1⟩; clear hadd; have kb := (HR.out.2.1.keep g1 (b := S + 1) (by have := HB.out; omega)).trans HX.out.2.2; have z0 := nd_cell kb 0; have zf := frozen_of_row x1 (S + 1) 0 _ _ kb; obtain ⟨p1, n1, cp1, rfl⟩ := k1.slc; have m0 := k1.1.1; have HK := Lib.hid (And.intro k1 g1); clear k1 g1 o1 kb)
        have s0 := World.cell?_setCell_same x1 ⟨S + 1, 0, none⟩ (.slice p1 n1 cp1) z0
        refine bodyPost_ret (v := .agg #[.slice p1 n1 cp1]) (by simp [results, Tryz.results56, go_sem, s0]) rfl ?_
        exact fin_map HK.out.1 (by have := HB.out; omega) HX.out.1 HX.out.2.1 (HR.out.2.1.below HK.out.2 HR.out.2.2.2.2 (by rw [HW.out.2.2]; have := HB.out; omega)) (by rw [HW.out.2.2]; omega)
end Go.Proofs.YtffpmmphpdkkbaaGreat
