/- And. -/
import Derived.Test.YtpdidlnbeahanaaG
namespace Go.Proofs.Ytpdidlnbeahanaa
open Go Go.RowKit Go.Proofs

/-- What the two boxed Maps, the answer's variable and the Map that is made lie in. -/
theorem box4 (W : World) (va vb : Value) : ∃ W4 : World, (((W.alloc (.cells #[va] 27)).alloc (.cells #[vb] 27)).alloc (.cells #[.slice none 0 0] 27)).alloc (.cells #[.slice none 0 0] 27) = W4 ∧ Below W.heap.size W W4 ∧
    W4.heap[W.heap.size]? = some (.cells #[va] 27) ∧ W4.heap[W.heap.size + 1]? = some (.cells #[vb] 27) ∧ W4.heap[W.heap.size + 1 + 1]? = some (.cells #[.slice none 0 0] 27) ∧ Mk W4 (W.heap.size + 1 + 1 + 1) (.slice none 0 0) [] := by
  refine ⟨_, rfl, (((below_alloc W _).alloc (by simp) _).alloc (by simp; omega) _).alloc (by simp; omega) _, ?_, ?_, ?_, ?_⟩
  · exact (Below.heap_alloc _ _ _ (by simp; omega)).trans ((Below.heap_alloc _ _ _ (by simp; omega)).trans ((Below.heap_alloc _ _ _ (by simp)).trans (heap_alloc_new W _)))
  · have := heap_alloc_new (W.alloc (.cells #[va] 27)) (.cells #[vb] 27)
    rw [World.size_alloc] at this
    exact (Below.heap_alloc _ _ _ (by simp)).trans ((Below.heap_alloc _ _ _ (by simp)).trans this)
  · have := heap_alloc_new ((W.alloc (.cells #[va] 27)).alloc (.cells #[vb] 27)) (.cells #[.slice none 0 0] 27)
    rw [World.size_alloc, World.size_alloc] at this
    exact (Below.heap_alloc _ _ _ (by simp)).trans this
  · have := mk_start (((W.alloc (.cells #[va] 27)).alloc (.cells #[vb] 27)).alloc (.cells #[.slice none 0 0] 27))
    rw [World.size_alloc, World.size_alloc, World.size_alloc] at this
    exact this

theorem Mk.below' {x y : World} {mb : Nat} {v : Value} {l : List R2} (h : Mk x mb v l) (hc : Chg (fun b => b = mb ∨ v.ownBlock = some b) x y) : Below mb x y :=
  hc.below (Nat.le_of_lt h.lt) (fun b hlt hs => by
    rcases hs with rfl | hs
    · omega
    · have := (h.2.lt b hs).1; omega)
theorem new_two (w : World) (o o' : Obj) : ((w.alloc o).alloc o').drew.heap[w.heap.size]? = some o := (Below.heap_alloc _ _ _ (by simp)).trans (heap_alloc_new w o)
theorem new_two' (w : World) (o o' : Obj) : ((w.alloc o).alloc o').drew.heap[w.heap.size + 1]? = some o' := by
  have := heap_alloc_new (w.alloc o) o'
  rw [World.size_alloc] at this
  exact this
set_option maxRecDepth 100000 in
set_option maxHeartbeats 2000000 in
theorem and_any {la lb : List R2} {va vb : Value} {P Q : Int → Bool} {W : World} (ha : Nrm la) (hb : Nrm lb) (hva : Mv W va la) (hvb : Mv W vb lb) (hP : Is la P) (hQ : Is lb Q) :
    Calls Try.prog 22 #[.agg #[va], .agg #[vb]] W (IsMap (fun x => P x && Q x) W) := by
  obtain ⟨W4, hW4, hB, h0, h1, h2, hm⟩ := box4 W va vb
  have hla := runs_len ha
  have hlb := runs_len hb
  obtain ⟨pa, ca, rfl, _, _⟩ := hva.slice
  obtain ⟨pb, cb, rfl, _, _⟩ := hvb.slice
  obtain ⟨S, hS⟩ : ∃ S, W.heap.size = S := ⟨_, rfl⟩
  have HW := Lib.hid (And.intro hva (And.intro hvb (And.intro hB hS)))
  have H0 := Lib.hid (And.intro h0 (And.intro h1 h2))
  rw [hS] at hm H0
  obtain ⟨na, hna⟩ : ∃ na, la.length = na := ⟨_, rfl⟩
  obtain ⟨nb, hnb⟩ : ∃ nb, lb.length = nb := ⟨_, rfl⟩
  have HN := Lib.hid (And.intro hna (And.intro hnb (And.intro ha (And.intro hb (And.intro hP hQ)))))
  rw [hna] at hla H0
  rw [hnb] at hlb H0
  have HM := Lib.hid hm
  have HW4 := Lib.hid hW4
  clear hva hvb hB h0 h1 h2 hm hW4 hna hnb ha hb hP hQ hS
  go_enter Try.func22, Try.ntmps22
  go_upto_block 0 with fail
  rw [HW4.out, HW.out.2.2.2, HN.out.1, HN.out.2.1]
  clear HW4
  obtain ⟨mb, hmb⟩ : ∃ mb, S + 1 + 1 + 1 = mb := ⟨_, rfl⟩
  rw [hmb] at HM ⊢
  have HB := Lib.hid hmb
  clear hmb
  go_wp2_with fail
  go_loopg [6, 7] (na + nb + 1) (fun gh iv kv w => ∃ (i k : Nat) (v : Value) (m : List R2), iv = .int .i64 (i : Int) ∧ kv = .int .i64 (k : Int) ∧ i ≤ na ∧ k ≤ nb ∧ na + nb + 1 ≤ i + k + gh ∧ AndI la lb m i k ∧ Mk w mb v m ∧ Below mb W4 w)
  case atStart => exact ⟨0, 0, _, _, rfl, rfl, Nat.zero_le _, Nat.zero_le _, by omega, AndI.start la lb, HM.out, Below.refl _ _⟩
  case round =>
    obtain ⟨i, k, v, m, rfl, rfl, hi, hk, hg, hI, hM, hBw⟩ := hrel
    have hL := H0.out
    have z0 := (hBw.block S (by have := HB.out; omega)).trans hL.1
    have z1 := (hBw.block (S + 1) (by have := HB.out; omega)).trans hL.2.1
    have c0 := nd_cell z0 0
    have c1 := nd_cell z1 0
    have y0 : S < wr.heap.size := lt_of_heap z0
    have y1 : S + 1 < wr.heap.size := lt_of_heap z1
    have HR := Lib.hid (And.intro hI (And.intro hM (And.intro hBw (And.intro z0 z1))))
    clear hL hM hBw z0 z1
    by_cases hlt : i < na ∧ k < nb
    · obtain ⟨hi1, hk1⟩ := hlt
      have hWb : Below W.heap.size W wr := HW.out.2.2.1.trans (HR.out.2.2.1.mono (by rw [HW.out.2.2.2]; have := HB.out; omega))
      have va := (HW.out.1.later hWb).run (j := i) (by rw [HN.out.1]; exact hi1)
      have vb := (HW.out.2.1.later hWb).run (j := k) (by rw [HN.out.2.1]; exact hk1)
      obtain ⟨ga, rfl, hga, a0, a1, a2⟩ := va
      obtain ⟨gb, rfl, hgb, b0, b1, b2⟩ := vb
      have hia : i < la.length := by rw [HN.out.1]; exact hi1
      have hkb : k < lb.length := by rw [HN.out.2.1]; exact hk1
      have hf := hI.fits HN.out.2.2.1 HN.out.2.2.2.1 hia hkb
      have hleft := hI.left HN.out.2.2.1 HN.out.2.2.2.1 hia hkb
      have hright := hI.right HN.out.2.2.1 HN.out.2.2.2.1 hia hkb
      obtain ⟨r, hr⟩ : ∃ r, la[i] = r := ⟨_, rfl⟩
      obtain ⟨s, hs⟩ : ∃ s, lb[k] = s := ⟨_, rfl⟩
      simp only [hr, hs] at a0 a1 b0 b1 hf hleft hright
      generalize ((els (la.take i)).length : Int) = ra at a2
      generalize ((els (lb.take k)).length : Int) = sa at b2
      obtain ⟨f1, t1⟩ := r
      obtain ⟨f2, t2⟩ := s
      have HI := Lib.hid (And.intro hf (And.intro hleft hright))
      clear hf hleft hright hr hs hia hkb hI
      have c0' : wr.cell? ⟨S, 0, none⟩ = some (.slice (some ⟨ga, 0, none⟩) na ca) := c0
      go_upto_region 4 with fail
      go_cut [8, 9] from 200 to 200 (fun rv sv w => ∃ rb sb : Nat, rv = (Value.pointer (some ⟨rb, 0, none⟩)) ∧ sv = (Value.pointer (some ⟨sb, 0, none⟩)) ∧ wr.heap.size ≤ rb ∧ wr.heap.size ≤ sb ∧ w.heap[rb]? = some (.cells #[(Value.int .i64 (f1)), (Value.int .i64 (t1)), (Value.int .i64 (ra))] 56) ∧ w.heap[sb]? = some (.cells #[(Value.int .i64 (f2)), (Value.int .i64 (t2)), (Value.int .i64 (sa))] 56) ∧ Below wr.heap.size wr w)
      case first =>
        have hS : ∀ w, Below wr.heap.size wr w → w.cell? ⟨S, 0, none⟩ = some (.slice (some ⟨ga, 0, none⟩) na ca) ∧ w.cell? ⟨S + 1, 0, none⟩ = some (.slice (some ⟨gb, 0, none⟩) nb cb) ∧ w.cell? ⟨ga, i * 3, none⟩ = some (Value.int .i64 (f1)) ∧ w.cell? ⟨ga, i * 3 + 1, none⟩ = some (Value.int .i64 (t1)) ∧ w.cell? ⟨ga, i * 3 + 2, none⟩ = some (Value.int .i64 (ra)) ∧ w.cell? ⟨gb, k * 3, none⟩ = some (Value.int .i64 (f2)) ∧ w.cell? ⟨gb, k * 3 + 1, none⟩ = some (Value.int .i64 (t2)) ∧ w.cell? ⟨gb, k * 3 + 2, none⟩ = some (Value.int .i64 (sa)) := fun w hw => ⟨bel_cell hw c0, bel_cell hw c1, bel_cell hw a0, bel_cell hw a1, bel_cell hw a2, bel_cell hw b0, bel_cell hw b1, bel_cell hw b2⟩
        have HS := Lib.hid hS
        clear hS
        go_region_held3 (fun w => w.cell? ⟨S, 0, none⟩ = some (.slice (some ⟨ga, 0, none⟩) na ca) ∧ w.cell? ⟨S + 1, 0, none⟩ = some (.slice (some ⟨gb, 0, none⟩) nb cb) ∧ w.cell? ⟨ga, i * 3, none⟩ = some (Value.int .i64 (f1)) ∧ w.cell? ⟨ga, i * 3 + 1, none⟩ = some (Value.int .i64 (t1)) ∧ w.cell? ⟨ga, i * 3 + 2, none⟩ = some (Value.int .i64 (ra)) ∧ w.cell? ⟨gb, k * 3, none⟩ = some (Value.int .i64 (f2)) ∧ w.cell? ⟨gb, k * 3 + 1, none⟩ = some (Value.int .i64 (t2)) ∧ w.cell? ⟨gb, k * 3 + 2, none⟩ = some (Value.int .i64 (sa))) (first | exact ⟨c0, c1, a0, a1, a2, b0, b1, b2⟩ | exact HS.out _ ((Below.refl _ wr).drew.alloc (by simp) _) | exact HS.out _ (((Below.refl _ wr).drew.alloc (by simp) _).alloc (by simp) _)) (fail)
        · go_wp2_with fail
          go_meet
          exact ⟨_, _, rfl, rfl, by simp, by simp, new_two wr _ _, new_two' wr _ _, ((below_alloc wr _).alloc (by simp) _).drew⟩
        · go_wp2_with fail
          go_meet
          exact ⟨_, _, rfl, rfl, by simp, by simp, new_two' wr _ _, new_two wr _ _, ((below_alloc wr _).alloc (by simp) _).drew⟩
      case rest =>
        obtain ⟨rb, sb, rfl, rfl, hrb, hsb, zr, zs, hBc⟩ := hcut
        have hMc := HR.out.2.1.later hBc
        have hadd := fun f t => add_any (f := f) (t := t) HR.out.1.nrm hMc
        have r0 := nd_cell zr 0
        have r1 := nd_cell zr 1
        have s0 := nd_cell zs 0
        have s1 := nd_cell zs 1
        have hown : ∀ q, v.ownBlock = some q → q < wr.heap.size := fun q hq => (HR.out.2.1.2.lt q hq).2
        have hmbw := HR.out.2.1.lt
        have HC := Lib.hid (And.intro hMc (And.intro hBc (And.intro zr (And.intro zs (And.intro hown hmbw)))))
        clear hMc hBc zr zs hown c0 c1 a0 a1 a2 b0 b1 b2
        by_cases hlt : t1 < t2
        all_goals
          go_wp2_with (go_at_call 32; (with_reducible refine (hadd _ _).mono ?_); rintro e x1 ⟨rfl, v1, k1, g1, o1⟩; clear hadd; have yr := (g1.block rb (lt_of_heap HC.out.2.2.1) (fun h => h.elim (fun h => by omega) (fun h => by have := HC.out.2.2.2.2.1 rb h; omega))).trans HC.out.2.2.1; have ys := (g1.block sb (lt_of_heap HC.out.2.2.2.1) (fun h => h.elim (fun h => by omega) (fun h => by have := HC.out.2.2.2.2.1 sb h; omega))).trans HC.out.2.2.2.1; have q0 := nd_cell yr 1; have q1 := nd_cell ys 1; obtain ⟨l1, hl1, k1⟩ : ∃ l1, l1 = addL m (max f1 f2) (min t1 t2) ∧ Mk x1 mb v1 l1 := ⟨_, by congr 1 <;> first | omega | (split <;> omega), k1⟩; subst hl1; have HK := Lib.hid (And.intro k1 g1); clear k1 g1 o1 yr ys)
        all_goals
          go_roundg (na + nb - (i + k))
          case measure => omega
          case rel =>
            have hBx : Below mb W4 x1 := (HR.out.2.2.1.trans (HC.out.2.1.mono (by omega))).trans (HC.out.1.below' HK.out.2)
            first
              | exact ⟨i + 1, k, v1, _, by go_num, rfl, by omega, by omega, by omega, HI.out.2.1 hlt, HK.out.1, hBx⟩
              | exact ⟨i, k + 1, v1, _, rfl, by go_num, by omega, by omega, by omega, HI.out.2.2 hlt, HK.out.1, hBx⟩
    · have hex : ¬ i < na ∨ (i < na ∧ ¬ k < nb) := by omega
      have hfin := hI.fin (by rw [HN.out.1, HN.out.2.1]; omega)
      have z2 := (HR.out.2.2.1.block (S + 1 + 1) (by have := HB.out; omega)).trans H0.out.2.2
      have d0 := nd_cell z2 0
      have df := frozen_of_row wr (S + 1 + 1) 0 _ _ z2
      have m0 := HR.out.2.1.1.1
      obtain ⟨p1, n1, cp1, rfl⟩ := HR.out.2.1.slc
      have s0 := World.cell?_setCell_same wr ⟨S + 1 + 1, 0, none⟩ (.slice p1 n1 cp1) d0
      have hIs : Is m (fun x => P x && Q x) := fun x => by
        rw [hfin, Bool.and_eq_true, HN.out.2.2.2.2.1 x, HN.out.2.2.2.2.2 x]
      have hWb : Below W.heap.size W wr := HW.out.2.2.1.trans (HR.out.2.2.1.mono (by rw [HW.out.2.2.2]; have := HB.out; omega))
      have HE := Lib.hid (fin_map (P := fun x => P x && Q x) HR.out.2.1 (by have := HB.out; omega) hI.nrm hIs hWb (show W.heap.size ≤ S + 1 + 1 by rw [HW.out.2.2.2]; omega))
      clear hlt hI hfin z2 hIs hWb
      rcases hex with hex | ⟨hex, hex'⟩
      all_goals
        go_wp2_with fail
        refine bodyPost_ret (v := .agg #[.slice p1 n1 cp1]) (by simp [results, Try.results22, go_sem, s0]) rfl ?_
        exact HE.out
end Go.Proofs.Ytpdidlnbeahanaa
