import Derived.Test.YtieohdlmighmkaaY4
import Derived.Test.YtieohdlmighmkaaU2
import Derived.Deep.CutBlock
import Derived.Deep.CutRange
import Derived.Deep.LoopGhost
namespace Go.Proofs.Ytieohdlmighmkaa.I
open Go Go.RowKit Go.Shelf Go.Proofs Go.Proofs.Ytieohdlmighmkaa
attribute [local go_sem] eql26n eql26f

set_option maxRecDepth 100000 in
set_option maxHeartbeats 4000000 in
theorem all_walk (p : Option Addr) (xs : List Op3) (len cap : Nat) (ask : Int) (W : World) (hlen : xs.length = len) (hP : ParO W p xs) :
    Calls Try.prog 3 #[.slice p len cap, (Value.int .i64 (ask))] W fun e W' => e = .returned (.bool true) ∧ Below W.heap.size W W' := by
  have hbeg := S.begun_any W
  go_enter Try.func3, Try.ntmps3
  go_wp2_with (first
    | (go_at_call 6; (with_reducible refine hbeg.mono ?_); rintro e x0 ⟨rfl, b0⟩; have hnew := new_any 8 #[] (fun x => x) x0; clear hbeg)
    | (go_at_call 7; (with_reducible refine hnew.mono ?_); rintro e x1 ⟨rfl, m1, b1⟩; clear hnew))
  obtain ⟨mb, hmb⟩ : ∃ mb, x0.heap.size = mb := ⟨_, rfl⟩
  have hWm : W.heap.size ≤ mb := by have := b0.size; omega
  have hc := cmp8 mb x0
  rw [hmb] at m1 ⊢
  have HS := Lib.hid m1
  clear m1 b1
  go_loopg [7, 8] 61 (fun k lv iv w => ∃ i : Nat, i ≤ 60 ∧ i ≤ len ∧ 61 ≤ i + k ∧ iv = .int .i64 (i : Int) ∧ ∃ L : List (Int × Int), L.length ≤ i ∧ Mp mb x0 8 #[] (fun x => x) mb L w ∧ HR w mb lv L)
  case atStart => exact ⟨0, Nat.zero_le _, Nat.zero_le _, Nat.le_refl _, rfl, [], Nat.le_refl _, HS.out, HRow.nil⟩
  case round =>
    clear HS
    obtain ⟨i, hi60, hil, hik, rfl, L, hLi, hM, hR⟩ := hrel
    obtain ⟨nl, hnl⟩ : ∃ nl, L.length = nl := ⟨_, rfl⟩
    unfold HR at hR
    rw [hnl] at hR hLi
    obtain ⟨pl, cl, rfl, hcl, hcm⟩ := hR.isslice
    have hPl := hr_pairs hR hnl
    by_cases hlt : i < len ∧ i < 60
    · obtain ⟨h1, h2⟩ := hlt
      have hd60 : decide ((i : Int) < 60) = true := decide_eq_true (by omega)
      obtain ⟨b, off, rfl, hbW, hc0, hc1, hc2⟩ := hP i (by omega)
      have hup : ∀ q v, W.cell? ⟨b, q, none⟩ = some v → wr.cell? ⟨b, q, none⟩ = some v := fun q v h => by
        rw [hM.bel.cell (p := ⟨b, q, none⟩) (by show b < mb; omega), b0.cell (p := ⟨b, q, none⟩) hbW]; exact h
      have hw0 := hup _ _ hc0
      have hw1 := hup _ _ hc1
      have hw2 := hup _ _ hc2
      obtain ⟨⟨kd, k, v⟩, hop⟩ : ∃ o, xs[i] = o := ⟨_, rfl⟩
      rw [hop] at hw0 hw1 hw2
      dsimp only at hw0 hw1 hw2
      go_upto_block 2 with fail
      obtain ⟨wo, hwo⟩ : ∃ wo, wr.alloc (.cells #[(Value.int .i64 (kd)), (Value.int .i64 (k)), (Value.int .i64 (v))] 29) = wo := ⟨_, rfl⟩
      obtain ⟨ob, hob⟩ : ∃ ob, wr.heap.size = ob := ⟨_, rfl⟩
      have hbo : Below wr.heap.size wr wo := hwo ▸ below_alloc wr _
      have hho : wo.heap[ob]? = some (.cells #[(Value.int .i64 (kd)), (Value.int .i64 (k)), (Value.int .i64 (v))] 29) := by rw [← hwo, ← hob]; exact heap_alloc_new wr _
      have hMo := hM.later hbo
      have hRo := hR.later hbo
      have hPo := hPl.later hbo
      have o0q : ∀ q, (wo.drewN q).cell? ⟨ob, 0, none⟩ = some (Value.int .i64 (kd)) := fun q => nd_cell hho 0
      have o1q : ∀ q, (wo.drewN q).cell? ⟨ob, 1, none⟩ = some (Value.int .i64 (k)) := fun q => nd_cell hho 1
      have o2q : ∀ q, (wo.drewN q).cell? ⟨ob, 2, none⟩ = some (Value.int .i64 (v)) := fun q => nd_cell hho 2
      have hmo : mb < ob := by have := hM.lt; omega
      rw [hwo, hob]
      have HO := Lib.hid (And.intro hbo (And.intro hho (And.intro hMo hRo)))
      have HN := Lib.hid hnl
      clear hbo hho hMo hRo hwo hw0 hw1 hw2 hc0 hc1 hc2 hup hR hM hPl hop hP hnl hob
      go_cut [10] from 33 to 48 (fun av wx => ∃ a q : Nat, a ≤ nl ∧ av = .int .i64 (a : Int) ∧ below (fun x => x) k L = a ∧ wx = wo.drewN q)
      case first =>
        have hnl := HN.out
        go_wp2_with fail
        go_loopg [10] (nl + 1) (fun kk av w => ∃ a : Nat, a ≤ nl ∧ nl + 1 ≤ a + kk ∧ av = .int .i64 (a : Int) ∧ (∀ q (h : q < L.length), q < a → L[q].1 < k) ∧ ∃ q, w = wo.drewN q)
        case atStart => exact ⟨0, Nat.zero_le _, by omega, rfl, fun q h hq => by omega, 0, rfl⟩
        case round =>
          obtain ⟨a, han, hak, rfl, hlo, q, rfl⟩ := hrel
          by_cases hal : a < nl
          · obtain ⟨g, rfl, hgl, e0, e1⟩ := hPo a (by omega)
            obtain ⟨⟨ka, va⟩, hka⟩ : ∃ e, L[a]'(by omega) = e := ⟨_, rfl⟩
            rw [hka] at e0 e1
            have e0q : ∀ q, (wo.drewN q).cell? ⟨g, a * 2, none⟩ = some (Value.int .i64 (ka)) := fun q => e0
            have hdl : decide ((a : Int) < (nl : Int)) = true := decide_eq_true (by omega)
            by_cases hkk : ka < k
            · have hdk : decide (ka < k) = true := decide_eq_true hkk
              go_wp2_with fail
              go_quiet (fail)
              go_wp2_with fail
              go_roundg (nl - a)
              case measure => omega
              case rel => exact ⟨a + 1, by omega, by omega, by simp, fun q h hq => by
                by_cases e : q = a
                · subst e; rw [hka]; exact hkk
                · exact hlo q h (by omega), _, rfl⟩
            · have hdk : decide (ka < k) = false := decide_eq_false hkk
              have hbl : below (fun x => x) k L = a := below_is (by omega) hlo (fun h => by rw [hka]; exact hkk)
              go_wp2_with fail
              go_quiet (fail)
              go_wp2_with fail
              go_meet
              exact ⟨a, q + nq, by omega, rfl, hbl, World.drewN_drewN _ _ _⟩
          · have hbl : below (fun x => x) k L = a := below_is (by omega) hlo (fun h => by omega)
            have hdl : decide ((a : Int) < (nl : Int)) = false := decide_eq_false (by omega)
            go_wp2_with fail
            go_quiet (fail)
            go_wp2_with fail
            go_meet
            exact ⟨a, q + nq, by omega, rfl, hbl, World.drewN_drewN _ _ _⟩
      case rest =>
        obtain ⟨a, q, han, rfl, hbl, rfl⟩ := hcut
        obtain ⟨hasb, hh⟩ : ∃ hb : Bool, (hb = true ↔ ∃ h : a < L.length, L[a].1 = k) := ⟨decide (∃ h : a < L.length, L[a].1 = k), by simp⟩
        have HH := Lib.hid hh
        clear hh
        go_upto_region 13 with fail
        go_cut [11] from 49 to 62 (fun hv wx => ∃ q, hv = .bool hasb ∧ wx = wo.drewN q)
        case first =>
          have hnl := HN.out
          by_cases hal : a < nl
          · obtain ⟨g, rfl, hgl, e0, e1⟩ := hPo a (by omega)
            obtain ⟨⟨ka, va⟩, hka⟩ : ∃ e, L[a]'(by omega) = e := ⟨_, rfl⟩
            rw [hka] at e0 e1
            have e0q : ∀ q, (wo.drewN q).cell? ⟨g, a * 2, none⟩ = some (Value.int .i64 (ka)) := fun q => e0
            have hdl : decide ((a : Int) < (nl : Int)) = true := decide_eq_true (by omega)
            obtain ⟨eb, heb⟩ : ∃ eb, (ka == k) = eb := ⟨_, rfl⟩
            have hhe : hasb = eb := by
              rw [Bool.eq_iff_iff, HH.out]
              constructor
              · rintro ⟨h, e⟩; rw [hka] at e; rw [← heb]; simpa using e
              · intro h; rw [← heb] at h; exact ⟨by omega, by rw [hka]; simpa using h⟩
            subst hhe
            go_wp2_with fail
            go_quiet (fail)
            go_wp2_with fail
            go_meet
            exact ⟨_, rfl, World.drewN_drewN _ _ _⟩
          · have hdl : decide ((a : Int) < (nl : Int)) = false := decide_eq_false (by omega)
            have hhf : hasb = false := by
              cases hasb
              · rfl
              · obtain ⟨h, _⟩ := HH.out.1 rfl; omega
            subst hhf
            go_wp2_with fail
            go_quiet (fail)
            go_wp2_with fail
            go_meet
            exact ⟨_, rfl, World.drewN_drewN _ _ _⟩
        case rest =>
          obtain ⟨q, rfl, rfl⟩ := hcut
          go_upto_block 4 with fail
          have hMq := fun q' => HO.out.2.2.1.later (below_drewN wo q')
          have hRq : HRow (wo.drewN q) (mb + 1) 31 2 (.slice pl nl cl) nl (cells2 L) := HO.out.2.2.2.later (below_drewN wo q)
          go_cut [7] from 65 to 114 (fun lv wx => ∃ L2 : List (Int × Int), L2.length ≤ nl + 1 ∧ Mp mb x0 8 #[] (fun x => x) mb L2 wx ∧ HRow wx (mb + 1) 31 2 lv L2.length (cells2 L2) ∧ wx.heap[ob]? = some (.cells #[(Value.int .i64 (kd)), (Value.int .i64 (k)), (Value.int .i64 (v))] 29) ∧ below (fun x => x) k L2 = a)
          case first =>
            have hnl := HN.out
            have hho := HO.out.2.1
            have hstep : ∀ y, Chg (fun b => b = mb) (wo.drewN q) y → y.heap[ob]? = some (.cells #[(Value.int .i64 (kd)), (Value.int .i64 (k)), (Value.int .i64 (v))] 29) ∧ HRow y (mb + 1) 31 2 (.slice pl nl cl) nl (cells2 L) := fun y hy =>
              ⟨(hy.block ob (lt_of_heap hho) (by omega)).trans hho, hRq.chg (by omega) hy⟩
            have hsrt := HO.out.2.2.1.srt
            by_cases hk0 : kd = 0
            · subst hk0
              have hput := Put_any hc mb L k v (wo.drewN q) (by omega) (hMq q)
              cases hasb
              · have hne : ∀ h : a < L.length, L[a].1 ≠ k := fun h e => by have := HH.out.2 ⟨h, e⟩; simp at this
                have hbn : ∀ h : below (fun x => x) k L < L.length, L[below (fun x => x) k L].1 ≠ k := by rw [hbl]; exact hne
                have hget := get_new (k := k) hsrt hbn
                have hins : insL (fun x => x) k v L = L.take a ++ (k, v) :: L.drop a := by have h := ins_new (k := k) (v := v) (L := L) hbn; rw [hbl] at h; exact h
                rw [hget, hins] at hput
                obtain ⟨i0, hi0, hz0, hz1, hz2⟩ := info_parts info31
                have happ : ∀ y, Chg (fun b => b = mb) (wo.drewN q) y → ∃ g cap w', (Builtin.append_ #[27, 27] 27 #[.slice pl nl cl, .slice (some ⟨y.heap.size, 0, none⟩) 1 1]).run Try.prog (y.alloc (.cells #[(Value.int .i64 (0)), (Value.int .i64 (0))] 31)) = .ok (.slice (some ⟨g, 0, none⟩) (nl + 1) cap) w' ∧
                    HRow w' (mb + 1) 31 2 (.slice (some ⟨g, 0, none⟩) (nl + 1) cap) (nl + 1) (cells2 (L ++ [(0, 0)])) ∧ (y.alloc (.cells #[(Value.int .i64 (0)), (Value.int .i64 (0))] 31)).grownBy w' (Value.slice pl nl cl).ownBlock := fun y hy => by
                  have h := run_append_has (P := Try.prog) (y.alloc (.cells #[(Value.int .i64 (0)), (Value.int .i64 (0))] 31)) (mb + 1) 27 27 31 i0 _ 2 16 Try.underlying27 hi0 hz0 hz1 hz2 rfl (by decide) ((hstep y hy).2.later (below_alloc y _)) ⟨y.heap.size, 0, none⟩ 1 1 [(Value.int .i64 (0)), (Value.int .i64 (0))] rfl (cell_two_new _ _ _ _) (by simp [Value.oneCell']) (by decide) (by unfold maxLen; omega) (by omega) (by rw [World.size_alloc]; exact Nat.le_succ_of_le (Nat.le_trans (show mb + 1 ≤ wo.heap.size from HO.out.2.2.1.lt) hy.size))
                  rw [cells2_append]
                  exact h
                have HI := Lib.hid hins
                clear hi0 hz0 hz1 hz2 hget hins hbn hne
                go_upto_region 20 with (first
                  | (go_at_call 9; (with_reducible refine hput.mono ?_); rintro e y1 ⟨rfl, m2, c2⟩; obtain ⟨k1, r1⟩ := hstep y1 c2; have p0 := nd_cell k1 0; have p1 := nd_cell k1 1; have p2 := nd_cell k1 2; have p1' : y1.cell? ⟨ob, 1, none⟩ = some (Value.int .i64 (k)) := p1; have p2' : y1.cell? ⟨ob, 2, none⟩ = some (Value.int .i64 (v)) := p2; obtain ⟨g, cap', y2, hrun, r2, g2⟩ := happ y1 c2; clear happ)
                  | (at_builtin; refine wpList_append_run rfl (.tmp 77) (.tmp 79) 27 rfl rfl rfl hrun ?_))
                obtain ⟨cur, hmg, hgc, hcc, _, hcs, _⟩ := r2.form
                have hs31 := size31
                obtain ⟨a1, ha1⟩ : ∃ a1 : Nat, a1 = a + 1 := ⟨_, rfl⟩
                have hwa : IntKind.i64.wrap ((a : Int) + 1) = (a1 : Int) := by rw [ha1]; rw [IntKind.wrap_i64]; omega
                have hb0 : (a : Int) ≤ (nl : Int) + 1 := by omega
                have hb1 : (a1 : Int) ≤ (nl : Int) + 1 := by omega
                have hn0 : cap' ≠ a := by omega
                have HA := Lib.hid ha1
                have hcn : (movedC L a).length = Nat.min (nl + 1 - a) (nl + 1 - a1) * 2 := by have h := Nat.min_eq_right (show nl + 1 - a1 ≤ nl + 1 - a by omega); show _ = min (nl + 1 - a) (nl + 1 - a1) * 2; rw [cells2_len, List.length_drop, HN.out, h]; omega
                have HCN := Lib.hid hcn
                obtain ⟨mA, kA⟩ := after_app m2 r1 k1 g2
                obtain ⟨M, hM1, hM2, r3⟩ := hr_moved (w := y2.drew) HN.out han cur r2 hgc k v
                rw [← ha1, List.append_assoc] at r3
                have hml : a1 * 2 + (movedC L a).length ≤ (nl + 1) * 2 := by rw [cells2_len, List.length_drop, HN.out]; omega
                have hms := moved_src r2 a
                have HM := Lib.hid (And.intro hM1 (And.intro hM2 hml))
                clear ha1 hcn hM1 hM2 hml
                by_cases hn1 : cap' = a1
                · have hm0 : movedC L a = [] := by unfold movedC; rw [List.drop_eq_nil_of_le (by have := HA.out; have := HN.out; omega)]; rfl
                  rw [hm0] at r3
                  rw [List.nil_append, List.length_nil, Nat.add_zero, List.take_append_drop, Array.toArray_toList] at r3
                  subst hn1
                  go_region_law? (refine step_copy_sized rfl (.tmp 84) (.tmp 87) 27 27 rfl 31 2 Try.underlying27 hs31 0 (cap' - cap') (nl + 1 - a) (cap' - a) g 0 ⟨g, a * 2, none⟩ (by simp [Act.eval, Act.put]) (by simp [Act.eval, Act.put]) cur 31 hgc [] (by have h := Nat.min_zero (nl + 1 - a); show _ = min (nl + 1 - a) 0 * 2; rw [h]; rfl) (by intro j u hj; simp at hj) (by simp) (by intro u hu; simp at hu) ?_)
                  obtain ⟨w3, hw3⟩ : ∃ w3, w3 = y2.drew.setRow g cur := ⟨_, rfl⟩
                  have gs := grown_setRow y2 g cur
                  rw [← hw3] at r3 gs ⊢
                  clear hw3
                  obtain ⟨mB, kB⟩ := after_set mA kA hmg hgc gs
                  have p0 := nd_cell kB 0; have p1 := nd_cell kB 1; have p2 := nd_cell kB 2; have p1' : w3.cell? ⟨ob, 1, none⟩ = some (Value.int .i64 (k)) := p1; have p2' : w3.cell? ⟨ob, 2, none⟩ = some (Value.int .i64 (v)) := p2
                  have s0 := r3.cell (cells2_at (L := M) (j := a) (by have := HM.out.1; omega)).1; have s1 := r3.cell (cells2_at (L := M) (j := a) (by have := HM.out.1; omega)).2; have f0 := r3.frozenAt (a * 2); have f1 := r3.frozenAt (a * 2 + 1)
                  go_wp2_with fail
                  go_meet
                  obtain ⟨_, cu3, hg3⟩ := r3.block g rfl
                  obtain ⟨r4, gb4⟩ := hr_set r3 a k v
                  obtain ⟨mC, kC⟩ := after_set mB kB hmg hg3 gb4
                  refine ⟨M.set a (k, v), by rw [List.length_set, HM.out.1]; exact Nat.le_refl _, by rw [HM.out.2.1]; exact mC, by rw [List.length_set, HM.out.1]; exact r4, kC, ?_⟩
                  rw [HM.out.2.1, ← HI.out, below_ins]
                  exact hbl
                · go_region_law? (refine step_copy_sized rfl (.tmp 84) (.tmp 87) 27 27 rfl 31 2 Try.underlying27 hs31 (nl + 1 - a1) (cap' - a1) (nl + 1 - a) (cap' - a) g (a1 * 2) ⟨g, a * 2, none⟩ (by simp [Act.eval, Act.put]) (by simp [Act.eval, Act.put]) cur 31 hgc (movedC L a) HCN.out hms (by have := HM.out.2.2; have : (nl + 1) * 2 ≤ cap' * 2 := Nat.mul_le_mul_right _ hcc; omega) (cells2_one _) ?_)
                  obtain ⟨w3, hw3⟩ : ∃ w3, w3 = y2.drew.setRow g (List.take (a1 * 2) cur.toList ++ (movedC L a ++ List.drop (a1 * 2 + (movedC L a).length) cur.toList)).toArray := ⟨_, rfl⟩
                  have gs := grown_setRow y2 g (List.take (a1 * 2) cur.toList ++ (movedC L a ++ List.drop (a1 * 2 + (movedC L a).length) cur.toList)).toArray
                  rw [← hw3] at r3 gs ⊢
                  clear hw3
                  obtain ⟨mB, kB⟩ := after_set mA kA hmg hgc gs
                  have p0 := nd_cell kB 0; have p1 := nd_cell kB 1; have p2 := nd_cell kB 2; have p1' : w3.cell? ⟨ob, 1, none⟩ = some (Value.int .i64 (k)) := p1; have p2' : w3.cell? ⟨ob, 2, none⟩ = some (Value.int .i64 (v)) := p2
                  have s0 := r3.cell (cells2_at (L := M) (j := a) (by have := HM.out.1; omega)).1; have s1 := r3.cell (cells2_at (L := M) (j := a) (by have := HM.out.1; omega)).2; have f0 := r3.frozenAt (a * 2); have f1 := r3.frozenAt (a * 2 + 1)
                  go_wp2_with fail
                  go_meet
                  obtain ⟨_, cu3, hg3⟩ := r3.block g rfl
                  obtain ⟨r4, gb4⟩ := hr_set r3 a k v
                  obtain ⟨mC, kC⟩ := after_set mB kB hmg hg3 gb4
                  refine ⟨M.set a (k, v), by rw [List.length_set, HM.out.1]; exact Nat.le_refl _, by rw [HM.out.2.1]; exact mC, by rw [List.length_set, HM.out.1]; exact r4, kC, ?_⟩
                  rw [HM.out.2.1, ← HI.out, below_ins]
                  exact hbl
              · obtain ⟨hal, hae⟩ := HH.out.1 rfl
                have hbe : L[below (fun x => x) k L].1 = k := by simp only [hbl]; exact hae
                have hget : getL (fun x => x) k L = some L[a].2 := by have h := get_has (k := k) (L := L) (by omega) hbe; simp only [hbl] at h; exact h
                have hins : insL (fun x => x) k v L = L.set a (k, v) := by have h := ins_has (k := k) (v := v) (L := L) (by omega) hbe; rw [hbl] at h; exact h
                rw [hget, hins] at hput
                obtain ⟨g, cap', hpe, _⟩ := hRq.slice (by omega)
                cases hpe
                have HI := Lib.hid hins
                clear hget hins hbe hae
                go_wp2_with (go_at_call 9; (with_reducible refine hput.mono ?_); rintro e y1 ⟨rfl, m2, c2⟩; obtain ⟨k1, r1⟩ := hstep y1 c2; have p0 := nd_cell k1 0; have p1 := nd_cell k1 1; have p2 := nd_cell k1 2; have s0 := r1.cell (cells2_at (L := L) (j := a) hal).1; have s1 := r1.cell (cells2_at (L := L) (j := a) hal).2; have f0 := r1.frozenAt (a * 2); have f1 := r1.frozenAt (a * 2 + 1); have p1' : y1.cell? ⟨ob, 1, none⟩ = some (Value.int .i64 (k)) := p1; have p2' : y1.cell? ⟨ob, 2, none⟩ = some (Value.int .i64 (v)) := p2)
                go_meet
                obtain ⟨r2, gb2⟩ := hr_set r1 a k v
                obtain ⟨hgm, cur, hgc⟩ := r1.block g rfl
                have hgo : g ≠ ob := fun e => by rw [e, k1] at hgc; cases hgc
                refine ⟨L.set a (k, v), by rw [List.length_set]; omega, m2.row gb2 (fun q hq => by cases hq; exact ⟨by omega, cur, hgc⟩), by rw [List.length_set, hnl]; exact r2, (gb2.block ob (lt_of_heap k1) (fun e => hgo (by cases e; rfl))).trans k1, ?_⟩
                rw [← HI.out, below_ins]
                exact hbl
            · have hdel := Del_any hc mb L k (wo.drewN q) (by omega) (hMq q)
              have ek0 : (kd == 0) = false := by simp [hk0]
              by_cases hk1 : kd = 1
              · subst hk1
                cases hasb
                · have hne : ∀ h : a < L.length, L[a].1 ≠ k := fun h e => by have := HH.out.2 ⟨h, e⟩; simp at this
                  have hbn : ∀ h : below (fun x => x) k L < L.length, L[below (fun x => x) k L].1 ≠ k := by rw [hbl]; exact hne
                  have hget := get_new (k := k) hsrt hbn
                  rw [del_new hget, hget] at hdel
                  clear hget hbn hne
                  go_wp2_with (go_at_call 10; (with_reducible refine hdel.mono ?_); rintro e y1 ⟨rfl, m2, c2⟩; obtain ⟨k1, r1⟩ := hstep y1 c2)
                  go_meet
                  exact ⟨L, by omega, m2, by rw [hnl]; exact r1, k1, hbl⟩
                · obtain ⟨hal, hae⟩ := HH.out.1 rfl
                  have hbe : L[below (fun x => x) k L].1 = k := by simp only [hbl]; exact hae
                  have hget : getL (fun x => x) k L = some L[a].2 := by have h := get_has (k := k) (L := L) (by omega) hbe; simp only [hbl] at h; exact h
                  have hdl : delL (fun x => x) k L = L.eraseIdx a := by have h := del_has (k := k) (L := L) (by omega) hbe; rw [hbl] at h; exact h
                  rw [hget, hdl] at hdel
                  obtain ⟨g, cap', hpe, hcc, _⟩ := hRq.slice (by omega)
                  cases hpe
                  have HI := Lib.hid hdl
                  obtain ⟨a1, ha1⟩ : ∃ a1 : Nat, a1 = a + 1 := ⟨_, rfl⟩
                  have hwa : IntKind.i64.wrap ((a : Int) + 1) = (a1 : Int) := by rw [ha1, IntKind.wrap_i64]; omega
                  have hb0 : (a : Int) ≤ (nl : Int) := by omega
                  have hb1 : (a1 : Int) ≤ (nl : Int) := by omega
                  have hb2 : (a : Int) ≤ (cl : Int) := by omega
                  have hn0 : cl ≠ a := by omega
                  have HA := Lib.hid ha1
                  obtain ⟨i0, hi0, hz0, hz1, hz2⟩ := info_parts info31
                  have happ : ∀ y ad, HRow y (mb + 1) 31 2 (.slice (some ⟨g, 0, none⟩) nl cl) nl (cells2 L) → (a1 < nl → ad = some ⟨g, a1 * 2, none⟩) → mb + 1 ≤ y.heap.size → ∃ p cap2 w', (Builtin.append_ #[27, 27] 27 #[.slice (some ⟨g, 0, none⟩) a a, .slice ad (nl - a1) (cl - a1)]).run Try.prog y = .ok (.slice p (nl - 1) cap2) w' ∧ HRow w' (mb + 1) 31 2 (.slice p (nl - 1) cap2) (nl - 1) (cells2 (L.eraseIdx a)) ∧ y.grownBy w' none := fun y ad r had hs => by
                    rw [HA.out] at had ⊢
                    have h := run_append_cut (P := Try.prog) y (mb + 1) 27 27 31 i0 _ 2 16 Try.underlying27 hi0 hz0 hz1 hz2 rfl (by decide) r a (cl - (a + 1)) (by omega) ad had (by omega) (by omega) hs
                    rw [hr_cut_eq] at h
                    exact h
                  clear hget hbe hae hdl hi0 hz0 hz1 hz2 ha1
                  go_upto_region 26 with (go_at_call 10; (with_reducible refine hdel.mono ?_); rintro e y1 ⟨rfl, m2, c2⟩; obtain ⟨k1, r1⟩ := hstep y1 c2; have hs1 : mb + 1 ≤ y1.heap.size := Nat.le_trans (show mb + 1 ≤ wo.heap.size from HO.out.2.2.1.lt) c2.size)
                  by_cases hn1 : cl = a1
                  · subst hn1
                    obtain ⟨p2, cap2, y2, hrun, r2, g2⟩ := happ y1.drew (some ⟨g, 0, none⟩) r1 (fun h => by omega) hs1
                    have e0 : nl - cl = 0 := by omega
                    rw [e0] at hrun
                    go_region_law? (refine step_append_run rfl (.tmp 109) (.tmp 113) 27 rfl (by simp [Act.eval, Act.put]) (by simp [Act.eval, Act.put]) hrun ?_)
                    go_wp2_with fail
                    go_meet
                    have md := (m2.later (below_drewN y1 1)).row (W' := y2) (o := none) g2 (fun q hq => by cases hq)
                    have kd2 : y2.heap[ob]? = some (.cells #[(Value.int .i64 (1)), (Value.int .i64 (k)), (Value.int .i64 (v))] 29) := (g2.block ob (lt_of_heap k1) (by simp)).trans k1
                    have hle : (L.eraseIdx a).length = nl - 1 := by rw [List.length_eraseIdx, if_pos hal, hnl]
                    exact ⟨L.eraseIdx a, by omega, md, by rw [hle]; exact r2, kd2, by rw [← HI.out, below_del hsrt]; exact hbl⟩
                  · obtain ⟨p2, cap2, y2, hrun, r2, g2⟩ := happ y1.drew (some ⟨g, a1 * 2, none⟩) r1 (fun _ => rfl) hs1
                    go_region_law? (refine step_append_run rfl (.tmp 109) (.tmp 113) 27 rfl (by simp [Act.eval, Act.put]) (by simp [Act.eval, Act.put]) hrun ?_)
                    go_wp2_with fail
                    go_meet
                    have md := (m2.later (below_drewN y1 1)).row (W' := y2) (o := none) g2 (fun q hq => by cases hq)
                    have kd2 : y2.heap[ob]? = some (.cells #[(Value.int .i64 (1)), (Value.int .i64 (k)), (Value.int .i64 (v))] 29) := (g2.block ob (lt_of_heap k1) (by simp)).trans k1
                    have hle : (L.eraseIdx a).length = nl - 1 := by rw [List.length_eraseIdx, if_pos hal, hnl]
                    exact ⟨L.eraseIdx a, by omega, md, by rw [hle]; exact r2, kd2, by rw [← HI.out, below_del hsrt]; exact hbl⟩
              · have ek1 : (kd == 1) = false := by simp [hk1]
                go_wp2_with fail
                go_meet
                exact ⟨L, by omega, hMq q, by rw [hnl]; exact hRq, hho, hbl⟩
          case rest =>
            obtain ⟨L2, hl2, mC, rC, kC, hb2⟩ := hcut
            obtain ⟨n2, hn2⟩ : ∃ n2, L2.length = n2 := ⟨_, rfl⟩
            rw [hn2] at hl2 rC
            obtain ⟨pl2, cl2, rfl, _, _⟩ := rC.isslice
            have hP2 := hr_pairs rC hn2
            have hgt := Get_any hc mb L2 k wc (by omega) mC
            have p1w : wc.cell? ⟨ob, 1, none⟩ = some (Value.int .i64 (k)) := nd_cell kC 1
            have ha2 : a ≤ n2 := by rw [← hb2, ← hn2]; exact below_le
            have hfin : ∀ y, Below wc.heap.size wc y → ∃ L3 : List (Int × Int), L3.length ≤ i + 1 ∧ Mp mb x0 8 #[] (fun x => x) mb L3 y ∧ HR y mb (.slice pl2 n2 cl2) L3 := fun y hy => ⟨L2, by omega, mC.later hy, by show HRow _ _ _ _ _ L2.length _; rw [hn2]; exact rC.later hy⟩
            have hob2 := fun y (hy : Below wc.heap.size wc y) => (hy.block ob (lt_of_heap kC)).trans kC
            have HQ := Lib.hid hbl
            clear hRq hMq hPo o0q o1q o2q hbl
            by_cases hal : a < n2
            · obtain ⟨⟨ka, va⟩, hka⟩ : ∃ e, L2[a]'(by omega) = e := ⟨_, rfl⟩
              have hdl : decide ((a : Int) < (n2 : Int)) = true := decide_eq_true (by omega)
              have hPa := fun y (hy : Below wc.heap.size wc y) => (hP2.later hy) a (by omega)
              simp only [hka] at hPa
              by_cases hkk : ka = k
              · have hget : getL (fun x => x) k L2 = some va := by have h := get_has (k := k) (L := L2) (by omega) (by simp only [hb2]; rw [hka]; exact hkk); simp only [hb2, hka] at h; exact h
                rw [hget] at hgt; simp only [optV] at hgt
                have hde : (ka == k) = true := by simp [hkk]
                clear hget hb2 hn2 hka
                go_wp2_with (go_at_call 11; (with_reducible refine hgt.mono ?_); rintro e y1 ⟨rfl, b1⟩; obtain ⟨g2, rfl, hg2, e0, e1⟩ := hPa y1 b1; have e0q : ∀ q, (y1.drewN q).cell? ⟨g2, a * 2, none⟩ = some (Value.int .i64 (ka)) := fun q => e0; have e1q : ∀ q, (y1.drewN q).cell? ⟨g2, a * 2 + 1, none⟩ = some (Value.int .i64 (va)) := fun q => e1; have k2 := hob2 y1 b1; have o1q : ∀ q, (y1.drewN q).cell? ⟨ob, 1, none⟩ = some (Value.int .i64 (k)) := fun q => nd_cell k2 1; have b2 := fun q => below_on b1 (below_drewN y1 q))
                go_quiet (fail)
                go_wp2_with fail
                go_roundg (60 - i)
                case measure => omega
                case rel => exact ⟨i + 1, by omega, by omega, by omega, by simp, hfin _ (b2 _)⟩
              · have hget : getL (fun x => x) k L2 = none := get_new mC.srt (by simp only [hb2, hka]; exact fun _ => hkk)
                rw [hget] at hgt; simp only [optV] at hgt
                have hde : (ka == k) = false := by simp [hkk]
                clear hget hb2 hn2 hka
                go_wp2_with (go_at_call 11; (with_reducible refine hgt.mono ?_); rintro e y1 ⟨rfl, b1⟩; obtain ⟨g2, rfl, hg2, e0, e1⟩ := hPa y1 b1; have e0q : ∀ q, (y1.drewN q).cell? ⟨g2, a * 2, none⟩ = some (Value.int .i64 (ka)) := fun q => e0; have k2 := hob2 y1 b1; have o1q : ∀ q, (y1.drewN q).cell? ⟨ob, 1, none⟩ = some (Value.int .i64 (k)) := fun q => nd_cell k2 1; have b2 := fun q => below_on b1 (below_drewN y1 q))
                go_quiet (fail)
                go_wp2_with fail
                go_roundg (60 - i)
                case measure => omega
                case rel => exact ⟨i + 1, by omega, by omega, by omega, by simp, hfin _ (b2 _)⟩
            · have hget : getL (fun x => x) k L2 = none := get_new mC.srt (fun h => by omega)
              rw [hget] at hgt; simp only [optV] at hgt
              have hdl : decide ((a : Int) < (n2 : Int)) = false := decide_eq_false (by omega)
              clear hget hb2 hn2
              go_wp2_with (go_at_call 11; (with_reducible refine hgt.mono ?_); rintro e y1 ⟨rfl, b1⟩; have b2 := fun q => below_on b1 (below_drewN y1 q))
              go_quiet (fail)
              go_wp2_with fail
              go_roundg (60 - i)
              case measure => omega
              case rel => exact ⟨i + 1, by omega, by omega, by omega, by simp, hfin _ (b2 _)⟩
    · have hex : ¬ i < len ∨ (i < len ∧ ¬ i < 60) := by omega
      clear hlt hP
      have hsame := same_any L pl nl cl ask wr hnl (by omega) hM hPl
      rcases hex with hex | ⟨hex, hex'⟩
      all_goals
        go_wp2_with (go_at_call 12; (with_reducible refine hsame.mono ?_); rintro e y1 ⟨rfl, b9⟩)
        go_ret
        exact ⟨rfl, b0.trans ((hM.bel.mono hWm).trans (b9.mono (by have := hM.lt; omega)))⟩
end Go.Proofs.Ytieohdlmighmkaa.I
